/- Numbers held against their marks. -/
import Derived.Test.YthehfkafcdociaaGreatDoorZyMgSzY
set_option maxRecDepth 20000
set_option maxHeartbeats 8000000
namespace Go.Proofs.YthehfkafcdociaaGreatDoor
open Go.RowKit
set_option linter.unusedVariables false
def wgWd (p:Wd):Nat:=(p.la.length+totA p.la)+p.fo.length+(p.ns.length+totG wgNd p.ns)+(p.bs.length+totK p.bs)+(p.sg.length+totG wgSn p.sg)+(p.ms.length+totG wgMg p.ms)
theorem szwWorld_one (p:Wd) (u:Wv) (m:Nat) (w:World) (hr:RdWd w p u) (hm:m<=4000000) (hf:FitWd p) :
    Calls Tryz.prog 4 #[wdV p u,.int .i64 (m:Int)] w fun e w'=>SzdW (FewWd p) (wgWd p) m w e w':=by
  have hla:=hf.la
  have hga:=hf.ga
  have hlf:=hf.lf
  have hgf:=hf.gf
  have hln:=hf.ln
  have hgn:=hf.gn
  have hlb:=hf.lb
  have hgb:=hf.gb
  have hls:=hf.ls
  have hgs:=hf.gs
  have hlm:=hf.lm
  have hgm:=hf.gm
  clear hf
  obtain ⟨ep,la,fo,ns,bs,sg,ms⟩:=p
  obtain ⟨ya,yf,yn,yb,ys,ym⟩:=u
  obtain ⟨hya,hyf,hyn,hyb,hys,hym⟩:=hr
  simp only at *
  obtain ⟨ada,cpa,rfl⟩:=hya.shape
  obtain ⟨adf,cpf,rfl⟩:=hyf.shape
  obtain ⟨adn,cpn,rfl⟩:=hyn.shape
  obtain ⟨adb,cpb,rfl⟩:=hyb.shape
  obtain ⟨ads,cps,rfl⟩:=hys.shape
  obtain ⟨adm,cpm,rfl⟩:=hym.shape
  have E1:=hide (fun (k:Nat) (hk:k<=4000000) V (hV:Below w.heap.size w V)=>szwLedger ep (.slice ada la.length cpa) la k V (hya.below hV (Nat.le_refl _)) hk hla hga)
  have E2:=hide (fun (k:Nat) (hk:k<=4000000) V (hV:Below w.heap.size w V)=>szwStr (.slice adf fo.length cpf) fo k V (hyf.below hV (Nat.le_refl _)) hk hlf hgf)
  have E3:=hide (fun (k:Nat) (hk:k<=4000000) V (hV:Below w.heap.size w V)=>szwNode (.slice adn ns.length cpn) ns k V (hyn.below hV (Nat.le_refl _)) hk hln hgn)
  have E4:=hide (fun (k:Nat) (hk:k<=4000000) V (hV:Below w.heap.size w V)=>szwBlock (.slice adb bs.length cpb) bs k V (hyb.below hV (Nat.le_refl _)) hk hlb hgb)
  have E5:=hide (fun (k:Nat) (hk:k<=4000000) V (hV:Below w.heap.size w V)=>szwSig (.slice ads sg.length cps) sg k V (hys.below hV (Nat.le_refl _)) hk hls hgs)
  have E6:=hide (fun (k:Nat) (hk:k<=4000000) V (hV:Below w.heap.size w V)=>szwMsg (.slice adm ms.length cpm) ms k V (hym.below hV (Nat.le_refl _)) hk hlm hgm)
  clear hya hla hga
  clear hyf hlf hgf
  clear hyn hln hgn
  clear hyb hlb hgb
  clear hys hls hgs
  clear hym hlm hgm
  simp only [wdV,lgV] at *
  obtain ⟨S0,hS0⟩:∃ x,w.alloc (.cells #[.int .i64 ep,.slice ada la.length cpa,.slice adf fo.length cpf,.slice adn ns.length cpn,.slice adb bs.length cpb,.slice ads sg.length cps,.slice adm ms.length cpm] 31)=x:=⟨_,rfl⟩
  have k0:Blk S0 w.heap.size 31 [.int .i64 ep,.slice ada la.length cpa,.slice adf fo.length cpf,.slice adn ns.length cpn,.slice adb bs.length cpb,.slice ads sg.length cps,.slice adm ms.length cpm]:=by rw [<- hS0];exact Blk.new w _ _
  have b0:Below w.heap.size w S0:=by rw [<- hS0];exact (Below.refl _ w).alloc (Nat.le_refl _) _
  obtain ⟨m0,em0⟩:∃ k:Nat,k=m:=⟨_,rfl⟩
  rw [<- em0]
  have hm0:m0<=4000000:=by omega
  have W0:=hide (show ((0:Nat):Int)+(m0:Int)<=(m0:Int) from by omega)
  clear em0 hm
  have x0:=k0.cell 0
  have x1:=k0.cell 1
  simp only [List.getElem?_cons_zero,List.getElem?_cons_succ] at x0 x1
  have K0:=hide k0
  clear k0
  go_enter Tryz.func4,Tryz.ntmps4
  go_wp2_with fail
  (try rw [hS0])
  clear hS0
  refine (E1.out m0 hm0 _ b0).mono ?_
  rintro e w1 ⟨q1,rfl,f1,hb1⟩
  have k1:=K0.out.below hb1 K0.out.lt
  have b1:=b0.trans (hb1.mono b0.size)
  clear x0 x1 K0 b0 hb1 E1
  by_cases zq1:q1 < 0
  · clear f1 k1
    go_wp2
    go_ret
    exact ⟨_,rfl,fun h=>by omega,b1⟩
  obtain ⟨m1,em1⟩:∃ k:Nat,q1=(k:Int):=⟨q1.toNat,by omega⟩
  subst em1
  obtain ⟨fa1,fb1⟩:=f1 (by omega)
  have X1:=hide fa1
  have hm1:m1<=4000000:=by omega
  have W1:=hide (show ((0+(la.length+totA la):Nat):Int)+(m1:Int)<=(m0:Int) from by have:=W0.out;omega)
  clear f1 fa1 fb1 W0
  have x2:=k1.cell 2
  simp only [List.getElem?_cons_zero,List.getElem?_cons_succ] at x2
  have K1:=hide k1
  clear k1
  go_wp2_with fail
  refine (E2.out m1 hm1 _ b1).mono ?_
  rintro e w2 ⟨q2,rfl,f2,hb2⟩
  have k2:=K1.out.below hb2 K1.out.lt
  have b2:=b1.trans (hb2.mono b1.size)
  clear x2 K1 b1 hb2 E2
  by_cases zq2:q2 < 0
  · clear f2 k2
    go_wp2
    go_ret
    exact ⟨_,rfl,fun h=>by omega,b2⟩
  obtain ⟨m2,em2⟩:∃ k:Nat,q2=(k:Int):=⟨q2.toNat,by omega⟩
  subst em2
  obtain ⟨fa2,fb2⟩:=f2 (by omega)
  have X2:=hide fa2
  have hm2:m2<=4000000:=by omega
  have W2:=hide (show ((0+(la.length+totA la)+fo.length:Nat):Int)+(m2:Int)<=(m0:Int) from by have:=W1.out;omega)
  clear f2 fa2 fb2 W1
  have x3:=k2.cell 3
  simp only [List.getElem?_cons_zero,List.getElem?_cons_succ] at x3
  have K2:=hide k2
  clear k2
  go_wp2_with fail
  refine (E3.out m2 hm2 _ b2).mono ?_
  rintro e w3 ⟨q3,rfl,f3,hb3⟩
  have k3:=K2.out.below hb3 K2.out.lt
  have b3:=b2.trans (hb3.mono b2.size)
  clear x3 K2 b2 hb3 E3
  by_cases zq3:q3 < 0
  · clear f3 k3
    go_wp2
    go_ret
    exact ⟨_,rfl,fun h=>by omega,b3⟩
  obtain ⟨m3,em3⟩:∃ k:Nat,q3=(k:Int):=⟨q3.toNat,by omega⟩
  subst em3
  obtain ⟨fa3,fb3⟩:=f3 (by omega)
  have X3:=hide fa3
  have hm3:m3<=4000000:=by omega
  have W3:=hide (show ((0+(la.length+totA la)+fo.length+(ns.length+totG wgNd ns):Nat):Int)+(m3:Int)<=(m0:Int) from by have:=W2.out;omega)
  clear f3 fa3 fb3 W2
  have x4:=k3.cell 4
  simp only [List.getElem?_cons_zero,List.getElem?_cons_succ] at x4
  have K3:=hide k3
  clear k3
  go_wp2_with fail
  refine (E4.out m3 hm3 _ b3).mono ?_
  rintro e w4 ⟨q4,rfl,f4,hb4⟩
  have k4:=K3.out.below hb4 K3.out.lt
  have b4:=b3.trans (hb4.mono b3.size)
  clear x4 K3 b3 hb4 E4
  by_cases zq4:q4 < 0
  · clear f4 k4
    go_wp2
    go_ret
    exact ⟨_,rfl,fun h=>by omega,b4⟩
  obtain ⟨m4,em4⟩:∃ k:Nat,q4=(k:Int):=⟨q4.toNat,by omega⟩
  subst em4
  obtain ⟨fa4,fb4⟩:=f4 (by omega)
  have X4:=hide fa4
  have hm4:m4<=4000000:=by omega
  have W4:=hide (show ((0+(la.length+totA la)+fo.length+(ns.length+totG wgNd ns)+(bs.length+totK bs):Nat):Int)+(m4:Int)<=(m0:Int) from by have:=W3.out;omega)
  clear f4 fa4 fb4 W3
  have x5:=k4.cell 5
  simp only [List.getElem?_cons_zero,List.getElem?_cons_succ] at x5
  have K4:=hide k4
  clear k4
  go_wp2_with fail
  refine (E5.out m4 hm4 _ b4).mono ?_
  rintro e w5 ⟨q5,rfl,f5,hb5⟩
  have k5:=K4.out.below hb5 K4.out.lt
  have b5:=b4.trans (hb5.mono b4.size)
  clear x5 K4 b4 hb5 E5
  by_cases zq5:q5 < 0
  · clear f5 k5
    go_wp2
    go_ret
    exact ⟨_,rfl,fun h=>by omega,b5⟩
  obtain ⟨m5,em5⟩:∃ k:Nat,q5=(k:Int):=⟨q5.toNat,by omega⟩
  subst em5
  obtain ⟨fa5,fb5⟩:=f5 (by omega)
  have X5:=hide fa5
  have hm5:m5<=4000000:=by omega
  have W5:=hide (show ((0+(la.length+totA la)+fo.length+(ns.length+totG wgNd ns)+(bs.length+totK bs)+(sg.length+totG wgSn sg):Nat):Int)+(m5:Int)<=(m0:Int) from by have:=W4.out;omega)
  clear f5 fa5 fb5 W4
  have x6:=k5.cell 6
  simp only [List.getElem?_cons_zero,List.getElem?_cons_succ] at x6
  have K5:=hide k5
  clear k5
  go_wp2_with fail
  refine (E6.out m5 hm5 _ b5).mono ?_
  rintro e w6 ⟨q6,rfl,f6,hb6⟩
  have k6:=K5.out.below hb6 K5.out.lt
  have b6:=b5.trans (hb6.mono b5.size)
  clear x6 K5 b5 hb6 E6
  by_cases zq6:q6 < 0
  · clear f6 k6
    go_wp2
    go_ret
    exact ⟨_,rfl,fun h=>by omega,b6⟩
  obtain ⟨m6,em6⟩:∃ k:Nat,q6=(k:Int):=⟨q6.toNat,by omega⟩
  subst em6
  obtain ⟨fa6,fb6⟩:=f6 (by omega)
  have X6:=hide fa6
  have hm6:m6<=4000000:=by omega
  have W6:=hide (show ((0+(la.length+totA la)+fo.length+(ns.length+totG wgNd ns)+(bs.length+totK bs)+(sg.length+totG wgSn sg)+(ms.length+totG wgMg ms):Nat):Int)+(m6:Int)<=(m0:Int) from by have:=W5.out;omega)
  clear f6 fa6 fb6 W5
  clear k6
  go_wp2
  go_ret
  exact ⟨_,rfl,fun _=>⟨⟨X1.out.1,X1.out.2,X2.out,X3.out.1,X3.out.2,X4.out.1,X4.out.2,X5.out.1,X5.out.2,X6.out.1,X6.out.2⟩,by have:=W6.out;unfold wgWd;simp only;omega⟩,b6⟩
def mkV (k n:Nat):List Vl:=(List.range n).map (fun i=>(mtx (k+2 * i),((k+2 * i+1:Nat):Int)))
theorem mkV_len (k n:Nat):(mkV k n).length=n:=by simp [mkV]
theorem mkV_at (k n j:Nat) (h:j < (mkV k n).length):(mkV k n)[j]=(mtx (k+2 * j),((k+2 * j+1:Nat):Int)):=by simp [mkV]
theorem gen_setV {α β:Type} (M l:List α) (f:α->β) (j:Nat) (hM:M.length=l.length) (hj:j < M.length):((M.take j ++ l.drop j).map f).set j (f M[j])=(M.take (j+1) ++ l.drop (j+1)).map f:=by
  have e1:((M.take j).map f).length=j:=by simp;omega
  rw [List.map_append,List.set_append_right _ _ (by omega),e1,Nat.sub_self,List.drop_eq_getElem_cons (show j < l.length by omega),List.map_cons,List.set_cons_zero,List.take_succ_eq_append_getElem hj,List.map_append,List.map_append,List.append_assoc]
  rfl
theorem markValS_any (v:Value) (l:List Vl) (k base:Nat) (w:World) (ho:OwnV base w v l) (hl:l.length<=10000000) (hk:k<=100000000) (hk0:0 < k) :
    Calls Tryz.prog 70 #[v,.int .i64 (k:Int)] w fun e w'=>e=.returned (.int .i64 ((k+2 * l.length:Nat):Int))/\OwnV base w' v (mkV k l.length)/\w.grownBy w' v.ownBlock:=by
  have hML:=mkV_len k l.length
  have hMA:=mkV_at k l.length
  generalize hMd:mkV k l.length=M at hML hMA
  clear hMd
  rcases ho.2 with ⟨rfl,hn⟩ | ⟨g,cap,cur,rfl,_,_,_,hcm,_,_⟩
  · have e:l=[]:=List.length_eq_zero_iff.1 hn
    subst e
    have e2:M=[]:=List.length_eq_zero_iff.1 hML
    subst e2
    have Ho:=hide ho
    clear ho
    go_enter Tryz.func70,Tryz.ntmps70
    go_wp2
    refine wp_loop_rounds 1 ?_
    rw [rounds_succ]
    go_wp2
    go_ret
    exact ⟨rfl,Ho.out,World.grownBy.refl _ _⟩
  · have Ho:=hide ho
    have HML:=hide hML
    have HMA:=hide hMA
    have hMl:l.length<=M.length:=by omega
    have hMg:M.length<=l.length:=by omega
    clear ho hML hMA
    go_enter Tryz.func70,Tryz.ntmps70
    go_wp2
    go_loopw [1,5] (fun kv iv wr=>∃ j:Nat,j<=l.length/\iv=.int .i64 (j:Int)/\kv=.int .i64 ((k+2 * j:Nat):Int)/\wr.ownsRow base 193 2 (.slice (some ⟨g,0,none⟩) l.length cap) l.length ((M.take j ++ l.drop j).map vlC).flatten/\w.grownBy wr (some g))
      (fun _ iv _=>l.length - (intOf iv).toNat)
    case atStart=>exact ⟨0,Nat.zero_le _,rfl,rfl,by simpa [OwnV] using Ho.out,World.grownBy.refl _ _⟩
    case round =>
      obtain ⟨j,hj,rfl,rfl,hown,hgr⟩:=hrel
      by_cases hlt:j < l.length
      · have hjM:j < M.length:=by omega
        obtain ⟨K,hK⟩:∃ K:Nat,k+2 * j=K:=⟨_,rfl⟩
        have hK0:0 < K:=by omega
        have hK2:K<=150000000:=by omega
        have eM:vlC M[j]=[.string (mtx K),.int .i64 ((K+1:Nat):Int)]:=by rw [HMA.out j hjM,hK];rfl
        have hsz:=vlM_sz (M.take j ++ l.drop j)
        have hlen:((M.take j ++ l.drop j).map vlC).length=l.length:=by simp;omega
        have Hm:=hide (fun w=>markText_any K w hK0 (by omega))
        obtain ⟨u0,hu0⟩:∃ u,((M.take j ++ l.drop j).map vlC).flatten[j * 2]?=some u:=⟨_,List.getElem?_eq_getElem (by rw [flat_len 2 _ hsz];omega)⟩
        obtain ⟨u1,hu1⟩:∃ u,((M.take j ++ l.drop j).map vlC).flatten[j * 2+1]?=some u:=⟨_,List.getElem?_eq_getElem (by rw [flat_len 2 _ hsz];omega)⟩
        have hli:(j:Int) < (l.length:Int):=by omega
        rw [hK]
        have HK:=hide hK
        have Hput:=hide (flat_put2 ((M.take j ++ l.drop j).map vlC) j (.string (mtx K)) (.int .i64 ((K+1:Nat):Int)) (by rw [hlen];exact hlt) hsz)
        have Heq:=hide (gen_setV M l vlC j HML.out hjM)
        rw [eM] at Heq
        clear hK
        have Hown:=hide hown
        have Hgr:=hide hgr
        clear hown hgr
        go_wp2_with fail
        refine (Hm.out _).mono ?_
        rintro e w1 ⟨rfl,hb1⟩
        have hown:=row_below Hown.out hb1 (Nat.le_refl _)
        have hgr:=grownS_trans Hgr.out (grown_below (some g) hb1)
        have d0:=hown.cellAt (j * 2) (by omega)
        have d1:=hown.cellAt (j * 2+1) (by omega)
        have f0:=hown.frozenAt (j * 2)
        have f1:=hown.frozenAt (j * 2+1)
        rw [hu0] at d0
        rw [hu1] at d1
        have hst:=hown.stored (j * 2) (.string (mtx K))
        have hst2:=hst.1.stored (j * 2+1) (.int .i64 ((K+1:Nat):Int))
        rw [Hput.out,Heq.out] at hst2
        have Hst:=hide hst2.1
        have Hgr2:=hide (grownS_trans (grownS_trans hgr hst.2) hst2.2)
        clear hst hst2 hown hgr hu0 hu1 eM Hown Hgr hb1 Hput Heq
        generalize mtx K=mK at *
        go_wp2
        go_roundw
        case rel=>exact ⟨j+1,by omega,by go_num,by rw [show k+2 * (j+1)=K+2 from by have:=HK.out;omega];go_num,Hst.out,Hgr2.out⟩
        case measure=>simp [intOf];omega
      · have e:M.take j ++ l.drop j=M:=by rw [List.take_of_length_le (by omega),List.drop_of_length_le (by omega),List.append_nil]
        rw [e] at hown
        have ho':OwnV base wr (.slice (some ⟨g,0,none⟩) l.length cap) M:=by
          unfold OwnV
          rw [HML.out]
          exact hown
        have e2:j=l.length:=by omega
        have Ho':=hide ho'
        have Hgr:=hide hgr
        clear ho' hgr hown e
        subst e2
        go_wp2
        go_ret
        exact ⟨rfl,Ho'.out,Hgr.out⟩
def mkI (k n:Nat):List Int:=(List.range n).map (fun j=>((k+j:Nat):Int))
theorem mkI_len (k n:Nat):(mkI k n).length=n:=by simp [mkI]
theorem mkI_at (k n j:Nat) (h:j < (mkI k n).length):(mkI k n)[j]=((k+j:Nat):Int):=by simp [mkI]
theorem markIntS_any (v:Value) (l:List Int) (k base:Nat) (w:World) (ho:OwnI base w v l) (hl:l.length<=10000000) (hk:k<=100000000) (hk0:0 < k) :
    Calls Tryz.prog 13 #[v,.int .i64 (k:Int)] w fun e w'=>e=.returned (.int .i64 ((k+l.length:Nat):Int))/\OwnI base w' v (mkI k l.length)/\w.grownBy w' v.ownBlock:=by
  have hML:=mkI_len k l.length
  have hMA:=mkI_at k l.length
  generalize hMd:mkI k l.length=M at hML hMA
  clear hMd
  rcases ho.2 with ⟨rfl,hn⟩ | ⟨g,cap,cur,rfl,_,_,_,hcm,_,_⟩
  · have e:l=[]:=List.length_eq_zero_iff.1 hn
    subst e
    have e2:M=[]:=List.length_eq_zero_iff.1 hML
    subst e2
    have Ho:=hide ho
    clear ho
    go_enter Tryz.func13,Tryz.ntmps13
    go_wp2
    refine wp_loop_rounds 1 ?_
    rw [rounds_succ]
    go_wp2
    go_ret
    exact ⟨rfl,Ho.out,World.grownBy.refl _ _⟩
  · have Ho:=hide ho
    have HML:=hide hML
    have HMA:=hide hMA
    have hMl:l.length<=M.length:=by omega
    have hMg:M.length<=l.length:=by omega
    clear ho hML hMA
    go_enter Tryz.func13,Tryz.ntmps13
    go_wp2
    go_loopw [1,5] (fun kv iv wr=>∃ j:Nat,j<=l.length/\iv=.int .i64 (j:Int)/\kv=.int .i64 ((k+j:Nat):Int)/\wr.ownsRow base 3 1 (.slice (some ⟨g,0,none⟩) l.length cap) l.length ((M.take j ++ l.drop j).map (Value.int .i64))/\w.grownBy wr (some g))
      (fun _ iv _=>l.length - (intOf iv).toNat)
    case atStart=>exact ⟨0,Nat.zero_le _,rfl,rfl,by simpa [OwnI] using Ho.out,World.grownBy.refl _ _⟩
    case round =>
      obtain ⟨j,hj,rfl,rfl,hown,hgr⟩:=hrel
      by_cases hlt:j < l.length
      · have hjM:j < M.length:=by omega
        obtain ⟨K,hK⟩:∃ K:Nat,k+j=K:=⟨_,rfl⟩
        have hK2:K<=200000000:=by omega
        have hK0:0 < K:=by omega
        have eM:M[j]=(K:Int):=by rw [HMA.out j hjM,hK]
        rw [hK]
        have HK:=hide hK
        clear hK
        have Hown:=hide hown
        have Hgr:=hide hgr
        clear hown hgr
        have hown2:=Hown.out
        have hf:=hown2.frozenAt j
        have hd:=hown2.cellAt j (by omega)
        obtain ⟨u,hu⟩:∃ u,((M.take j ++ l.drop j).map (Value.int .i64))[j]?=some u:=⟨_,List.getElem?_eq_getElem (by simp;omega)⟩
        rw [hu] at hd
        have hst:=hown2.stored j (.int .i64 M[j])
        rw [gen_set M l (Value.int .i64) j HML.out hjM,eM] at hst
        have Hst:=hide hst
        clear hst hown2 hu eM
        go_wp2
        go_roundw
        case rel=>exact ⟨j+1,by omega,by go_num,by rw [show k+(j+1)=K+1 from by have:=HK.out;omega];go_num,Hst.out.1,grownS_trans Hgr.out Hst.out.2⟩
        case measure=>simp [intOf];omega
      · have e:M.take j ++ l.drop j=M:=by rw [List.take_of_length_le (by omega),List.drop_of_length_le (by omega),List.append_nil]
        rw [e] at hown
        have ho':OwnI base wr (.slice (some ⟨g,0,none⟩) l.length cap) M:=by
          unfold OwnI
          rw [HML.out]
          exact hown
        have e2:j=l.length:=by omega
        have Ho':=hide ho'
        have Hgr:=hide hgr
        clear ho' hgr hown e
        subst e2
        go_wp2
        go_ret
        exact ⟨rfl,Ho'.out,Hgr.out⟩
end Go.Proofs.YthehfkafcdociaaGreatDoor
namespace Go.Proofs.YthehfkafcdociaaGreatDoor
open Go.RowKit Go.Sort
set_option linter.unusedVariables false
end Go.Proofs.YthehfkafcdociaaGreatDoor
