/- Orders marked, with what they are then, and held against their marks. -/
import Derived.Test.YthidkbhiikdokaaGreatZwVsOk
set_option maxRecDepth 20000
set_option maxHeartbeats 2000000
namespace Go.Proofs.YthidkbhiikdokaaGreat
open Go.RowKit
set_option linter.unusedVariables false
theorem heldStringS_any (v:Value) (k n:Nat) (w:World) (hr:RdS w v (mkS k n)) (hl:n<=10000000) (hk:k<=100000000) (hk0:0 < k) :
    Calls Tryz.prog 41 #[v,.int .i64 (k:Int)] w fun e w'=>e=.returned (.int .i64 ((k+n:Nat):Int))/\Below w.heap.size w w':=by
  have hML:=mkS_len k n
  have hMA:=mkS_at k n
  generalize hMd:mkS k n=M at hML hMA hr
  clear hMd
  rcases hr with ⟨a,cap,rfl,rfl,-⟩ | ⟨b,off,cap,h0,rfl,h1,h2,h3,h4⟩
  · simp at hML
    subst hML
    clear hMA
    go_enter Tryz.func41,Tryz.ntmps41
    go_wp2
    refine wp_loop_rounds 1 ?_
    rw [rounds_succ]
    go_wp2
    go_ret
    exact ⟨rfl,Below.refl _ _⟩
  · have HML:=hide hML
    have HMA:=hide hMA
    have hMl:n<=M.length:=by omega
    have hMg:M.length<=n:=by omega
    have H4:=hide h4
    clear hML hMA h4
    go_enter Tryz.func41,Tryz.ntmps41
    go_wp2
    go_loopw [1,5] (fun kv iv wr=>∃ j:Nat,j<=n/\iv=.int .i64 (j:Int)/\kv=.int .i64 ((k+j:Nat):Int)/\Below w.heap.size w wr) (fun _ iv _=>n - (intOf iv).toNat)
    case atStart=>exact ⟨0,Nat.zero_le _,rfl,rfl,Below.refl _ _⟩
    case round =>
      obtain ⟨j,hj,rfl,rfl,hb⟩:=hrel
      by_cases hlt:j < n
      · have hjM:j < M.length:=by omega
        have hc:wr.cell? ⟨b,off+j,none⟩=some (.string M[j]):=(hb.cell (p:=⟨b,off+j,none⟩) h3).trans (H4.out j hjM)
        obtain ⟨K,hK⟩:∃ K:Nat,k+j=K:=⟨_,rfl⟩
        have hK2:K<=200000000:=by omega
        have hK0:0 < K:=by omega
        have Hm:=hide (fun w=>markText_any K w hK0 hK2)
        rw [HMA.out j hjM,hK] at hc
        rw [hK]
        have HK:=hide hK
        have hsz:=hb.size
        have hbw:b < wr.heap.size:=by omega
        have hli:(j:Int) < (M.length:Int):=by omega
        have Hb:=hide hb
        clear hK hb
        go_wp2_with fail
        go_region_with (go_at_call 35;refine (Hm.out _).mono ?_;rintro e w2 ⟨rfl,hb2⟩;have hc2:=(hb2.cell (p:=⟨b,off+j,none⟩) (by exact hbw)).trans (by exact hc))
        all_goals
          rename Below _ _ _=>hb2
          go_wp2
          go_roundw
          case rel=>exact ⟨j+1,by omega,by go_num,by rw [show k+(j+1)=K+1 from by have:=HK.out;omega];go_num,Hb.out.drew.trans (hb2.mono hsz)⟩
          case measure=>simp [intOf];omega
      · have e:j=n:=by omega
        have He:=hide e
        clear e
        go_wp2
        go_ret
        exact ⟨ret_int (by rw [<- He.out]),hb⟩
end Go.Proofs.YthidkbhiikdokaaGreat
namespace Go.Proofs.YthidkbhiikdokaaGreat
open Go.RowKit Go.Sort
set_option linter.unusedVariables false
structure Oth (S:Nat->Prop) (w w':World):Prop where
  os:w'.os=w.os
  tape:w'.tape=w.tape
  output:w'.output=w.output
  size:w.heap.size<=w'.heap.size
  block:∀ k,k < w.heap.size->¬ S k->w'.heap[k]?=w.heap[k]?
theorem Oth.of_below {S:Nat->Prop} {w w':World} (h:Below w.heap.size w w'):Oth S w w':=⟨h.os,h.tape,h.output,h.size,fun k hk _=>h.block k hk⟩
theorem Oth.trans {S:Nat->Prop} {a b c:World} (h:Oth S a b) (k:Oth S b c):Oth S a c :=
  ⟨k.os.trans h.os,k.tape.trans h.tape,k.output.trans h.output,Nat.le_trans h.size k.size,fun i hi ho=>(k.block i (Nat.lt_of_lt_of_le hi h.size) ho).trans (h.block i hi ho)⟩
theorem Oth.mono {S T:Nat->Prop} {a b:World} (h:Oth S a b) (hs:∀ k,S k->T k):Oth T a b:=⟨h.os,h.tape,h.output,h.size,fun k hk hn=>h.block k hk (fun e=>hn (hs k e))⟩
theorem Oth.of_grown {S:Nat->Prop} {w w':World} {row:Option Nat} (h:w.grownBy w' row) (hr:∀ k,row=some k->S k):Oth S w w' :=
  ⟨h.os,h.tape,h.output,h.size,fun k hk ho=>h.block k hk (fun e=>ho (hr k e.symm))⟩
theorem Oth.refl (S:Nat->Prop) (w:World):Oth S w w:=⟨rfl,rfl,rfl,Nat.le_refl _,fun _ _ _=>rfl⟩
theorem Oth.set {S:Nat->Prop} {w w':World} (h:Oth S w w') {g:Nat} (h1:S g) (j:Nat) (u:Value):Oth S w (w'.setCell ⟨g,j,none⟩ u) :=
  h.trans (Oth.of_grown (grown_set w' g j u) (fun k e=>by cases e;exact h1))
theorem Oth.below {S:Nat->Prop} {B:Nat} {w w':World} (h:Oth S w w') (hB:∀ k,S k->B<=k) (hs:B<=w.heap.size):Below B w w' :=
  ⟨h.os,h.tape,h.output,h.size,fun k hk=>h.block k (by omega) (fun e=>by have:=hB k e;omega)⟩
theorem row_oth {S:Nat->Prop} {base:Nat} {w w':World} {e:TypeId} {size:Nat} {v:Value} {n:Nat} {xs:List Value} (h:w.ownsRow base e size v n xs) (hb:Oth S w w') (hn:∀ k,v.ownBlock=some k->¬ S k):w'.ownsRow base e size v n xs:=by
  refine ⟨h.1,?_⟩
  rcases h.2 with h' | ⟨g,cap,cur,hv,hbb,hg,r⟩
  · exact .inl h'
  · refine .inr ⟨g,cap,cur,hv,hbb,?_,r⟩
    have hlt:g < w.heap.size:=(Array.getElem?_eq_some_iff.1 hg).1
    rw [hb.block g hlt (hn g (by rw [hv];rfl))]
    exact hg
theorem row_step9 {base g n cap:Nat} {w:World} {T:TypeId} {Y:List Value} (h:w.ownsRow base T 5 (.slice (some ⟨g,0,none⟩) n cap) n Y) (hY:Y.length=5 * n) (i:Nat) (hi:i < 5 * n) :
    (∃ y,w.cell? ⟨g,i,none⟩=some y)/\w.frozen? ⟨g,i,none⟩=false/\∀ u,(w.setCell ⟨g,i,none⟩ u).ownsRow base T 5 (.slice (some ⟨g,0,none⟩) n cap) n (Y.set i u) :=
  ⟨⟨Y[i]'(by omega),by rw [h.cellAt i (by omega)];exact List.getElem?_eq_getElem (by omega)⟩,h.frozenAt i,fun u=>(h.stored i u).1⟩
def mkT (k n:Nat):List Tx5:=(List.range n).map (fun j=>(((k+5 * j:Nat):Int),mtx (k+5 * j+1),mtx (k+5 * j+2),((k+5 * j+3:Nat):Int),((k+5 * j+4:Nat):Int)))
theorem mkT_len (k n:Nat):(mkT k n).length=n:=by simp [mkT]
theorem mkT_at (k n j:Nat) (h:j < (mkT k n).length):(mkT k n)[j]=(((k+5 * j:Nat):Int),mtx (k+5 * j+1),mtx (k+5 * j+2),((k+5 * j+3:Nat):Int),((k+5 * j+4:Nat):Int)):=by simp [mkT]
theorem mixT {M l:List Tx5} {j:Nat} (hl:M.length=l.length) (hj:j < l.length):((M.take j ++ l.drop j).map txC).set j (txC (M[j]'(by omega)))=(M.take (j+1) ++ l.drop (j+1)).map txC:=by
  rw [List.take_succ_eq_append_getElem (by omega),<- List.map_set]
  congr 1
  rw [List.set_append_right _ _ (by simp;omega),List.length_take,show min j M.length=j from by omega,Nat.sub_self,List.drop_eq_getElem_cons hj,List.set_cons_zero,List.append_assoc]
  rfl
theorem mixT_sz (M l:List Tx5) (j:Nat):∀ x ∈ (M.take j ++ l.drop j).map txC,x.length=5:=fun x hx=>by obtain ⟨p,_,rfl⟩:=List.mem_map.1 hx;rfl
theorem markTxC_any (v:Value) (l:List Tx5) (k base:Nat) (w:World) (ho:OwnT base w v l) (hl:l.length<=10000000) (hk:k+5 * l.length<=90000000) (hk0:0 < k) :
    Calls Tryz.prog 70 #[v,.int .i64 (k:Int)] w fun e w'=>e=.returned (.int .i64 ((k+5 * l.length:Nat):Int))/\OwnT base w' v (mkT k l.length)/\Oth (fun g=>v.ownBlock=some g) w w':=by
  have hML:=mkT_len k l.length
  have hMA:=mkT_at k l.length
  generalize hMd:mkT k l.length=M at hML hMA ⊢
  clear hMd
  by_cases hne:l=[]
  · subst hne
    obtain ⟨a,c,rfl⟩:=ho.rd.shape
    have e2:M=[]:=List.length_eq_zero_iff.1 hML
    subst e2
    have Ho:=hide ho
    clear ho
    go_enter Tryz.func70,Tryz.ntmps70
    go_wp2
    refine wp_loop_rounds 1 ?_
    rw [rounds_succ]
    go_wp2
    go_ret
    exact ⟨by simp <;> rfl,Ho.out,Oth.refl _ _⟩
  · obtain ⟨g,cap,rfl⟩:∃ g cap,v=.slice (some ⟨g,0,none⟩) l.length cap:=by
      rcases ho.2 with ⟨rfl,hn⟩ | ⟨g,cap,cur,rfl,-⟩
      · exact absurd (List.length_eq_zero_iff.1 hn) hne
      · exact ⟨g,cap,rfl⟩
    have Hrow:Hid (w.ownsRow base 137 5 (.slice (some ⟨g,0,none⟩) l.length cap) l.length (l.map txC).flatten):=hide ho
    have HML:=hide hML
    have HMA:=hide hMA
    clear ho hML hMA
    have hS:Hid ((fun x=>(Value.slice (some ⟨g,0,none⟩) l.length cap).ownBlock=some x) g):=hide rfl
    go_enter Tryz.func70,Tryz.ntmps70
    go_wp2
    go_loopw [1,5] (fun kv iv wr=>∃ j:Nat,j<=l.length/\iv=.int .i64 (j:Int)/\kv=.int .i64 ((k+5 * j:Nat):Int)/\wr.ownsRow base 137 5 (.slice (some ⟨g,0,none⟩) l.length cap) l.length ((M.take j ++ l.drop j).map txC).flatten/\Oth (fun x=>(Value.slice (some ⟨g,0,none⟩) l.length cap).ownBlock=some x) w wr)
      (fun _ iv _=>l.length - (intOf iv).toNat)
    case atStart=>exact ⟨0,Nat.zero_le _,rfl,rfl,by simpa using Hrow.out,Oth.refl _ _⟩
    case round =>
      obtain ⟨j,hj,rfl,rfl,hown,hbt⟩:=hrel
      clear Hrow
      have HLl:Hid ((M.take j ++ l.drop j).length=l.length):=hide (by have:=HML.out;simp;omega)
      have hYl:((M.take j ++ l.drop j).map txC).flatten.length=5 * l.length:=by
        rw [flat_len 5 _ (mixT_sz M l j),List.length_map,HLl.out];omega
      by_cases hlt:j < l.length
      · have hli:(j:Int) < (l.length:Int):=by omega
        have Hnx:Hid (k+5 * (j+1)=k+5 * j+5):=hide (by omega)
        have hK1:k+5 * j+5<=90000000:=by omega
        have hK0:0 < k+5 * j:=by omega
        have HEnd:Hid (((((((M.take j ++ l.drop j).map txC).flatten.set (j * 5) (.int .i64 ((k+5 * j:Nat):Int))).set (j * 5+1) (.string (mtx (k+5 * j+1)))).set (j * 5+2) (.string (mtx (k+5 * j+2)))).set (j * 5+3) (.int .i64 ((k+5 * j+3:Nat):Int))).set (j * 5+4) (.int .i64 ((k+5 * j+4:Nat):Int))=((M.take (j+1) ++ l.drop (j+1)).map txC).flatten):=hide (by
          rw [flat_put5 _ j _ _ _ _ _ (by rw [List.length_map,HLl.out];exact hlt) (mixT_sz M l j),<- mixT HML.out hlt,HMA.out j (by have:=HML.out;omega)]
          rfl)
        generalize ((M.take j ++ l.drop j).map txC).flatten=Y at hown hYl HEnd
        generalize k+5 * j=K at Hnx hK1 hK0 HEnd ⊢
        have Hm1:=hide (fun w=>markText_any (K+1) w (by omega) (by omega))
        have Hm2:=hide (fun w=>markText_any (K+1+1) w (by omega) (by omega))
        obtain ⟨⟨y0,q0⟩,f0,s0⟩:=row_step9 hown hYl (j * 5) (by omega)
        have S0:=hide s0
        have Hbt:=hide hbt
        clear hown hbt s0
        go_wp2_with fail
        refine (Hm1.out _).mono ?_
        rintro e w1 ⟨rfl,hb1⟩
        have r1:=row_below (S0.out (.int .i64 (K:Int))) hb1 (Nat.le_refl _)
        have Hbt1:=hide ((Hbt.out.set hS.out (j * 5) (.int .i64 (K:Int))).trans (Oth.of_below hb1))
        clear hb1 q0 f0
        obtain ⟨⟨y1,q1⟩,f1,s1⟩:=row_step9 r1 (by simp [hYl]) (j * 5+1) (by omega)
        have S1:=hide s1
        clear r1 s1
        go_wp2_with fail
        refine (Hm2.out _).mono ?_
        rintro e w2 ⟨rfl,hb2⟩
        have r2:=row_below (S1.out (.string (mtx (K+1)))) hb2 (Nat.le_refl _)
        have Hbt2:=hide ((Hbt1.out.set hS.out (j * 5+1) (.string (mtx (K+1)))).trans (Oth.of_below hb2))
        clear hb2 q1 f1
        obtain ⟨⟨y2,q2⟩,f2,s2⟩:=row_step9 r2 (by simp [hYl]) (j * 5+2) (by omega)
        obtain ⟨⟨y3,q3⟩,f3,-⟩:=row_step9 r2 (by simp [hYl]) (j * 5+3) (by omega)
        obtain ⟨⟨y4,q4⟩,f4,-⟩:=row_step9 r2 (by simp [hYl]) (j * 5+4) (by omega)
        have S2:=hide (fun u2 u3 u4=>(((row_step9 (((row_step9 (s2 u2) (by simp [hYl]) (j * 5+3) (by omega)).2.2) u3) (by simp [hYl]) (j * 5+4) (by omega)).2.2) u4))
        have S3:=hide (S2.out (.string (mtx (K+1+1))) (.int .i64 ((K+3:Nat):Int)) (.int .i64 ((K+4:Nat):Int)))
        rw [show K+1+1=K+2 from rfl] at S3 ⊢
        rw [HEnd.out] at S3
        clear r2 s2 S2 HEnd
        go_wp2
        have e3:(K:Int)+1+1+1=((K+3:Nat):Int):=by omega
        have e4:(K:Int)+1+1+1+1=((K+4:Nat):Int):=by omega
        go_roundw
        case rel =>
          refine ⟨j+1,by omega,by go_num,by rw [Hnx.out];go_num,?_,((Hbt2.out.set hS.out _ _).set hS.out _ _).set hS.out _ _⟩
          exact S3.out
        case measure=>simp [intOf];omega
      · have ej:j=l.length:=by omega
        have e9:M.take j ++ l.drop j=M:=by rw [List.take_of_length_le (by have:=HML.out;omega),List.drop_of_length_le (by omega),List.append_nil]
        rw [e9] at hown
        subst ej
        have Hbt:=hide hbt
        have Ho':Hid (OwnT base wr (.slice (some ⟨g,0,none⟩) l.length cap) M):=hide (by unfold OwnT;rw [HML.out];exact hown)
        clear hown hbt e9 hYl HLl
        go_wp2
        go_ret
        exact ⟨rfl,Ho'.out,Hbt.out⟩
theorem heldTxS_any (v:Value) (k n:Nat) (w:World) (hr:RdT w v (mkT k n)) (hl:n<=10000000) (hk:k+5 * n<=100000000) (hk0:0 < k) :
    Calls Tryz.prog 77 #[v,.int .i64 (k:Int)] w fun e w'=>e=.returned (.int .i64 ((k+5 * n:Nat):Int))/\Below w.heap.size w w':=by
  have hML:=mkT_len k n
  have hMA:=mkT_at k n
  generalize hMd:mkT k n=M at hML hMA hr
  clear hMd
  rcases hr with ⟨a,cap,rfl,rfl,-⟩ | ⟨b,off,cap,h0,rfl,h1,h2,h3,h4⟩
  · simp at hML
    subst hML
    clear hMA
    go_enter Tryz.func77,Tryz.ntmps77
    go_wp2
    refine wp_loop_rounds 1 ?_
    rw [rounds_succ]
    go_wp2
    go_ret
    exact ⟨rfl,Below.refl _ _⟩
  · have HMA:=hide hMA
    have hMl:n<=M.length:=by omega
    have hMg:M.length<=n:=by omega
    have H4:=hide h4
    clear hML hMA h4
    go_enter Tryz.func77,Tryz.ntmps77
    go_wp2
    go_loopw [1,5] (fun kv iv wr=>∃ j:Nat,j<=n/\iv=.int .i64 (j:Int)/\kv=.int .i64 ((k+5 * j:Nat):Int)/\Below w.heap.size w wr) (fun _ iv _=>n - (intOf iv).toNat)
    case atStart=>exact ⟨0,Nat.zero_le _,rfl,rfl,Below.refl _ _⟩
    case round =>
      obtain ⟨j,hj,rfl,rfl,hb⟩:=hrel
      by_cases hlt:j < n
      · have hjM:j < M.length:=by omega
        have hat:=H4.out j hjM
        have HC:Hid (∀ V,Below w.heap.size w V->V.cell? ⟨b,off+j * 5,none⟩=some (.int .i64 M[j].1)/\V.cell? ⟨b,off+j * 5+1,none⟩=some (.string M[j].2.1)/\V.cell? ⟨b,off+j * 5+2,none⟩=some (.string M[j].2.2.1)/\V.cell? ⟨b,off+j * 5+3,none⟩=some (.int .i64 M[j].2.2.2.1)/\V.cell? ⟨b,off+j * 5+4,none⟩=some (.int .i64 M[j].2.2.2.2)):=hide (fun V hV=>by
          obtain ⟨d0,d1,d2,d3,d4⟩:=hat.below hV h3
          exact ⟨d0,d1,d2,d3,d4⟩)
        rw [HMA.out j hjM] at HC
        simp only at HC
        obtain ⟨K,hK⟩:∃ K:Nat,k+5 * j=K:=⟨_,rfl⟩
        have hK2:K<=150000000:=by omega
        have hK0:0 < K:=by omega
        rw [hK] at HC ⊢
        have HK:=hide hK
        have hli:(j:Int) < (M.length:Int):=by omega
        clear hK hat
        have Hb:=hide hb
        have HM1:=hide (fun V=>markText_any (K+1) V (by omega) (by omega))
        have HM2:=hide (fun V=>markText_any (K+2) V (by omega) (by omega))
        generalize mtx (K+1)=m1 at HC HM1
        generalize mtx (K+2)=m2 at HC HM2
        obtain ⟨c0,c1,-,-,-⟩:=HC.out wr hb
        have g1:=cell_regrown c1
        have HR1:=hide (fun (d:Nat) (os:Array Obj)=>Calls.regrown_of (HM1.out (grow (redrawn wr d) os)))
        have e1:((K+1:Nat):Int)=(K:Int)+1:=by omega
        have e2:((K+2:Nat):Int)=(K:Int)+1+1:=by omega
        rw [e1] at HR1
        clear hb c1 HM1 e1
        go_wp2
        refine wp_region_quiet_below (by kernel_rfl) (by kernel_rfl) ?_
        repeat (go_big_quiet_step ((go_at_call 35;exact HR1.out _ _)))
        refine wpQuiet_nil ?_
        intro _ hw'
        obtain ⟨⟨dq,osq⟩,hw''⟩:=hw'
        subst hw''
        have hb2:=Hb.out.trans ((below_regrown wr dq osq).mono Hb.out.size)
        generalize grow (redrawn wr dq) osq=w2 at hb2 ⊢
        clear g1 HR1 c0 Hb
        obtain ⟨-,-,c2,-,-⟩:=HC.out w2 hb2
        have g2:=cell_regrown c2
        have HR2:=hide (fun (d:Nat) (os:Array Obj)=>Calls.regrown_of (HM2.out (grow (redrawn w2 d) os)))
        rw [e2] at HR2
        have Hb2:=hide hb2
        clear HM2 e2 c2 hb2
        go_wp2
        refine wp_region_quiet_below (by kernel_rfl) (by kernel_rfl) ?_
        repeat (go_big_quiet_step ((go_at_call 35;exact HR2.out _ _)))
        refine wpQuiet_nil ?_
        intro _ hw'
        obtain ⟨⟨dq2,osq2⟩,hw''⟩:=hw'
        subst hw''
        have hb3:=Hb2.out.trans ((below_regrown w2 dq2 osq2).mono Hb2.out.size)
        generalize grow (redrawn w2 dq2) osq2=w3 at hb3 ⊢
        clear g2 HR2 Hb2
        obtain ⟨-,-,-,c3,c4⟩:=HC.out w3 hb3
        have e3:((K+3:Nat):Int)=(K:Int)+1+1+1:=by omega
        have e4:((K+4:Nat):Int)=(K:Int)+1+1+1+1:=by omega
        rw [e3] at c3
        rw [e4] at c4
        clear e3 e4 HC
        go_wp2
        go_roundw
        case rel=>exact ⟨j+1,by omega,by go_num,by rw [show k+5 * (j+1)=K+5 from by have:=HK.out;omega];go_num,hb3⟩
        case measure=>simp [intOf];omega
      · have e:j=n:=by omega
        have He:=hide e
        clear e
        go_wp2
        go_ret
        exact ⟨ret_int (by rw [<- He.out]),hb⟩
end Go.Proofs.YthidkbhiikdokaaGreat
