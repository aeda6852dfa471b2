/- Signatures held against their marks. -/
import Derived.Test.YthidkbhiikdokaaGreatZwWdMk
import Derived.Test.YthidkbhiikdokaaGreatZwMgEq
import Derived.Deep.CutRange
set_option maxRecDepth 20000
set_option maxHeartbeats 8000000
namespace Go.Proofs.YthidkbhiikdokaaGreat
open Go.RowKit
set_option linter.unusedVariables false
theorem eqWorld_same (p:Wd) (u t:Wv) (w:World) (hr:RdWd w p u) (ht:RdWd w p t) (hf:FewWd p) :
    Calls Tryz.prog 10 #[wdV p u,wdV p t] w fun e w'=>e=.returned (.bool true)/\Below w.heap.size w w':=by
  have hna:=hf.na
  have hfa:=hf.fa
  have hnf:=hf.nf
  have hnn:=hf.nn
  have hfn:=hf.fn
  have hnb:=hf.nb
  have hfb:=hf.fb
  have hns:=hf.ns
  have hfs:=hf.fs
  have hnm:=hf.nm
  have hfm:=hf.fm
  clear hf
  obtain ⟨ep,la,fo,ns,bs,sg,ms⟩:=p
  obtain ⟨ya,yf,yn,yb,ys,ym⟩:=u
  obtain ⟨hya,hyf,hyn,hyb,hys,hym⟩:=hr
  simp only at *
  obtain ⟨ada,cpa,rfl⟩:=hya.shape
  obtain ⟨adf,cpf,rfl⟩:=hyf.shape
  obtain ⟨adn,cpn,rfl⟩:=hyn.shape
  obtain ⟨adb,cpb,rfl⟩:=hyb.shape
  obtain ⟨ads,cps,rfl⟩:=hys.shape
  obtain ⟨adm,cpm,rfl⟩:=hym.shape
  obtain ⟨za,zf,zn,zb,zs,zm⟩:=t
  obtain ⟨jya,jyf,jyn,jyb,jys,jym⟩:=ht
  simp only at *
  obtain ⟨bda,bpa,rfl⟩:=jya.shape
  obtain ⟨bdf,bpf,rfl⟩:=jyf.shape
  obtain ⟨bdn,bpn,rfl⟩:=jyn.shape
  obtain ⟨bdb,bpb,rfl⟩:=jyb.shape
  obtain ⟨bds,bps,rfl⟩:=jys.shape
  obtain ⟨bdm,bpm,rfl⟩:=jym.shape
  have E1:=hide (fun V (hV:Below w.heap.size w V)=>equLedger ep (.slice ada la.length cpa) (.slice bda la.length bpa) la V (hya.below hV (Nat.le_refl _)) (jya.below hV (Nat.le_refl _)) hna hfa)
  have E2:=hide (fun V (hV:Below w.heap.size w V)=>equString (.slice adf fo.length cpf) (.slice bdf fo.length bpf) fo V (hyf.below hV (Nat.le_refl _)) (jyf.below hV (Nat.le_refl _)) hnf)
  have E3:=hide (fun V (hV:Below w.heap.size w V)=>eqNodeS_any (.slice adn ns.length cpn) (.slice bdn ns.length bpn) ns V (hyn.below hV (Nat.le_refl _)) (jyn.below hV (Nat.le_refl _)) hnn hfn)
  have E4:=hide (fun V (hV:Below w.heap.size w V)=>eqBlockS_any (.slice adb bs.length cpb) (.slice bdb bs.length bpb) bs V (hyb.below hV (Nat.le_refl _)) (jyb.below hV (Nat.le_refl _)) hnb hfb)
  have E5:=hide (fun V (hV:Below w.heap.size w V)=>eqSigS_any (.slice ads sg.length cps) (.slice bds sg.length bps) sg V (hys.below hV (Nat.le_refl _)) (jys.below hV (Nat.le_refl _)) hns hfs)
  have E6:=hide (fun V (hV:Below w.heap.size w V)=>eqMsgS_any (.slice adm ms.length cpm) (.slice bdm ms.length bpm) ms V (hym.below hV (Nat.le_refl _)) (jym.below hV (Nat.le_refl _)) hnm hfm)
  clear hya hyf hyn hyb hys hym jya jyf jyn jyb jys jym
  clear hfa
  clear hfn
  clear hfb
  clear hfs
  clear hfm
  simp only [wdV,lgV] at *
  obtain ⟨S0,hS0⟩:∃ x,(w.alloc (.cells #[.int .i64 ep,.slice ada la.length cpa,.slice adf fo.length cpf,.slice adn ns.length cpn,.slice adb bs.length cpb,.slice ads sg.length cps,.slice adm ms.length cpm] 36)).alloc (.cells #[.int .i64 ep,.slice bda la.length bpa,.slice bdf fo.length bpf,.slice bdn ns.length bpn,.slice bdb bs.length bpb,.slice bds sg.length bps,.slice bdm ms.length bpm] 36)=x:=⟨_,rfl⟩
  have kA0:Blk S0 w.heap.size 36 [.int .i64 ep,.slice ada la.length cpa,.slice adf fo.length cpf,.slice adn ns.length cpn,.slice adb bs.length cpb,.slice ads sg.length cps,.slice adm ms.length cpm]:=by rw [<- hS0];exact (Blk.new w _ _).below ((Below.refl (w.heap.size+1) _).alloc (by simp) _) (by omega)
  have kB0:Blk S0 (w.heap.size+1) 36 [.int .i64 ep,.slice bda la.length bpa,.slice bdf fo.length bpf,.slice bdn ns.length bpn,.slice bdb bs.length bpb,.slice bds sg.length bps,.slice bdm ms.length bpm]:=by rw [<- hS0];exact Blk.newR _ _ [.int .i64 ep,.slice bda la.length bpa,.slice bdf fo.length bpf,.slice bdn ns.length bpn,.slice bdb bs.length bpb,.slice bds sg.length bps,.slice bdm ms.length bpm] _ (by simp)
  have b0:Below w.heap.size w S0:=by rw [<- hS0];exact ((Below.refl _ w).alloc (Nat.le_refl _) _).alloc (by simp) _
  have x0:=kA0.cell 0
  have x1:=kA0.cell 1
  simp only [List.getElem?_cons_zero,List.getElem?_cons_succ] at x0 x1
  have y0:=kB0.cell 0
  have y1:=kB0.cell 1
  simp only [List.getElem?_cons_zero,List.getElem?_cons_succ] at y0 y1
  have KA0:=hide kA0
  have KB0:=hide kB0
  clear kA0 kB0
  go_enter Tryz.func10,Tryz.ntmps10
  go_wp2_with fail
  (try rw [hS0])
  clear hS0
  refine (E1.out _ b0).mono ?_
  rintro e w1 ⟨rfl,hb1⟩
  have b1:=b0.trans (hb1.mono b0.size)
  have kA1:=KA0.out.below hb1 KA0.out.lt
  have kB1:=KB0.out.below hb1 KB0.out.lt
  clear x0 x1 y0 y1 KA0 KB0 b0 hb1 E1
  have x2:=kA1.cell 2
  simp only [List.getElem?_cons_zero,List.getElem?_cons_succ] at x2
  have y2:=kB1.cell 2
  simp only [List.getElem?_cons_zero,List.getElem?_cons_succ] at y2
  have KA1:=hide kA1
  have KB1:=hide kB1
  clear kA1 kB1
  go_wp2_with fail
  refine (E2.out _ b1).mono ?_
  rintro e w2 ⟨rfl,hb2⟩
  have b2:=b1.trans (hb2.mono b1.size)
  have kA2:=KA1.out.below hb2 KA1.out.lt
  have kB2:=KB1.out.below hb2 KB1.out.lt
  clear x2 y2 KA1 KB1 b1 hb2 E2
  have x3:=kA2.cell 3
  simp only [List.getElem?_cons_zero,List.getElem?_cons_succ] at x3
  have y3:=kB2.cell 3
  simp only [List.getElem?_cons_zero,List.getElem?_cons_succ] at y3
  have KA2:=hide kA2
  have KB2:=hide kB2
  clear kA2 kB2
  go_wp2_with fail
  refine (E3.out _ b2).mono ?_
  rintro e w3 ⟨rfl,hb3⟩
  have b3:=b2.trans (hb3.mono b2.size)
  have kA3:=KA2.out.below hb3 KA2.out.lt
  have kB3:=KB2.out.below hb3 KB2.out.lt
  clear x3 y3 KA2 KB2 b2 hb3 E3
  have x4:=kA3.cell 4
  simp only [List.getElem?_cons_zero,List.getElem?_cons_succ] at x4
  have y4:=kB3.cell 4
  simp only [List.getElem?_cons_zero,List.getElem?_cons_succ] at y4
  have KA3:=hide kA3
  have KB3:=hide kB3
  clear kA3 kB3
  go_wp2_with fail
  refine (E4.out _ b3).mono ?_
  rintro e w4 ⟨rfl,hb4⟩
  have b4:=b3.trans (hb4.mono b3.size)
  have kA4:=KA3.out.below hb4 KA3.out.lt
  have kB4:=KB3.out.below hb4 KB3.out.lt
  clear x4 y4 KA3 KB3 b3 hb4 E4
  have x5:=kA4.cell 5
  simp only [List.getElem?_cons_zero,List.getElem?_cons_succ] at x5
  have y5:=kB4.cell 5
  simp only [List.getElem?_cons_zero,List.getElem?_cons_succ] at y5
  have KA4:=hide kA4
  have KB4:=hide kB4
  clear kA4 kB4
  go_wp2_with fail
  refine (E5.out _ b4).mono ?_
  rintro e w5 ⟨rfl,hb5⟩
  have b5:=b4.trans (hb5.mono b4.size)
  have kA5:=KA4.out.below hb5 KA4.out.lt
  have kB5:=KB4.out.below hb5 KB4.out.lt
  clear x5 y5 KA4 KB4 b4 hb5 E5
  have x6:=kA5.cell 6
  simp only [List.getElem?_cons_zero,List.getElem?_cons_succ] at x6
  have y6:=kB5.cell 6
  simp only [List.getElem?_cons_zero,List.getElem?_cons_succ] at y6
  have KA5:=hide kA5
  have KB5:=hide kB5
  clear kA5 kB5
  go_wp2_with fail
  refine (E6.out _ b5).mono ?_
  rintro e w6 ⟨rfl,hb6⟩
  have b6:=b5.trans (hb6.mono b5.size)
  have kA6:=KA5.out.below hb6 KA5.out.lt
  have kB6:=KB5.out.below hb6 KB5.out.lt
  clear x6 y6 KA5 KB5 b5 hb6 E6
  clear kA6 kB6
  go_wp2
  go_ret
  exact ⟨rfl,b6⟩
end Go.Proofs.YthidkbhiikdokaaGreat
namespace Go.Proofs.YthidkbhiikdokaaGreat
open Go.RowKit Go.Sort
set_option linter.unusedVariables false
theorem heldSigS_any (v:Value) (l:List Sn) (k:Nat) (w:World) (hr:RdSs w v (mkG mkSn nxSn k l)) (hl:l.length<=4000000) (hf:∀ q ∈ l,FewSn q) (hk:nxG nxSn k l<=40000000) (hk0:0 < k) :
    Calls Tryz.prog 44 #[v,.int .i64 (k:Int)] w fun e w'=>e=.returned (.int .i64 ((nxG nxSn k l:Nat):Int))/\Below w.heap.size w w':=by
  obtain ⟨Z,hZ,hr⟩:=hr
  have hZl:Z.length=l.length:=by rw [<- mkG_len mkSn nxSn k l,<- hZ,List.length_map]
  rcases hr with ⟨a,cap,rfl,rfl,-⟩ | ⟨b,off,cap,h0,rfl,h1,h2,h3,h4⟩
  · have e:l=[]:=List.length_eq_zero_iff.1 (by rw [<- hZl];rfl)
    subst e
    go_enter Tryz.func44,Tryz.ntmps44
    go_wp2
    refine wp_loop_rounds 1 ?_
    rw [rounds_succ]
    go_wp2
    go_ret
    exact ⟨rfl,Below.refl _ _⟩
  · have H4 := hide (show ∀ i (h:i < Z.length) (h2:i < l.length),∃ u,w.rangeAt b (off+i * 5) (snC (mkSn (nxG nxSn k (l.take i)) l[i]) u)/\RdSn w (mkSn (nxG nxSn k (l.take i)) l[i]) u from fun i h h2=>by
      have e:Z[i].1=mkSn (nxG nxSn k (l.take i)) l[i]:=by
        rw [<- mkG_at mkSn nxSn k l i (by rw [mkG_len];exact h2) h2]
        simp only [<- hZ,List.getElem_map]
      have q:w.rangeAt b (off+i * 5) (snC Z[i].1 Z[i].2)/\RdSn w Z[i].1 Z[i].2:=h4 i h
      rw [e] at q
      exact ⟨_,q⟩)
    have HF:=hide hf
    have Hk:=hide hk
    rw [hZl] at h1 ⊢
    have HZl:=hide hZl
    clear h4 hf hk hZ hZl h0
    go_enter Tryz.func44,Tryz.ntmps44
    go_wp2
    go_loopw [1,5] (fun kv iv wr=>∃ j:Nat,j<=l.length/\iv=.int .i64 (j:Int)/\kv=.int .i64 ((nxG nxSn k (l.take j):Nat):Int)/\Below w.heap.size w wr) (fun _ iv _=>l.length - (intOf iv).toNat)
    case atStart=>exact ⟨0,Nat.zero_le _,rfl,rfl,Below.refl _ _⟩
    case round =>
      obtain ⟨j,hj,rfl,rfl,hb⟩:=hrel
      by_cases hlt:j < l.length
      · obtain ⟨u,hat,hrl⟩:=H4.out j (by rw [HZl.out];exact hlt) hlt
        have hfew:=HF.out l[j] (List.getElem_mem hlt)
        have hnx:nxG nxSn k (l.take (j+1))=nxSn (nxG nxSn k (l.take j)) l[j]:=nxG_take hlt k
        have hle:nxG nxSn k (l.take (j+1))<=40000000:=Nat.le_trans (nxG_le nxSn_ge k l (j+1)) Hk.out
        have hK0:0 < nxG nxSn k (l.take j):=Nat.lt_of_lt_of_le hk0 (nxG_ge nxSn_ge k _)
        rw [hnx] at hle
        have Hnx:=hide hnx
        clear hnx
        generalize nxG nxSn k (l.take j)=K at Hnx hle hK0 hat hrl ⊢
        generalize l[j]=p at hat hrl hfew hle Hnx
        have Hb:=hide hb
        clear hb
        obtain ⟨kd,ep,rd,wt,wo⟩:=p
        clear hrl
        clear hfew
        (try simp only at *)
        change K+1+1+1+1+1<=40000000 at hle
        have hli:(j:Int) < (l.length:Int):=by omega
        have y0:K=K:=by rfl
        have z0:((K:Nat):Int)=((K:Nat):Int):=by rw [y0] <;> omega
        have y1:K+1=K+1:=by rfl
        have z1:((K+1:Nat):Int)=(K:Int)+1:=by rw [y1] <;> omega
        have y2:K+1+1=K+1+1:=by rfl
        have z2:((K+1+1:Nat):Int)=(K:Int)+1+1:=by rw [y2] <;> omega
        have y3:K+1+1+1=K+1+1+1:=by rfl
        have z3:((K+1+1+1:Nat):Int)=(K:Int)+1+1+1:=by rw [y3] <;> omega
        have y4:K+1+1+1+1=K+1+1+1+1:=by rfl
        have HC:=hide (fun V (hV:Below w.heap.size w V)=>(show V.cell? ⟨b,off+j * 5,none⟩=some (.int .i64 (((K:Nat):Int)))/\V.cell? ⟨b,off+j * 5+1,none⟩=some (.int .i64 ((K:Int)+1))/\V.cell? ⟨b,off+j * 5+2,none⟩=some (.int .i64 ((K:Int)+1+1))/\V.cell? ⟨b,off+j * 5+3,none⟩=some (.int .i64 ((K:Int)+1+1+1))/\V.cell? ⟨b,off+j * 5+4,none⟩=some (.string (mtx (K+1+1+1+1))) from by
          have r:=range_below hat hV h3
          have r0:=r 0 _ rfl
          rw [Nat.add_zero] at r0
          have r1:=r 1 _ rfl
          have r2:=r 2 _ rfl
          have r3:=r 3 _ rfl
          have r4:=r 4 _ rfl
          exact ⟨by rw [<- z0];exact r0,by rw [<- z1];exact r1,by rw [<- z2];exact r2,by rw [<- z3];exact r3,by rw [<- y4];exact r4⟩))
        have Hn2:=hide (show nxG nxSn k (l.take (j+1))=K+1+1+1+1+1 from by rw [Hnx.out];exact (show K+1+1+1+1+1=K+1+1+1+1+1 from by rfl))
        have hb_K:K<=40000000:=by omega
        clear hat  hle Hnx z0 z1 z2 z3 y0 y1 y2 y3 y4 
        obtain ⟨c0,c1,c2,c3,c4⟩:=HC.out wr Hb.out
        have Hm:=hide (fun V=>markText_any (K+1+1+1+1) V (by omega) (by omega))
        rw [show ((K+1+1+1+1:Nat):Int)=(K:Int)+1+1+1+1 from by omega] at Hm
        have hbw:b < wr.heap.size:=by have:=Hb.out.size;omega
        have HC4:=hide c4
        go_wp2_with fail
        go_cut [55] from 6 to 57 (fun bv wc=>bv=.bool false/\Below w.heap.size w wc)
        case first =>
          go_region_with (go_at_call 35;refine (Hm.out _).mono ?_;rintro e wt ⟨rfl,hbt⟩;have hct:=(hbt.cell (p:=⟨b,off+j * 5+4,none⟩) (by exact hbw)).trans (by exact HC4.out))
          all_goals
            rename Go.RowKit.Below _ _ _=>hbt
            go_wp2_with fail
            go_meet
            case rel=>exact ⟨by simp,Hb.out.drew.trans (hbt.mono Hb.out.size)⟩
        obtain ⟨w1,rfl⟩:∃ x,x=wc:=⟨_,rfl⟩
        obtain ⟨rfl,hbc⟩:=hcut
        have Hb1:=hide hbc
        clear Hm hbw HC4 hbc Hb c0 c1 c2 c3 c4
        go_wp2
        go_roundw
        case rel=>exact ⟨j+1,by omega,by go_num,(by rw [Hn2.out];try go_num),Hb1.out⟩
        case measure=>simp [intOf];omega
      · have e:j=l.length:=by omega
        have HT:Hid (nxG nxSn k (l.take j)=nxG nxSn k l):=hide (by rw [e,List.take_length])
        clear e
        generalize nxG nxSn k (l.take j)=K at HT
        go_wp2
        go_ret
        exact ⟨ret_int (by rw [HT.out]),hb⟩
end Go.Proofs.YthidkbhiikdokaaGreat
