/- A proof. -/
import Derived.Test.YtfdbedenlbikgaaZlNdOpen
import Derived.Test.YtfdbedenlbikgaaZlMgOpe
set_option maxRecDepth 20000
set_option maxHeartbeats 8000000
namespace Go.Proofs.Ytfdbedenlbikgaa
open Go.RowKit Go.ChangeShapes Go.WideShapes
set_option linter.unusedVariables false
section
variable {H:Type} {enc:TypeId × Value->H} {w:World} {base:Nat} {spare:Nat->Bool} {held:Bool}
theorem open_Wd {fuel:Nat} {cs:List Value} {x:DataW H × List MemPlace} (h:DataW.trod enc Try.prog w base spare held fuel 31 cs=some x) :
    ∃ (p:Wd) (u:Wv),cs=wdC p u/\RdWd w p u/\FitWd p:=by
  obtain ⟨xs,n,_,_,hlen,hxl,hf⟩:=DataW.trod_struct Try.underlying31 h
  have h5:cs.length=7:=hlen.trans (by kernel_rfl)
  have hx5:xs.length=6:=hxl
  match cs,h5,xs,hx5 with
  | [c0,c1,c2,c3,c4,c5,c6],_,[y0,y1,y2,y3,y4,y5],_ =>
    have k_laws_Ledger:Try.prog.cellsOf 24=2:=by kernel_rfl
    have k_Sstring:Try.prog.cellsOf 25=1:=by kernel_rfl
    have k_Slaws_Node:Try.prog.cellsOf 26=1:=by kernel_rfl
    have k_Slaws_Block:Try.prog.cellsOf 27=1:=by kernel_rfl
    have k_Slaws_Sig:Try.prog.cellsOf 28=1:=by kernel_rfl
    have k_Slaws_Msg:Try.prog.cellsOf 29=1:=by kernel_rfl
    have g0:DataW.trod enc Try.prog w base spare held n 24 [c0,c1]=some y0:=by
      have e:=hf 0 _ rfl
      change DataW.trod enc Try.prog w base spare held n 24 (List.take (Try.prog.cellsOf 24) [c0,c1,c2,c3,c4,c5,c6])=some y0 at e
      rw [k_laws_Ledger] at e
      exact e
    have g1:DataW.trod enc Try.prog w base spare held n 25 [c2]=some y1:=by
      have e:=hf 1 _ rfl
      change DataW.trod enc Try.prog w base spare held n 25 (List.take (Try.prog.cellsOf 25) [c2,c3,c4,c5,c6])=some y1 at e
      rw [k_Sstring] at e
      exact e
    have g2:DataW.trod enc Try.prog w base spare held n 26 [c3]=some y2:=by
      have e:=hf 2 _ rfl
      change DataW.trod enc Try.prog w base spare held n 26 (List.take (Try.prog.cellsOf 26) [c3,c4,c5,c6])=some y2 at e
      rw [k_Slaws_Node] at e
      exact e
    have g3:DataW.trod enc Try.prog w base spare held n 27 [c4]=some y3:=by
      have e:=hf 3 _ rfl
      change DataW.trod enc Try.prog w base spare held n 27 (List.take (Try.prog.cellsOf 27) [c4,c5,c6])=some y3 at e
      rw [k_Slaws_Block] at e
      exact e
    have g4:DataW.trod enc Try.prog w base spare held n 28 [c5]=some y4:=by
      have e:=hf 4 _ rfl
      change DataW.trod enc Try.prog w base spare held n 28 (List.take (Try.prog.cellsOf 28) [c5,c6])=some y4 at e
      rw [k_Slaws_Sig] at e
      exact e
    have g5:DataW.trod enc Try.prog w base spare held n 29 [c6]=some y5:=by
      have e:=hf 5 _ rfl
      change DataW.trod enc Try.prog w base spare held n 29 (List.take (Try.prog.cellsOf 29) [c6])=some y5 at e
      rw [k_Slaws_Msg] at e
      exact e
    obtain ⟨z0,e0,_,f0⟩:∃ z,[c0]=[.int .i64 z]/\True/\(Lit.int .i64 z).wf=true:=ledger_wf g0
    obtain ⟨zz0,v0,l0,ee0,r0,n0,q0⟩:=open_ledger g0
    simp only [List.cons.injEq,and_true] at ee0 e0
    obtain ⟨-,ev0⟩:=ee0
    subst e0 ev0
    obtain ⟨l1,r1,n1,q1⟩:=opuStr g1
    obtain ⟨l2,r2,n2,q2⟩:=opuNode g2
    obtain ⟨l3,r3,n3,q3⟩:=opuBlock g3
    obtain ⟨l4,r4,n4,q4⟩:=opuSig g4
    obtain ⟨l5,r5,n5,q5⟩:=opuMsg g5
    exact ⟨⟨z0,l0,l1,l2,l3,l4,l5⟩,⟨c1,c2,c3,c4,c5,c6⟩,rfl,⟨r0,r1,r2,r3,r4,r5⟩,⟨f0,n0,q0,n1,q1,n2,q2,n3,q3,n4,q4,n5,q5⟩⟩
end
end Go.Proofs.Ytfdbedenlbikgaa
namespace Go.Proofs.Ytfdbedenlbikgaa
open Go.RowKit
set_option linter.unusedVariables false
theorem eqProof_same (p:Pf) (u t:Pv) (w:World) (hr:RdPf w p u) (ht:RdPf w p t) (hf:FewPf p) :
    Calls Try.prog 92 #[pfV p u,pfV p t] w fun e w'=>e=.returned (.bool true)/\Below w.heap.size w w':=by
  have hnb:=hf.nb
  have hfb:=hf.fb
  have hnw:=hf.nw
  clear hf
  obtain ⟨ep,bs,qr,qb,qw⟩:=p
  obtain ⟨yb,yw⟩:=u
  obtain ⟨hyb,hyw⟩:=hr
  simp only at *
  obtain ⟨adb,cpb,rfl⟩:=hyb.shape
  obtain ⟨adw,cpw,rfl⟩:=hyw.shape
  obtain ⟨zb,zw⟩:=t
  obtain ⟨jyb,jyw⟩:=ht
  simp only at *
  obtain ⟨bdb,bpb,rfl⟩:=jyb.shape
  obtain ⟨bdw,bpw,rfl⟩:=jyw.shape
  have E1:=hide (fun V (hV:Below w.heap.size w V)=>eqBlockS_any (.slice adb bs.length cpb) (.slice bdb bs.length bpb) bs V (hyb.below hV (Nat.le_refl _)) (jyb.below hV (Nat.le_refl _)) hnb hfb)
  have E2:=hide (fun V (hV:Below w.heap.size w V)=>eqQc_any qr qb (.slice adw qw.length cpw) (.slice bdw qw.length bpw) qw V (hyw.below hV (Nat.le_refl _)) (jyw.below hV (Nat.le_refl _)) hnw)
  clear hyb hyw jyb jyw
  clear hfb
  simp only [pfV,qcV] at *
  obtain ⟨S0,hS0⟩:∃ x,(w.alloc (.cells #[.int .i64 ep,.slice adb bs.length cpb,.int .i64 qr,.int .i64 qb,.slice adw qw.length cpw] 174)).alloc (.cells #[.int .i64 ep,.slice bdb bs.length bpb,.int .i64 qr,.int .i64 qb,.slice bdw qw.length bpw] 174)=x:=⟨_,rfl⟩
  have kA0:Blk S0 w.heap.size 174 [.int .i64 ep,.slice adb bs.length cpb,.int .i64 qr,.int .i64 qb,.slice adw qw.length cpw]:=by rw [<- hS0];exact (Blk.new w _ _).below ((Below.refl (w.heap.size+1) _).alloc (by simp) _) (by omega)
  have kB0:Blk S0 (w.heap.size+1) 174 [.int .i64 ep,.slice bdb bs.length bpb,.int .i64 qr,.int .i64 qb,.slice bdw qw.length bpw]:=by rw [<- hS0];exact Blk.newR _ _ [.int .i64 ep,.slice bdb bs.length bpb,.int .i64 qr,.int .i64 qb,.slice bdw qw.length bpw] _ (by simp)
  have b0:Below w.heap.size w S0:=by rw [<- hS0];exact ((Below.refl _ w).alloc (Nat.le_refl _) _).alloc (by simp) _
  have x0:=kA0.cell 0
  have x1:=kA0.cell 1
  simp only [List.getElem?_cons_zero,List.getElem?_cons_succ] at x0 x1
  have y0:=kB0.cell 0
  have y1:=kB0.cell 1
  simp only [List.getElem?_cons_zero,List.getElem?_cons_succ] at y0 y1
  have KA0:=hide kA0
  have KB0:=hide kB0
  clear kA0 kB0
  go_enter Try.func92,Try.ntmps92
  go_wp2_with fail
  (try rw [hS0])
  clear hS0
  refine (E1.out _ b0).mono ?_
  rintro e w1 ⟨rfl,hb1⟩
  have b1:=b0.trans (hb1.mono b0.size)
  have kA1:=KA0.out.below hb1 KA0.out.lt
  have kB1:=KB0.out.below hb1 KB0.out.lt
  clear x0 x1 y0 y1 KA0 KB0 b0 hb1 E1
  have x2:=kA1.cell 2
  have x3:=kA1.cell 3
  have x4:=kA1.cell 4
  simp only [List.getElem?_cons_zero,List.getElem?_cons_succ] at x2 x3 x4
  have y2:=kB1.cell 2
  have y3:=kB1.cell 3
  have y4:=kB1.cell 4
  simp only [List.getElem?_cons_zero,List.getElem?_cons_succ] at y2 y3 y4
  have KA1:=hide kA1
  have KB1:=hide kB1
  clear kA1 kB1
  go_wp2_with fail
  refine (E2.out _ b1).mono ?_
  rintro e w2 ⟨rfl,hb2⟩
  have b2:=b1.trans (hb2.mono b1.size)
  have kA2:=KA1.out.below hb2 KA1.out.lt
  have kB2:=KB1.out.below hb2 KB1.out.lt
  clear x2 x3 x4 y2 y3 y4 KA1 KB1 b1 hb2 E2
  clear kA2 kB2
  go_wp2
  go_ret
  exact ⟨rfl,b2⟩
theorem Try.infoEPf:(Try.prog.info? 174).map (·.size)=some 5:=by kernel_rfl
theorem eqProofS_any (v1 v2:Value) (l:List Pf) (w:World) (hr1:RdPs w v1 l) (hr2:RdPs w v2 l) (hl:l.length<=4000000) (hall:∀ a ∈ l,FewPf a) :
    Calls Try.prog 78 #[v1,v2] w fun e w'=>e=.returned (.bool true)/\Below w.heap.size w w':=by
  obtain ⟨Z1,rfl,hr1⟩:=hr1
  obtain ⟨Z2,hZ,hr2⟩:=hr2
  have hl':Z1.length<=4000000:=by simpa using hl
  have hN2:Z2.length=Z1.length:=by have:=congrArg List.length hZ;simpa using this
  have hel:∀ i (h1:i < Z1.length) (h2:i < Z2.length),Z2[i].1=Z1[i].1:=fun i h1 h2=>by
    have:=List.getElem_of_eq hZ (show i < (Z2.map (·.1)).length by simpa using h2)
    simpa using this
  rcases hr1 with ⟨a,cap,rfl,rfl,-⟩ | ⟨b,off,cap,h0,rfl,h1,h2,h3,h4⟩
  · obtain ⟨a2,cap2,rfl⟩:=hr2.shape
    rw [hN2]
    clear hr2 hel hN2 hZ
    go_enter Try.func78,Try.ntmps78
    go_wp2
    refine wp_loop_rounds 1 ?_
    rw [rounds_succ]
    go_wp2
    go_ret
    exact ⟨rfl,Below.refl _ _⟩
  · rcases hr2 with ⟨a2,cap2,rfl,e0,-⟩ | ⟨b2,off2,cap2,g0,rfl,g1,g2,g3,g4⟩
    · subst e0;exact absurd (List.length_eq_zero_iff.1 hN2.symm) h0
    · obtain ⟨N,hN⟩:∃ N,Z1.length=N:=⟨_,rfl⟩
      rw [hN] at h1 hl' hN2 ⊢
      rw [hN2] at g1 ⊢
      have HN:=hide hN
      have HN2:=hide hN2
      have H4:=hide h4
      have G4:=hide g4
      have HA:=hide hall
      have HE:=hide hel
      have hlen:((N:Int) != (N:Int))=false:=by simp
      clear hN hN2 h4 g4 hall hel hZ hl h0 g0
      go_enter Try.func78,Try.ntmps78
      go_wp2
      go_loopw [5] (fun i wr=>∃ k:Nat,k<=N/\i=.int .i64 k/\Below w.heap.size w wr) (fun i _=>N - (intOf i).toNat)
      case atStart=>exact ⟨0,Nat.zero_le _,rfl,Below.refl _ _⟩
      case round =>
        obtain ⟨k,hk,rfl,hb⟩:=hrel
        by_cases hlt:k < N
        · have hk1:k < Z1.length:=by rw [HN.out];exact hlt
          have hk2:k < Z2.length:=by rw [HN2.out];exact hlt
          have hbD:=hb.drew
          have hS0:(fun W:World=>W.rangeAt b (off+k * 5) (pfC Z1[k].1 Z1[k].2)/\W.rangeAt b2 (off2+k * 5) (pfC Z2[k].1 Z2[k].2)) wr.drew:=⟨range_below (H4.out k hk1).1 hbD h3,range_below (G4.out k hk2).1 hbD g3⟩
          have HS:Hid (∀ V,Below w.heap.size w V->(V.rangeAt b (off+k * 5) (pfC Z1[k].1 Z1[k].2)/\V.rangeAt b2 (off2+k * 5) (pfC Z2[k].1 Z2[k].2))):=hide (fun V hV=>⟨range_below (H4.out k hk1).1 hV h3,range_below (G4.out k hk2).1 hV g3⟩)
          have HT:=hide (eqProof_same Z1[k].1 Z1[k].2 Z2[k].2 wr.drew ((H4.out k hk1).2.below hbD (Nat.le_refl _)) (by rw [<- HE.out k hk1 hk2];exact (G4.out k hk2).2.below hbD (Nat.le_refl _)) (HA.out _ (List.mem_map.2 ⟨_,List.getElem_mem hk1,rfl⟩)))
          rw [HE.out k hk1 hk2] at hS0 HS
          rw [show pfV Z1[k].1 Z1[k].2=.agg (pfC Z1[k].1 Z1[k].2).toArray from rfl,show pfV Z1[k].1 Z2[k].2=.agg (pfC Z1[k].1 Z2[k].2).toArray from rfl] at HT
          have Hi1:=hide (show (Try.prog.info? 174).map (·.size)=some (pfC Z1[k].1 Z1[k].2).length from Try.infoEPf)
          have Hi2:=hide (show (Try.prog.info? 174).map (·.size)=some (pfC Z1[k].1 Z2[k].2).length from Try.infoEPf)
          have hli:(k:Int) < (N:Int):=by omega
          have hk0:(0:Int)<=(k:Int):=by omega
          have HB:=hide hb
          have HBD:=hide hbD
          clear hb hbD
          generalize pfC Z1[k].1 Z1[k].2=cs at hS0 HS HT Hi1
          generalize pfC Z1[k].1 Z2[k].2=ds at hS0 HS HT Hi2
          go_wp2
          refine wp_region_held_drew (S:=fun W=>W.rangeAt b (off+k * 5) cs/\W.rangeAt b2 (off2+k * 5) ds) (by kernel_rfl) hS0 (fun hHeld=>?_)
          refine wpAnyH_take (i:=0) (v:=.slice (some ⟨b,off,none⟩) N cap) rfl (by kernel_rfl) (by kernel_rfl) (by kernel_rfl) (fun _ _ _ h=>h) (Or.inl ⟨by rfl,fun W hW=>by go_simp⟩) (by assumption) ?_
          change wpAnyH Try.prog _ _ _ _ _ _ (Act.put _ (some 17) _) _
          simp only [Act.put,List.setIfInBounds_toArray,List.set_cons_zero,List.set_cons_succ]
          refine wpAnyH_take (i:=1) (v:=.int .i64 (k:Int)) rfl (by kernel_rfl) (by kernel_rfl) (by kernel_rfl) (fun _ _ _ h=>h) (Or.inl ⟨by rfl,fun W hW=>by go_simp⟩) (by assumption) ?_
          change wpAnyH Try.prog _ _ _ _ _ _ (Act.put _ (some 18) _) _
          simp only [Act.put,List.setIfInBounds_toArray,List.set_cons_zero,List.set_cons_succ]
          refine wpAnyH_take (i:=2) (v:=.pointer (some ⟨b,off+k * 5,none⟩)) rfl (by kernel_rfl) (by kernel_rfl) (by kernel_rfl) (fun _ _ _ h=>h) (Or.inl ⟨by rfl,fun W hW=>by go_simp⟩) (by assumption) ?_
          change wpAnyH Try.prog _ _ _ _ _ _ (Act.put _ (some 19) _) _
          simp only [Act.put,List.setIfInBounds_toArray,List.set_cons_zero,List.set_cons_succ]
          refine wpAnyH_take (i:=3) (v:=.agg cs.toArray) rfl (by kernel_rfl) (by kernel_rfl) (by kernel_rfl) (fun _ _ _ h=>h) (yieldsIf_load_mid (by rfl) 174 _ rfl b (off+k * 5) rfl cs _ (fun W hW=>hW.1) Try.underlying174 rfl Hi1.out) (by assumption) ?_
          change wpAnyH Try.prog _ _ _ _ _ _ (Act.put _ (some 20) _) _
          simp only [Act.put,List.setIfInBounds_toArray,List.set_cons_zero,List.set_cons_succ]
          refine wpAnyH_take (i:=4) (v:=.slice (some ⟨b2,off2,none⟩) N cap2) rfl (by kernel_rfl) (by kernel_rfl) (by kernel_rfl) (fun _ _ _ h=>h) (Or.inl ⟨by rfl,fun W hW=>by go_simp⟩) (by assumption) ?_
          change wpAnyH Try.prog _ _ _ _ _ _ (Act.put _ (some 21) _) _
          simp only [Act.put,List.setIfInBounds_toArray,List.set_cons_zero,List.set_cons_succ]
          refine wpAnyH_take (i:=5) (v:=.int .i64 (k:Int)) rfl (by kernel_rfl) (by kernel_rfl) (by kernel_rfl) (fun _ _ _ h=>h) (Or.inl ⟨by rfl,fun W hW=>by go_simp⟩) (by assumption) ?_
          change wpAnyH Try.prog _ _ _ _ _ _ (Act.put _ (some 22) _) _
          simp only [Act.put,List.setIfInBounds_toArray,List.set_cons_zero,List.set_cons_succ]
          refine wpAnyH_take (i:=6) (v:=.pointer (some ⟨b2,off2+k * 5,none⟩)) rfl (by kernel_rfl) (by kernel_rfl) (by kernel_rfl) (fun _ _ _ h=>h) (Or.inl ⟨by rfl,fun W hW=>by go_simp⟩) (by assumption) ?_
          change wpAnyH Try.prog _ _ _ _ _ _ (Act.put _ (some 23) _) _
          simp only [Act.put,List.setIfInBounds_toArray,List.set_cons_zero,List.set_cons_succ]
          refine wpAnyH_take (i:=7) (v:=.agg ds.toArray) rfl (by kernel_rfl) (by kernel_rfl) (by kernel_rfl) (fun _ _ _ h=>h) (yieldsIf_load_mid (by rfl) 174 _ rfl b2 (off2+k * 5) rfl ds _ (fun W hW=>hW.2) Try.underlying174 rfl Hi2.out) (by assumption) ?_
          change wpAnyH Try.prog _ _ _ _ _ _ (Act.put _ (some 24) _) _
          simp only [Act.put,List.setIfInBounds_toArray,List.set_cons_zero,List.set_cons_succ]
          refine wpAnyH_ready (rs:=[8]) (by kernel_rfl) (by simp) ?_
          refine AllReadyH.cons rfl (fun K hK=>?_) AllReadyH.nil
          go_simp
          go_wp2_with (go_at_call 92;(with_reducible refine HT.out.mono ?_);rintro e w2 ⟨rfl,hb2⟩;have hB2:=HBD.out.trans (hb2.mono HBD.out.size);have hS2:=HS.out _ hB2)
          refine hK.out _ _ hS2 (fun hHeld=>?_)
          try simp only [Act.put,List.setIfInBounds_toArray,List.set_cons_zero,List.set_cons_succ]
          refine wpAnyH_take (i:=9) (v:=.bool false) rfl (by kernel_rfl) (by kernel_rfl) (by kernel_rfl) (fun _ _ _ h=>h) (Or.inl ⟨by rfl,fun W hW=>by go_simp⟩) (by assumption) ?_
          change wpAnyH Try.prog _ _ _ _ _ _ (Act.put _ (some 26) _) _
          simp only [Act.put,List.setIfInBounds_toArray,List.set_cons_zero,List.set_cons_succ]
          refine wpAnyH_done (by kernel_rfl) ?_ _
          clear hS0 hS2 hb2
          go_wp2
          go_roundw
          case rel=>exact ⟨k+1,by omega,by go_num,hB2⟩
          case measure=>simp [intOf];omega
        · go_wp2
          go_ret
          exact ⟨rfl,hb⟩
end Go.Proofs.Ytfdbedenlbikgaa
