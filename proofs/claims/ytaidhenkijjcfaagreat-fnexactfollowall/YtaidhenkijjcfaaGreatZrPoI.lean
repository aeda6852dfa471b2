/- ProofOf of the landed code. -/
import Derived.Test.YtaidhenkijjcfaaGreatZrKsCopyI
set_option maxRecDepth 20000
set_option maxHeartbeats 8000000
namespace Go.Proofs.YtaidhenkijjcfaaGreat
open Go.RowKit
set_option linter.unusedVariables false
theorem Blk.sets {W:World} {B:Nat} {t:TypeId} {cs:List Value} (h:Blk W B t cs) {g:Nat} (hne:B ≠ g) (o:Nat) (ys:List Value):Blk (W.setCells g o ys) B t cs :=
  ((Oth.of_grown (S:=fun x=>x=g) (putC_grown g ys W o) (fun k e=>by cases e;rfl)).block B h.lt hne).trans h
theorem res_implCopyPf {X:World} {a:Act} {R:Ending->World->Prop} {F:List Value} (g:Nat) (h:X.rangeAt g 0 F) (h2:a.tmps[2]?.getD undef=.pointer (some ⟨g,0,none⟩)) (hs:(Tryz.prog.info? 42).map (·.size)=some F.length) (hd:a.defers=[]) (hR:R (.returned (.agg F.toArray)) X):bodyPost Tryz.prog Tryz.f65 R .ret a X:=by
  have hl:=run_loadVar_mid (P:=Tryz.prog) X g 0 42 F _ h Tryz.underlying42 rfl hs
  refine bodyPost_ret (v:=.agg F.toArray) ?_ hd hR
  simp [results,Tryz.f65,h2,asAddr,hl]
theorem implCopyPf_any (p:Pf) (u:Pv) (w:World) (hr:RdPf w p u) (hf:FewPf p) (hlb:p.bs.length<=3999999) :
    Calls Tryz.prog 65 #[pfV p u] w fun e w'=>∃ u',e=.returned (pfV p u')/\OwnPf w.heap.size w'.heap.size w' p u'/\Below w.heap.size w w':=by
  have hnb:=hf.nb
  have hfb:=hf.fb
  have hnw:=hf.nw
  clear hf
  obtain ⟨ep,bs,qr,qb,qw⟩:=p
  obtain ⟨yb,yw⟩:=u
  obtain ⟨hyb,hyw⟩:=hr
  simp only at *
  obtain ⟨adb,cpb,rfl⟩:=hyb.shape
  obtain ⟨adw,cpw,rfl⟩:=hyw.shape
  have E1:=hide (fun V (hV:Below w.heap.size w V)=>copiedKs_any (.slice adb bs.length cpb) bs V (hyb.below hV (Nat.le_refl _)) (by omega) hfb)
  have E2:=hide (fun V (hV:Below w.heap.size w V)=>implCopyQc_any qr qb (.slice adw qw.length cpw) qw V (hyw.below hV (Nat.le_refl _)) hnw)
  simp only [pfV,qcV] at *
  obtain ⟨S0,hS0⟩:∃ x,(w.alloc (.cells #[.int .i64 ep,.slice adb bs.length cpb,.int .i64 qr,.int .i64 qb,.slice adw qw.length cpw] 42)).alloc (.cells #[.int .i64 0,.slice none 0 0,.int .i64 0,.int .i64 0,.slice none 0 0] 42)=x:=⟨_,rfl⟩
  have b0:Below w.heap.size w S0:=by rw [<- hS0];exact ((Below.refl _ w).alloc (Nat.le_refl _) _).alloc (by simp) _
  have K0:=hide (show Blk S0 w.heap.size 42 [.int .i64 ep,.slice adb bs.length cpb,.int .i64 qr,.int .i64 qb,.slice adw qw.length cpw] from by rw [<- hS0];exact (Blk.new w _ _).below ((Below.refl (w.heap.size+1) _).alloc (by simp) _) (by omega))
  have R0:=hide (show Blk S0 (w.heap.size+1) 42 [.int .i64 0,.slice none 0 0,.int .i64 0,.int .i64 0,.slice none 0 0] from by rw [<- hS0];exact Blk.newR _ _ [.int .i64 0,.slice none 0 0,.int .i64 0,.int .i64 0,.slice none 0 0] _ (by simp))
  have HSS:=hide (fun V (hV:Below S0.heap.size S0 V)=>(show V.cell? ⟨w.heap.size,0,none⟩=some (.int .i64 ep)/\V.cell? ⟨w.heap.size,1,none⟩=some (.slice adb bs.length cpb)/\V.cell? ⟨w.heap.size,2,none⟩=some (.int .i64 qr)/\V.cell? ⟨w.heap.size,3,none⟩=some (.int .i64 qb)/\V.cell? ⟨w.heap.size,4,none⟩=some (.slice adw qw.length cpw) from by
    have k:=K0.out.below hV K0.out.lt
    exact ⟨k.cell 0,k.cell 1,k.cell 2,k.cell 3,k.cell 4⟩))
  have HST:=hide (fun V (cs:List Value) (hV:Below S0.heap.size S0 V)=>(show (V.setCells (w.heap.size+1) 0 cs).cell? ⟨w.heap.size,0,none⟩=some (.int .i64 ep)/\(V.setCells (w.heap.size+1) 0 cs).cell? ⟨w.heap.size,1,none⟩=some (.slice adb bs.length cpb)/\(V.setCells (w.heap.size+1) 0 cs).cell? ⟨w.heap.size,2,none⟩=some (.int .i64 qr)/\(V.setCells (w.heap.size+1) 0 cs).cell? ⟨w.heap.size,3,none⟩=some (.int .i64 qb)/\(V.setCells (w.heap.size+1) 0 cs).cell? ⟨w.heap.size,4,none⟩=some (.slice adw qw.length cpw) from by
    have k:=(K0.out.below hV K0.out.lt).sets (g:=w.heap.size+1) (by omega) 0 cs
    exact ⟨k.cell 0,k.cell 1,k.cell 2,k.cell 3,k.cell 4⟩))
  have HRR:=hide (fun V (hV:Below S0.heap.size S0 V)=>R0.out.below hV R0.out.lt)
  have bD:Below S0.heap.size S0 S0.drew:=(Below.refl S0.heap.size S0).drew
  have hS:=HSS.out _ bD
  have B0:=hide b0
  have hz0:=R0.out.lt
  clear hyb hyw hfb b0
  go_enter Tryz.func65,Tryz.ntmps65
  go_upto_region 1 with fail
  go_wp2
  (try rw [hS0])
  clear hS0
  refine wp_region_held_drew (S:=fun W=>W.cell? ⟨w.heap.size,0,none⟩=some (.int .i64 ep)/\W.cell? ⟨w.heap.size,1,none⟩=some (.slice adb bs.length cpb)/\W.cell? ⟨w.heap.size,2,none⟩=some (.int .i64 qr)/\W.cell? ⟨w.heap.size,3,none⟩=some (.int .i64 qb)/\W.cell? ⟨w.heap.size,4,none⟩=some (.slice adw qw.length cpw)) (by kernel_rfl) hS (fun hHeld=>?_)
  refine wpAnyH_take (i:=0) (v:=.pointer (some ⟨w.heap.size,0,none⟩)) rfl (by kernel_rfl) (by kernel_rfl) (by kernel_rfl) (fun _ _ _ h=>h) (Or.inl ⟨by rfl,fun W hW=>by (obtain ⟨q0,q1,q2,q3,q4⟩:=hW;go_simp)⟩) (by assumption) ?_
  change wpAnyH Tryz.prog _ _ _ _ _ _ (Act.put _ (some 3) _) _
  simp only [Act.put,List.setIfInBounds_toArray,List.set_cons_zero,List.set_cons_succ]
  refine wpAnyH_take (i:=1) (v:=.int .i64 ep) rfl (by kernel_rfl) (by kernel_rfl) (by kernel_rfl) (fun _ _ _ h=>h) (Or.inl ⟨by rfl,fun W hW=>by (obtain ⟨q0,q1,q2,q3,q4⟩:=hW;go_simp)⟩) (by assumption) ?_
  change wpAnyH Tryz.prog _ _ _ _ _ _ (Act.put _ (some 4) _) _
  simp only [Act.put,List.setIfInBounds_toArray,List.set_cons_zero,List.set_cons_succ]
  refine wpAnyH_take (i:=2) (v:=.pointer (some ⟨w.heap.size,1,none⟩)) rfl (by kernel_rfl) (by kernel_rfl) (by kernel_rfl) (fun _ _ _ h=>h) (Or.inl ⟨by rfl,fun W hW=>by (obtain ⟨q0,q1,q2,q3,q4⟩:=hW;go_simp)⟩) (by assumption) ?_
  change wpAnyH Tryz.prog _ _ _ _ _ _ (Act.put _ (some 5) _) _
  simp only [Act.put,List.setIfInBounds_toArray,List.set_cons_zero,List.set_cons_succ]
  refine wpAnyH_take (i:=3) (v:=.slice adb bs.length cpb) rfl (by kernel_rfl) (by kernel_rfl) (by kernel_rfl) (fun _ _ _ h=>h) (Or.inl ⟨by rfl,fun W hW=>by (obtain ⟨q0,q1,q2,q3,q4⟩:=hW;go_simp)⟩) (by assumption) ?_
  change wpAnyH Tryz.prog _ _ _ _ _ _ (Act.put _ (some 6) _) _
  simp only [Act.put,List.setIfInBounds_toArray,List.set_cons_zero,List.set_cons_succ]
  refine wpAnyH_take (i:=5) (v:=.pointer (some ⟨w.heap.size,2,none⟩)) rfl (by kernel_rfl) (by kernel_rfl) (by kernel_rfl) (fun _ _ _ h=>h) (Or.inl ⟨by rfl,fun W hW=>by (obtain ⟨q0,q1,q2,q3,q4⟩:=hW;go_simp)⟩) (by assumption) ?_
  change wpAnyH Tryz.prog _ _ _ _ _ _ (Act.put _ (some 8) _) _
  simp only [Act.put,List.setIfInBounds_toArray,List.set_cons_zero,List.set_cons_succ]
  refine wpAnyH_take (i:=6) (v:=.agg #[.int .i64 qr,.int .i64 qb,.slice adw qw.length cpw]) rfl (by kernel_rfl) (by kernel_rfl) (by kernel_rfl) (fun _ _ _ h=>h) (Or.inl ⟨by rfl,fun W hW=>by (obtain ⟨q0,q1,q2,q3,q4⟩:=hW;go_simp)⟩) (by assumption) ?_
  change wpAnyH Tryz.prog _ _ _ _ _ _ (Act.put _ (some 9) _) _
  simp only [Act.put,List.setIfInBounds_toArray,List.set_cons_zero,List.set_cons_succ]
  refine wpAnyH_ready (rs:=[4]) (by kernel_rfl) (by simp) ?_
  refine AllReadyH.cons rfl (fun K hK=>?_) AllReadyH.nil
  go_simp
  go_wp2_with (go_at_call 117;(with_reducible refine (E1.out S0.drew (B0.out.trans (bD.mono B0.out.size))).mono ?_);rintro en w1 ⟨v1,rfl,o1,hb1⟩;obtain ⟨ab,cb,hv1⟩:=o1.rd.shape;subst hv1;have b1:=bD.trans (hb1.mono bD.size);have hS1:=HSS.out _ b1;have xb:=o1.kx)
  refine hK.out _ _ hS1 (fun hHeld=>?_)
  try simp only [Act.put,List.setIfInBounds_toArray,List.set_cons_zero,List.set_cons_succ]
  refine wpAnyH_ready (rs:=[7]) (by kernel_rfl) (by simp) ?_
  refine AllReadyH.cons rfl (fun K hK=>?_) AllReadyH.nil
  go_simp
  go_wp2_with (go_at_call 118;(with_reducible refine (E2.out w1 (B0.out.trans (b1.mono B0.out.size))).mono ?_);rintro en w2 ⟨v2,rfl,o2,hb2⟩;obtain ⟨aw,cw,hv2⟩:=o2.rd.shape;subst hv2;have b2:=b1.trans (hb2.mono b1.size);have hS2:=HSS.out _ b2;have kr:=HRR.out _ b2;have hS3:=HST.out _ [.int .i64 ep,.slice ab bs.length cb,.int .i64 qr,.int .i64 qb,.slice aw qw.length cw] b2;have xw:=InS.of o2)
  refine hK.out _ _ hS2 (fun hHeld=>?_)
  try simp only [Act.put,List.setIfInBounds_toArray,List.set_cons_zero,List.set_cons_succ]
  refine wpAnyH_take (i:=8) (v:=.agg #[.int .i64 ep,.slice ab bs.length cb,.int .i64 qr,.int .i64 qb,.slice aw qw.length cw]) rfl (by kernel_rfl) (by kernel_rfl) (by kernel_rfl) (fun _ _ _ h=>h) (Or.inl ⟨by rfl,fun W hW=>by (obtain ⟨q0,q1,q2,q3,q4⟩:=hW;go_simp)⟩) (by assumption) ?_
  change wpAnyH Tryz.prog _ _ _ _ _ _ (Act.put _ (some 11) _) _
  simp only [Act.put,List.setIfInBounds_toArray,List.set_cons_zero,List.set_cons_succ]
  refine wpAnyH_ready (rs:=[9]) (by kernel_rfl) (by simp) ?_
  refine AllReadyH.cons rfl (fun K hK=>?_) AllReadyH.nil
  refine wp_store_mid 42 _ _ rfl (w.heap.size+1) 0 #[.int .i64 ep,.slice ab bs.length cb,.int .i64 qr,.int .i64 qb,.slice aw qw.length cw] rfl rfl (kr.there (n:=5) rfl) (by kernel_rfl) (all_oneCell_toArray (cs:=[.int .i64 ep,.slice ab bs.length cb,.int .i64 qr,.int .i64 qb,.slice aw qw.length cw]) (List.all_eq_true.1 rfl)) ?_
  refine hK.out _ _ hS3 (fun hHeld=>?_)
  refine wpAnyH_done (by kernel_rfl) ?_ _
  have hb2':=B0.out.trans (b2.mono B0.out.size)
  have sz1:=b1.size
  have sz2:=hb2.size
  have HX:=hide (show Blk (w2.setCells (w.heap.size+1) 0 [.int .i64 ep,.slice ab bs.length cb,.int .i64 qr,.int .i64 qb,.slice aw qw.length cw]) (w.heap.size+1) 42 [.int .i64 ep,.slice ab bs.length cb,.int .i64 qr,.int .i64 qb,.slice aw qw.length cw] from blk_all kr rfl)
  have HB:=hide (hb2'.trans (putC_below (B:=w.heap.size) (show w.heap.size<=w.heap.size+1 by omega) [.int .i64 ep,.slice ab bs.length cb,.int .i64 qr,.int .i64 qb,.slice aw qw.length cw] w2 0))
  have Fb:=hide (((xb.kept (Kept.of_below hb2 (Nat.le_refl _))).kept (Kept.setCs w2 0 [.int .i64 ep,.slice ab bs.length cb,.int .i64 qr,.int .i64 qb,.slice aw qw.length cw] (.inl (show w.heap.size+1 < S0.drew.heap.size from Nat.lt_of_lt_of_le hz0 bD.size)))).wide (lo':=w.heap.size) (hi':=w1.heap.size) (by have:=B0.out.size;have:=bD.size;omega) (Nat.le_refl _))
  have Fw:=hide (xw.kept (Kept.setCs w2 0 [.int .i64 ep,.slice ab bs.length cb,.int .i64 qr,.int .i64 qb,.slice aw qw.length cw] (.inl (show w.heap.size+1 < w1.heap.size by omega))))
  have FZ:=hide (show (w2.setCells (w.heap.size+1) 0 [.int .i64 ep,.slice ab bs.length cb,.int .i64 qr,.int .i64 qb,.slice aw qw.length cw]).heap.size=w2.heap.size from size_sets _ _ _ 0)
  have hzz:w.heap.size<=w1.heap.size:=by omega
  clear E1 E2 HSS HST HRR hS hS1 hS2 hS3 kr K0 R0
  go_wp2
  refine res_implCopyPf (F:=[.int .i64 ep,.slice ab bs.length cb,.int .i64 qr,.int .i64 qb,.slice aw qw.length cw]) (w.heap.size+1) (blk_range HX.out) (by rfl) (by kernel_rfl) rfl ?_
  exact ⟨⟨.slice ab bs.length cb,.slice aw qw.length cw⟩,rfl,⟨⟨w.heap.size,w1.heap.size,w2.heap.size,Nat.le_refl _,hzz,sz2,by rw [FZ.out];exact Nat.le_refl _,Fb.out,Fw.out⟩⟩,HB.out⟩
theorem res_specCopyPf {X:World} {a:Act} {R:Ending->World->Prop} {F:List Value} (g:Nat) (h:X.rangeAt g 0 F) (h2:a.tmps[2]?.getD undef=.pointer (some ⟨g,0,none⟩)) (hs:(Tryz.prog.info? 42).map (·.size)=some F.length) (hd:a.defers=[]) (hR:R (.returned (.agg F.toArray)) X):bodyPost Tryz.prog Tryz.f57 R .ret a X:=by
  have hl:=run_loadVar_mid (P:=Tryz.prog) X g 0 42 F _ h Tryz.underlying42 rfl hs
  refine bodyPost_ret (v:=.agg F.toArray) ?_ hd hR
  simp [results,Tryz.f57,h2,asAddr,hl]
theorem specCopyPf_any (p:Pf) (u:Pv) (w:World) (hr:RdPf w p u) (hf:FewPf p) (hlb:p.bs.length<=3999999) :
    Calls Tryz.prog 57 #[pfV p u] w fun e w'=>∃ u',e=.returned (pfV p u')/\OwnPf w.heap.size w'.heap.size w' p u'/\Below w.heap.size w w':=by
  have hnb:=hf.nb
  have hfb:=hf.fb
  have hnw:=hf.nw
  clear hf
  obtain ⟨ep,bs,qr,qb,qw⟩:=p
  obtain ⟨yb,yw⟩:=u
  obtain ⟨hyb,hyw⟩:=hr
  simp only at *
  obtain ⟨adb,cpb,rfl⟩:=hyb.shape
  obtain ⟨adw,cpw,rfl⟩:=hyw.shape
  have E1:=hide (fun V (hV:Below w.heap.size w V)=>specCopyKs_any (.slice adb bs.length cpb) bs V (hyb.below hV (Nat.le_refl _)) (by omega) hfb)
  have E2:=hide (fun V (hV:Below w.heap.size w V)=>specCopyQc_any qr qb (.slice adw qw.length cpw) qw V (hyw.below hV (Nat.le_refl _)) hnw)
  simp only [pfV,qcV] at *
  obtain ⟨S0,hS0⟩:∃ x,(w.alloc (.cells #[.int .i64 ep,.slice adb bs.length cpb,.int .i64 qr,.int .i64 qb,.slice adw qw.length cpw] 42)).alloc (.cells #[.int .i64 0,.slice none 0 0,.int .i64 0,.int .i64 0,.slice none 0 0] 42)=x:=⟨_,rfl⟩
  have b0:Below w.heap.size w S0:=by rw [<- hS0];exact ((Below.refl _ w).alloc (Nat.le_refl _) _).alloc (by simp) _
  have K0:=hide (show Blk S0 w.heap.size 42 [.int .i64 ep,.slice adb bs.length cpb,.int .i64 qr,.int .i64 qb,.slice adw qw.length cpw] from by rw [<- hS0];exact (Blk.new w _ _).below ((Below.refl (w.heap.size+1) _).alloc (by simp) _) (by omega))
  have R0:=hide (show Blk S0 (w.heap.size+1) 42 [.int .i64 0,.slice none 0 0,.int .i64 0,.int .i64 0,.slice none 0 0] from by rw [<- hS0];exact Blk.newR _ _ [.int .i64 0,.slice none 0 0,.int .i64 0,.int .i64 0,.slice none 0 0] _ (by simp))
  have HSS:=hide (fun V (hV:Below S0.heap.size S0 V)=>(show V.cell? ⟨w.heap.size,0,none⟩=some (.int .i64 ep)/\V.cell? ⟨w.heap.size,1,none⟩=some (.slice adb bs.length cpb)/\V.cell? ⟨w.heap.size,2,none⟩=some (.int .i64 qr)/\V.cell? ⟨w.heap.size,3,none⟩=some (.int .i64 qb)/\V.cell? ⟨w.heap.size,4,none⟩=some (.slice adw qw.length cpw) from by
    have k:=K0.out.below hV K0.out.lt
    exact ⟨k.cell 0,k.cell 1,k.cell 2,k.cell 3,k.cell 4⟩))
  have HST:=hide (fun V (cs:List Value) (hV:Below S0.heap.size S0 V)=>(show (V.setCells (w.heap.size+1) 0 cs).cell? ⟨w.heap.size,0,none⟩=some (.int .i64 ep)/\(V.setCells (w.heap.size+1) 0 cs).cell? ⟨w.heap.size,1,none⟩=some (.slice adb bs.length cpb)/\(V.setCells (w.heap.size+1) 0 cs).cell? ⟨w.heap.size,2,none⟩=some (.int .i64 qr)/\(V.setCells (w.heap.size+1) 0 cs).cell? ⟨w.heap.size,3,none⟩=some (.int .i64 qb)/\(V.setCells (w.heap.size+1) 0 cs).cell? ⟨w.heap.size,4,none⟩=some (.slice adw qw.length cpw) from by
    have k:=(K0.out.below hV K0.out.lt).sets (g:=w.heap.size+1) (by omega) 0 cs
    exact ⟨k.cell 0,k.cell 1,k.cell 2,k.cell 3,k.cell 4⟩))
  have HRR:=hide (fun V (hV:Below S0.heap.size S0 V)=>R0.out.below hV R0.out.lt)
  have bD:Below S0.heap.size S0 S0.drew:=(Below.refl S0.heap.size S0).drew
  have hS:=HSS.out _ bD
  have B0:=hide b0
  have hz0:=R0.out.lt
  clear hyb hyw hfb b0
  go_enter Tryz.func57,Tryz.ntmps57
  go_upto_region 1 with fail
  go_wp2
  (try rw [hS0])
  clear hS0
  refine wp_region_held_drew (S:=fun W=>W.cell? ⟨w.heap.size,0,none⟩=some (.int .i64 ep)/\W.cell? ⟨w.heap.size,1,none⟩=some (.slice adb bs.length cpb)/\W.cell? ⟨w.heap.size,2,none⟩=some (.int .i64 qr)/\W.cell? ⟨w.heap.size,3,none⟩=some (.int .i64 qb)/\W.cell? ⟨w.heap.size,4,none⟩=some (.slice adw qw.length cpw)) (by kernel_rfl) hS (fun hHeld=>?_)
  refine wpAnyH_take (i:=0) (v:=.pointer (some ⟨w.heap.size,0,none⟩)) rfl (by kernel_rfl) (by kernel_rfl) (by kernel_rfl) (fun _ _ _ h=>h) (Or.inl ⟨by rfl,fun W hW=>by (obtain ⟨q0,q1,q2,q3,q4⟩:=hW;go_simp)⟩) (by assumption) ?_
  change wpAnyH Tryz.prog _ _ _ _ _ _ (Act.put _ (some 3) _) _
  simp only [Act.put,List.setIfInBounds_toArray,List.set_cons_zero,List.set_cons_succ]
  refine wpAnyH_take (i:=1) (v:=.int .i64 ep) rfl (by kernel_rfl) (by kernel_rfl) (by kernel_rfl) (fun _ _ _ h=>h) (Or.inl ⟨by rfl,fun W hW=>by (obtain ⟨q0,q1,q2,q3,q4⟩:=hW;go_simp)⟩) (by assumption) ?_
  change wpAnyH Tryz.prog _ _ _ _ _ _ (Act.put _ (some 4) _) _
  simp only [Act.put,List.setIfInBounds_toArray,List.set_cons_zero,List.set_cons_succ]
  refine wpAnyH_take (i:=2) (v:=.pointer (some ⟨w.heap.size,1,none⟩)) rfl (by kernel_rfl) (by kernel_rfl) (by kernel_rfl) (fun _ _ _ h=>h) (Or.inl ⟨by rfl,fun W hW=>by (obtain ⟨q0,q1,q2,q3,q4⟩:=hW;go_simp)⟩) (by assumption) ?_
  change wpAnyH Tryz.prog _ _ _ _ _ _ (Act.put _ (some 5) _) _
  simp only [Act.put,List.setIfInBounds_toArray,List.set_cons_zero,List.set_cons_succ]
  refine wpAnyH_take (i:=3) (v:=.slice adb bs.length cpb) rfl (by kernel_rfl) (by kernel_rfl) (by kernel_rfl) (fun _ _ _ h=>h) (Or.inl ⟨by rfl,fun W hW=>by (obtain ⟨q0,q1,q2,q3,q4⟩:=hW;go_simp)⟩) (by assumption) ?_
  change wpAnyH Tryz.prog _ _ _ _ _ _ (Act.put _ (some 6) _) _
  simp only [Act.put,List.setIfInBounds_toArray,List.set_cons_zero,List.set_cons_succ]
  refine wpAnyH_take (i:=5) (v:=.pointer (some ⟨w.heap.size,2,none⟩)) rfl (by kernel_rfl) (by kernel_rfl) (by kernel_rfl) (fun _ _ _ h=>h) (Or.inl ⟨by rfl,fun W hW=>by (obtain ⟨q0,q1,q2,q3,q4⟩:=hW;go_simp)⟩) (by assumption) ?_
  change wpAnyH Tryz.prog _ _ _ _ _ _ (Act.put _ (some 8) _) _
  simp only [Act.put,List.setIfInBounds_toArray,List.set_cons_zero,List.set_cons_succ]
  refine wpAnyH_take (i:=6) (v:=.agg #[.int .i64 qr,.int .i64 qb,.slice adw qw.length cpw]) rfl (by kernel_rfl) (by kernel_rfl) (by kernel_rfl) (fun _ _ _ h=>h) (Or.inl ⟨by rfl,fun W hW=>by (obtain ⟨q0,q1,q2,q3,q4⟩:=hW;go_simp)⟩) (by assumption) ?_
  change wpAnyH Tryz.prog _ _ _ _ _ _ (Act.put _ (some 9) _) _
  simp only [Act.put,List.setIfInBounds_toArray,List.set_cons_zero,List.set_cons_succ]
  refine wpAnyH_ready (rs:=[4]) (by kernel_rfl) (by simp) ?_
  refine AllReadyH.cons rfl (fun K hK=>?_) AllReadyH.nil
  go_simp
  go_wp2_with (go_at_call 112;(with_reducible refine (E1.out S0.drew (B0.out.trans (bD.mono B0.out.size))).mono ?_);rintro en w1 ⟨v1,rfl,o1,hb1⟩;obtain ⟨ab,cb,hv1⟩:=o1.rd.shape;subst hv1;have b1:=bD.trans (hb1.mono bD.size);have hS1:=HSS.out _ b1;have xb:=o1.kx)
  refine hK.out _ _ hS1 (fun hHeld=>?_)
  try simp only [Act.put,List.setIfInBounds_toArray,List.set_cons_zero,List.set_cons_succ]
  refine wpAnyH_ready (rs:=[7]) (by kernel_rfl) (by simp) ?_
  refine AllReadyH.cons rfl (fun K hK=>?_) AllReadyH.nil
  go_simp
  go_wp2_with (go_at_call 113;(with_reducible refine (E2.out w1 (B0.out.trans (b1.mono B0.out.size))).mono ?_);rintro en w2 ⟨v2,rfl,o2,hb2⟩;obtain ⟨aw,cw,hv2⟩:=o2.rd.shape;subst hv2;have b2:=b1.trans (hb2.mono b1.size);have hS2:=HSS.out _ b2;have kr:=HRR.out _ b2;have hS3:=HST.out _ [.int .i64 ep,.slice ab bs.length cb,.int .i64 qr,.int .i64 qb,.slice aw qw.length cw] b2;have xw:=InS.of o2)
  refine hK.out _ _ hS2 (fun hHeld=>?_)
  try simp only [Act.put,List.setIfInBounds_toArray,List.set_cons_zero,List.set_cons_succ]
  refine wpAnyH_take (i:=8) (v:=.agg #[.int .i64 ep,.slice ab bs.length cb,.int .i64 qr,.int .i64 qb,.slice aw qw.length cw]) rfl (by kernel_rfl) (by kernel_rfl) (by kernel_rfl) (fun _ _ _ h=>h) (Or.inl ⟨by rfl,fun W hW=>by (obtain ⟨q0,q1,q2,q3,q4⟩:=hW;go_simp)⟩) (by assumption) ?_
  change wpAnyH Tryz.prog _ _ _ _ _ _ (Act.put _ (some 11) _) _
  simp only [Act.put,List.setIfInBounds_toArray,List.set_cons_zero,List.set_cons_succ]
  refine wpAnyH_ready (rs:=[9]) (by kernel_rfl) (by simp) ?_
  refine AllReadyH.cons rfl (fun K hK=>?_) AllReadyH.nil
  refine wp_store_mid 42 _ _ rfl (w.heap.size+1) 0 #[.int .i64 ep,.slice ab bs.length cb,.int .i64 qr,.int .i64 qb,.slice aw qw.length cw] rfl rfl (kr.there (n:=5) rfl) (by kernel_rfl) (all_oneCell_toArray (cs:=[.int .i64 ep,.slice ab bs.length cb,.int .i64 qr,.int .i64 qb,.slice aw qw.length cw]) (List.all_eq_true.1 rfl)) ?_
  refine hK.out _ _ hS3 (fun hHeld=>?_)
  refine wpAnyH_done (by kernel_rfl) ?_ _
  have hb2':=B0.out.trans (b2.mono B0.out.size)
  have sz1:=b1.size
  have sz2:=hb2.size
  have HX:=hide (show Blk (w2.setCells (w.heap.size+1) 0 [.int .i64 ep,.slice ab bs.length cb,.int .i64 qr,.int .i64 qb,.slice aw qw.length cw]) (w.heap.size+1) 42 [.int .i64 ep,.slice ab bs.length cb,.int .i64 qr,.int .i64 qb,.slice aw qw.length cw] from blk_all kr rfl)
  have HB:=hide (hb2'.trans (putC_below (B:=w.heap.size) (show w.heap.size<=w.heap.size+1 by omega) [.int .i64 ep,.slice ab bs.length cb,.int .i64 qr,.int .i64 qb,.slice aw qw.length cw] w2 0))
  have Fb:=hide (((xb.kept (Kept.of_below hb2 (Nat.le_refl _))).kept (Kept.setCs w2 0 [.int .i64 ep,.slice ab bs.length cb,.int .i64 qr,.int .i64 qb,.slice aw qw.length cw] (.inl (show w.heap.size+1 < S0.drew.heap.size from Nat.lt_of_lt_of_le hz0 bD.size)))).wide (lo':=w.heap.size) (hi':=w1.heap.size) (by have:=B0.out.size;have:=bD.size;omega) (Nat.le_refl _))
  have Fw:=hide (xw.kept (Kept.setCs w2 0 [.int .i64 ep,.slice ab bs.length cb,.int .i64 qr,.int .i64 qb,.slice aw qw.length cw] (.inl (show w.heap.size+1 < w1.heap.size by omega))))
  have FZ:=hide (show (w2.setCells (w.heap.size+1) 0 [.int .i64 ep,.slice ab bs.length cb,.int .i64 qr,.int .i64 qb,.slice aw qw.length cw]).heap.size=w2.heap.size from size_sets _ _ _ 0)
  have hzz:w.heap.size<=w1.heap.size:=by omega
  clear E1 E2 HSS HST HRR hS hS1 hS2 hS3 kr K0 R0
  go_wp2
  refine res_specCopyPf (F:=[.int .i64 ep,.slice ab bs.length cb,.int .i64 qr,.int .i64 qb,.slice aw qw.length cw]) (w.heap.size+1) (blk_range HX.out) (by rfl) (by kernel_rfl) rfl ?_
  exact ⟨⟨.slice ab bs.length cb,.slice aw qw.length cw⟩,rfl,⟨⟨w.heap.size,w1.heap.size,w2.heap.size,Nat.le_refl _,hzz,sz2,by rw [FZ.out];exact Nat.le_refl _,Fb.out,Fw.out⟩⟩,HB.out⟩
theorem Tryz.infoP5:(Tryz.prog.info? 42).map (·.size)=some 5:=by kernel_rfl
theorem Tryz.infoP20:(Tryz.prog.info? 73).map (·.size)=some 20:=by kernel_rfl
theorem Tryz.isProof (v:Value) (xT:TypeId) (w:World):(Instr.typeAssert (.iface 42 v) xT 42 true).run Tryz.prog w=.ok (.tuple #[v,.bool true]) w:=by kernel_rfl
theorem Tryz.noProof (xT:TypeId) (w:World):(Instr.typeAssert .nilIface xT 42 true).run Tryz.prog w=.ok (.tuple #[.agg #[.int .i64 0,.slice none 0 0,.int .i64 0,.int .i64 0,.slice none 0 0],.bool false]) w:=by kernel_rfl
theorem implShown_any (p:Nd) (u:Nv) (e:Int) (w:World) (hr:RdNd w p u) (hl:p.ps.length<=4000000) :
    Calls Tryz.prog 64 #[noV p u,.int .i64 e] w fun en w'=>((∃ q y,pfF p.ps e=some q/\en=.returned (.iface 42 (pfV q y))/\RdPf w q y)\/(pfF p.ps e=none/\en=.returned .nilIface))/\Below w.heap.size w w':=by
  have hq:=hr.kq
  clear hr
  obtain ⟨aq,cq,hqv⟩:=hq.shape
  obtain ⟨w1,hw1⟩:∃ x,w.alloc (.cells (noC p u).toArray 73)=x:=⟨_,rfl⟩
  have b1:Below w.heap.size w w1:=by rw [<- hw1];exact (Below.refl _ w).alloc (Nat.le_refl _) _
  have k1:Blk w1 w.heap.size 73 (noC p u):=by rw [<- hw1];exact Blk.new w _ _
  have q1:w1.cell? ⟨w.heap.size,19,none⟩=some (.slice aq p.ps.length cq):=(k1.cell 19).trans (by rw [<- hqv];rfl)
  rw [hqv] at hq
  rw [show noV p u=.agg (noC p u).toArray from rfl]
  clear hqv k1
  generalize noC p u=cs at hw1 ⊢
  generalize p.ps=L at hq q1 hl ⊢
  have Hq:=hide hq
  have B1:=hide b1
  clear hq b1
  go_enter Tryz.func64,Tryz.ntmps64
  go_upto_region 1 with fail
  (try rw [hw1])
  clear hw1
  go_wp2
  go_loopw [10] (fun iv wr=>∃ k:Nat,k<=L.length/\iv=.int .i64 (k:Int)/\(∀ j (h:j < L.length),j < k->¬ L[j].ep=e)/\Below w1.heap.size w1 wr) (fun iv _=>L.length - (intOf iv).toNat)
  case atStart=>exact ⟨0,by omega,rfl,fun j _ h=>by omega,Below.refl _ _⟩
  case round =>
    obtain ⟨k,hk,rfl,hn,hb⟩:=hrel
    have hB:Below w.heap.size w wr:=B1.out.trans (hb.mono B1.out.size)
    by_cases hlt:k < L.length
    · obtain ⟨b,off,rfl,hbw,hat⟩:=Hq.out.atP (by omega)
      obtain ⟨y,hrg,hrd⟩:=hat k hlt
      have hli:(k:Int) < (L.length:Int):=by omega
      have hrg:=range_below hrg hB hbw
      have Hyes:=hide (fun he=>pfF_at L e k hlt he hn)
      have Hstep:=hide (fun (he:¬ L[k].ep=e) j (h:j < L.length) (hj:j < k+1)=>show ¬ L[j].ep=e from by
        rcases Nat.lt_succ_iff_lt_or_eq.1 hj with h' | h'
        · exact hn j h h'
        · subst h';exact he)
      clear hat hn
      generalize L[k]=q at hrg hrd Hyes Hstep
      obtain ⟨ep,bs,qr,qb,qw⟩:=q
      obtain ⟨yb,yw⟩:=y
      obtain ⟨ab,cb,hyb⟩:=hrd.kb.shape
      obtain ⟨aw,cw,hyw⟩:=hrd.kw.shape
      simp only at hyb hyw
      subst hyb hyw
      have c0:=hrg 0 _ rfl
      have c1:=hrg 1 _ rfl
      have c2:=hrg 2 _ rfl
      have c3:=hrg 3 _ rfl
      have c4:=hrg 4 _ rfl
      simp only [Nat.add_zero] at c0
      simp only at Hyes Hstep c0 c1 c2 c3 c4
      have Hrd:=hide hrd
      clear hrg hrd
      obtain ⟨w4,hw4⟩:∃ w4,wr.alloc (.cells #[.int .i64 ep,.slice ab bs.length cb,.int .i64 qr,.int .i64 qb,.slice aw qw.length cw] 42)=w4:=⟨_,rfl⟩
      have hA:Below wr.heap.size wr w4:=by rw [<- hw4];exact (Below.refl _ wr).alloc (Nat.le_refl _) _
      have k4:Blk w4 wr.heap.size 42 [.int .i64 ep,.slice ab bs.length cb,.int .i64 qr,.int .i64 qb,.slice aw qw.length cw]:=by rw [<- hw4];exact Blk.new wr _ _
      have e0:=k4.cell 0
      have e1:=k4.cell 1
      have e2:=k4.cell 2
      have e3:=k4.cell 3
      have e4:=k4.cell 4
      simp only [List.getElem?_cons_zero,List.getElem?_cons_succ] at e0 e1 e2 e3 e4
      have HbA:=hide (hb.trans (hA.mono hb.size))
      have HB:=hide (hB.trans (hA.mono hB.size))
      clear hb hB hA k4
      by_cases he:ep=e
      · have Hy2:=hide (Hyes.out he)
        clear Hstep Hyes
        subst he
        go_wp2
        go_ret
        exact ⟨.inl ⟨_,⟨.slice ab bs.length cb,.slice aw qw.length cw⟩,Hy2.out,rfl,Hrd.out⟩,HB.out⟩
      · have Hstep:=hide (Hstep.out he)
        clear Hyes
        go_wp2
        go_roundw
        case rel=>exact ⟨k+1,by omega,by go_num,Hstep.out,HbA.out⟩
        case measure=>simp [intOf];omega
    · have hno:=pfF_none L e (fun j hj=>hn j hj (by omega))
      have Hno:=hide hno
      have HB:=hide hB
      clear hno hn hb hB
      go_wp2
      go_ret
      exact ⟨.inr ⟨Hno.out,rfl⟩,HB.out⟩
theorem res_implPo {X:World} {a:Act} {R:Ending->World->Prop} {F:List Value} (g:Nat) (bk:Value) (h:X.rangeAt g 0 F) (h4:a.tmps[4]?.getD undef=.pointer (some ⟨g,0,none⟩)) (h5:a.tmps[5]?.getD undef=bk) (hs:(Tryz.prog.info? 42).map (·.size)=some F.length) (hd:a.defers=[]) (hR:R (.returned (.tuple #[.agg F.toArray,bk])) X):bodyPost Tryz.prog Tryz.f20 R .ret a X:=by
  have hl:=run_loadVar_mid (P:=Tryz.prog) X g 0 42 F _ h Tryz.underlying42 rfl hs
  refine bodyPost_ret (v:=.tuple #[.agg F.toArray,bk]) ?_ hd hR
  simp [results,Tryz.f20,h4,h5,asAddr,hl]
theorem implProofOf_any (p:Nd) (u:Nv) (e:Int) (w:World) (hr:RdNd w p u) (hl:p.ps.length<=4000000) (hf:∀ q ∈ p.ps,FewPf q) (hb:∀ q ∈ p.ps,q.bs.length<=3999999) :
    Calls Tryz.prog 20 #[noV p u,.int .i64 e] w fun en w'=>∃ y,en=.returned (.tuple #[pfV (poP p.ps e) y,.bool (poO p.ps e)])/\OwnPf w.heap.size w'.heap.size w' (poP p.ps e) y/\Below w.heap.size w w':=by
  obtain ⟨w1,hw1⟩:∃ x,(w.alloc (.cells (noC p u).toArray 73)).alloc (.cells #[.int .i64 0,.slice none 0 0,.int .i64 0,.int .i64 0,.slice none 0 0] 42)=x:=⟨_,rfl⟩
  have b1:Below w.heap.size w w1:=by rw [<- hw1];exact ((Below.refl _ w).alloc (Nat.le_refl _) _).alloc (by simp) _
  have k1:Blk w1 w.heap.size 73 (noC p u):=by rw [<- hw1];exact (Blk.new w _ _).below ((Below.refl (w.heap.size+1) _).alloc (by simp) _) (by omega)
  have r1:Blk w1 (w.heap.size+1) 42 [.int .i64 0,.slice none 0 0,.int .i64 0,.int .i64 0,.slice none 0 0]:=by rw [<- hw1];exact Blk.newR _ _ [.int .i64 0,.slice none 0 0,.int .i64 0,.int .i64 0,.slice none 0 0] _ (by simp)
  have HS:=hide (implShown_any p u e w1 (hr.below b1 (Nat.le_refl _)) hl)
  have HX:=hide (show ∀ q y V,Below w1.heap.size w1 V->RdPf w1 q y->(q ∈ p.ps\/q=poZ)->Calls Tryz.prog 65 #[pfV q y] V fun en w'=>∃ u',en=.returned (pfV q u')/\OwnPf V.heap.size w'.heap.size w' q u'/\Below V.heap.size V w' from fun q y V hV h hq=>by
    refine implCopyPf_any q y V (h.below hV (Nat.le_refl _)) ?_ ?_
    · rcases hq with hq | rfl
      · exact hf q hq
      · exact ⟨by simp [poZ],by simp [poZ],by simp [poZ]⟩
    · rcases hq with hq | rfl
      · exact hb q hq
      · simp [poZ])
  have IA:=hide (show (Tryz.prog.info? 73).map (·.size)=some (noC p u).length from Tryz.infoP20)
  have HP:Hid (poP p.ps e=(pfF p.ps e).getD poZ/\poO p.ps e=(pfF p.ps e).isSome):=hide ⟨rfl,rfl⟩
  have HM:=hide (fun q (h:pfF p.ps e=some q)=>(pfF_mem h).1)
  generalize poP p.ps e=P at HP ⊢
  generalize poO p.ps e=O at HP ⊢
  generalize pfF p.ps e=F at HS HP HM
  rw [show noV p u=.agg (noC p u).toArray from rfl] at HS ⊢
  clear hr hf hb hl
  generalize p.ps=L at HX HM
  generalize noC p u=cs at hw1 k1 HS IA ⊢
  have RA:=hide (blk_range k1)
  have B1:=hide b1
  have R1:=hide r1
  have hs1:w.heap.size+1 < w1.heap.size:=r1.lt
  clear b1 r1 k1
  go_enter Tryz.func20,Tryz.ntmps20
  go_upto_region 1 with fail
  (try rw [hw1])
  clear hw1
  go_wp2_with (first
    | (refine wpList_load_mid rfl 73 _ rfl w.heap.size 0 rfl cs _ RA.out Tryz.underlying73 rfl IA.out ?_)
    | fail)
  refine HS.out.mono ?_
  rintro en w2 ⟨hcase,hb2⟩
  have R2:=hide (R1.out.below hb2 R1.out.lt)
  have B2:=hide (B1.out.trans (hb2.mono B1.out.size))
  have hs2:=hb2.size
  have tA:=Tryz.isProof
  have tN:=Tryz.noProof
  clear HS
  rcases hcase with ⟨q,y,hF,rfl,hrd⟩ | ⟨hF,rfl⟩
  · have hP:=HP.out
    rw [hF] at hP
    simp only [Option.getD_some,Option.isSome_some] at hP
    obtain ⟨h1,rfl⟩:=hP
    obtain rfl:q=P:=h1.symm
    have Hm:=hide (HM.out q hF)
    clear hF HP HM tN
    obtain ⟨ep,bs,qr,qb,qw⟩:=q
    obtain ⟨yb,yw⟩:=y
    obtain ⟨ab,cb,hyb⟩:=hrd.kb.shape
    obtain ⟨aw,cw,hyw⟩:=hrd.kw.shape
    simp only at hyb hyw
    subst hyb hyw
    have Hrd:=hide hrd
    clear hrd
    simp only [pfV]
    obtain ⟨w3,hw3⟩:∃ x,w2.alloc (.cells #[.int .i64 ep,.slice ab bs.length cb,.int .i64 qr,.int .i64 qb,.slice aw qw.length cw] 42)=x:=⟨_,rfl⟩
    have b3:Below w2.heap.size w2 w3:=by rw [<- hw3];exact (Below.refl _ w2).alloc (Nat.le_refl _) _
    have k3:Blk w3 w2.heap.size 42 [.int .i64 ep,.slice ab bs.length cb,.int .i64 qr,.int .i64 qb,.slice aw qw.length cw]:=by rw [<- hw3];exact Blk.new w2 _ _
    have e0:=k3.cell 0
    have e1:=k3.cell 1
    have e2:=k3.cell 2
    have e3:=k3.cell 3
    have e4:=k3.cell 4
    simp only [List.getElem?_cons_zero,List.getElem?_cons_succ] at e0 e1 e2 e3 e4
    have hz3:=b3.size
    have B3:=hide (B2.out.trans (b3.mono B2.out.size))
    have R3:=hide (R2.out.below b3 R2.out.lt)
    have HC:=hide (HX.out _ _ w3 (hb2.trans (b3.mono hs2)) Hrd.out (.inl Hm.out))
    have Hw3:=hide hw3
    clear HX b3 k3 hb2 Hrd R2 B2 hw3
    go_upto_region 2 with fail
    rw [Hw3.out]
    clear Hw3
    go_wp2_with fail
    refine HC.out.mono ?_
    rintro en w4 ⟨y4,rfl,o4,hb4⟩
    obtain ⟨ad4,cp4,hv4⟩:=o4.rd.kb.shape
    obtain ⟨aw4,cw4,hw4⟩:=o4.rd.kw.shape
    obtain ⟨c4,hc4⟩:∃ c,pfC ⟨ep,bs,qr,qb,qw⟩ y4=c:=⟨_,rfl⟩
    have ev:pfV ⟨ep,bs,qr,qb,qw⟩ y4=.agg c4.toArray:=by rw [<- hc4];rfl
    have I4:=hide (show (Tryz.prog.info? 42).map (·.size)=some c4.length from by rw [<- hc4];exact Tryz.infoP5)
    have O4:=hide (show c4.toArray.all (·.oneCell')=true from by rw [<- hc4];unfold pfC;rw [hv4,hw4];exact all_oneCell_toArray (List.all_eq_true.1 rfl))
    have L4:=hide (show c4.length=5 from by rw [<- hc4];rfl)
    have R4:=hide (R3.out.below hb4 R3.out.lt)
    have T4:=hide (show w4.there (w.heap.size+1) 0 c4.toArray.size from R4.out.there (by rw [List.size_toArray,L4.out];rfl))
    obtain ⟨w5,hw5⟩:∃ x,w4.setCells (w.heap.size+1) 0 c4=x:=⟨_,rfl⟩
    have K5:=hide (show Blk w5 (w.heap.size+1) 42 c4 from by rw [<- hw5];exact blk_all R4.out (by rw [L4.out];rfl))
    have B5:=hide (show Below w.heap.size w w5 from by rw [<- hw5];exact (B3.out.trans (hb4.mono B3.out.size)).trans (putC_below (by omega) _ _ _))
    have S5:=hide (show w5.heap.size=w4.heap.size from by rw [<- hw5];exact size_sets _ _ _ 0)
    have X5:=hide (show OwnPf w.heap.size w5.heap.size w5 ⟨ep,bs,qr,qb,qw⟩ y4 from by rw [S5.out,<- hw5];exact (o4.kept (Kept.setCs w4 0 c4 (.inl (by omega)))).wide (by omega) (Nat.le_refl _))
    have HW5:=hide hw5
    have EV:=hide ev
    rw [ev]
    clear ev hw5 hc4 hv4 hw4 o4 hb4 HC R3 R4 B3 e0 e1 e2 e3 e4
    go_wp2_with (first
      | (refine wpList_store_mid rfl 42 _ _ rfl (w.heap.size+1) 0 c4.toArray rfl rfl T4.out (by simpa using I4.out) O4.out ?_;rw [HW5.out])
      | fail)
    refine res_implPo (F:=c4) (w.heap.size+1) (.bool true) (blk_range K5.out) (by rfl) (by rfl) I4.out rfl ?_
    exact ⟨y4,by rw [EV.out],X5.out,B5.out⟩
  · have hP:=HP.out
    rw [hF] at hP
    simp only [Option.getD_none,Option.isSome_none] at hP
    obtain ⟨rfl,rfl⟩:=hP
    clear hF HP HM tA
    have Hrd:=hide (rdPf_zero w1)
    obtain ⟨w3,hw3⟩:∃ x,w2.alloc (.cells #[.int .i64 0,.slice none 0 0,.int .i64 0,.int .i64 0,.slice none 0 0] 42)=x:=⟨_,rfl⟩
    have b3:Below w2.heap.size w2 w3:=by rw [<- hw3];exact (Below.refl _ w2).alloc (Nat.le_refl _) _
    have k3:Blk w3 w2.heap.size 42 [.int .i64 0,.slice none 0 0,.int .i64 0,.int .i64 0,.slice none 0 0]:=by rw [<- hw3];exact Blk.new w2 _ _
    have e0:=k3.cell 0
    have e1:=k3.cell 1
    have e2:=k3.cell 2
    have e3:=k3.cell 3
    have e4:=k3.cell 4
    simp only [List.getElem?_cons_zero,List.getElem?_cons_succ] at e0 e1 e2 e3 e4
    have hz3:=b3.size
    have B3:=hide (B2.out.trans (b3.mono B2.out.size))
    have R3:=hide (R2.out.below b3 R2.out.lt)
    have HC:=hide (HX.out _ _ w3 (hb2.trans (b3.mono hs2)) Hrd.out (.inr rfl))
    have Hw3:=hide hw3
    clear HX b3 k3 hb2 Hrd R2 B2 hw3
    go_upto_region 2 with fail
    rw [Hw3.out]
    clear Hw3
    go_wp2_with fail
    refine HC.out.mono ?_
    rintro en w4 ⟨y4,rfl,o4,hb4⟩
    obtain ⟨ad4,cp4,hv4⟩:=o4.rd.kb.shape
    obtain ⟨aw4,cw4,hw4⟩:=o4.rd.kw.shape
    obtain ⟨c4,hc4⟩:∃ c,pfC poZ y4=c:=⟨_,rfl⟩
    have ev:pfV poZ y4=.agg c4.toArray:=by rw [<- hc4];rfl
    have I4:=hide (show (Tryz.prog.info? 42).map (·.size)=some c4.length from by rw [<- hc4];exact Tryz.infoP5)
    have O4:=hide (show c4.toArray.all (·.oneCell')=true from by rw [<- hc4];unfold pfC;rw [hv4,hw4];exact all_oneCell_toArray (List.all_eq_true.1 rfl))
    have L4:=hide (show c4.length=5 from by rw [<- hc4];rfl)
    have R4:=hide (R3.out.below hb4 R3.out.lt)
    have T4:=hide (show w4.there (w.heap.size+1) 0 c4.toArray.size from R4.out.there (by rw [List.size_toArray,L4.out];rfl))
    obtain ⟨w5,hw5⟩:∃ x,w4.setCells (w.heap.size+1) 0 c4=x:=⟨_,rfl⟩
    have K5:=hide (show Blk w5 (w.heap.size+1) 42 c4 from by rw [<- hw5];exact blk_all R4.out (by rw [L4.out];rfl))
    have B5:=hide (show Below w.heap.size w w5 from by rw [<- hw5];exact (B3.out.trans (hb4.mono B3.out.size)).trans (putC_below (by omega) _ _ _))
    have S5:=hide (show w5.heap.size=w4.heap.size from by rw [<- hw5];exact size_sets _ _ _ 0)
    have X5:=hide (show OwnPf w.heap.size w5.heap.size w5 poZ y4 from by rw [S5.out,<- hw5];exact (o4.kept (Kept.setCs w4 0 c4 (.inl (by omega)))).wide (by omega) (Nat.le_refl _))
    have HW5:=hide hw5
    have EV:=hide ev
    rw [ev]
    clear ev hw5 hc4 hv4 hw4 o4 hb4 HC R3 R4 B3 e0 e1 e2 e3 e4
    go_wp2_with (first
      | (refine wpList_store_mid rfl 42 _ _ rfl (w.heap.size+1) 0 c4.toArray rfl rfl T4.out (by simpa using I4.out) O4.out ?_;rw [HW5.out])
      | fail)
    refine res_implPo (F:=c4) (w.heap.size+1) (.bool false) (blk_range K5.out) (by rfl) (by rfl) I4.out rfl ?_
    exact ⟨y4,by rw [EV.out],X5.out,B5.out⟩
end Go.Proofs.YtaidhenkijjcfaaGreat
