/- What the draws of chapter 5's laws answer. -/
import Derived.Test.YtmofbnmklldngaaDrawTx5
import Derived.RegionTactic
import Derived.ChangeAlike
namespace Go.Proofs.Ytmofbnmklldngaa
open Go.RowKit
set_option linter.unusedVariables false

theorem grown_put5 (W : World) (b : Nat) (y0 y1 y2 y3 y4 : Value) : W.grownBy (((((W.setCell ⟨b, 0, none⟩ y0).setCell ⟨b, 1, none⟩ y1).setCell ⟨b, 2, none⟩ y2).setCell ⟨b, 3, none⟩ y3).setCell ⟨b, 4, none⟩ y4) (some b) :=
  grw_trans (grw_trans (grw_trans (grw_trans (grown_set W b 0 y0) (grown_set _ b 1 y1)) (grown_set _ b 2 y2)) (grown_set _ b 3 y3)) (grown_set _ b 4 y4)
set_option maxRecDepth 20000 in
set_option maxHeartbeats 1000000 in
theorem drawPutTx_any (w : World) (cv : Value) (code : List UInt8) (hr : RdB w cv code) (hl : code.length ≤ 1048576) :
    Calls Try.prog 10 #[cv] w fun e w' => ∃ (v' : Value) (l' : List UInt8) (t : Tx5), e = .returned (.tuple #[v', txV t]) ∧ OwnB w.heap.size w' v' l' ∧ l'.length ≤ 9 ∧ SmT t ∧ Below w.heap.size w w' := by
  obtain ⟨wa, hwa⟩ : ∃ wa, w.alloc (.cells #[.int .i64 0, .string { data := #[] }, .string { data := #[] }, .int .i64 0, .int .i64 0] 25) = wa := ⟨_, rfl⟩
  have hba : Below w.heap.size w wa := by rw [← hwa]; exact (Below.refl _ w).alloc (Nat.le_refl _) _
  have hsa : wa.heap.size = w.heap.size + 1 := by rw [← hwa]; simp
  have Ka : Hid (Blk wa w.heap.size 25 [.int .i64 0, .string { data := #[] }, .string { data := #[] }, .int .i64 0, .int .i64 0]) := hide (by rw [← hwa]; exact Blk.new w _ _)
  have Hn := hide (l1New_any wa cv code (hr.below hba (Nat.le_refl _)) hl)
  clear hr
  go_enter Try.func10, Try.ntmps10
  go_wp2_with fail
  refine Hn.out.mono ?_
  rintro e w1 ⟨rfl, hc1, hb1⟩
  rw [hsa] at hc1
  have hgl := hc1.lt
  go_wp2_with fail
  refine (l1Some_any _ _ _ _ _ hc1 hl).mono ?_
  rintro e w2 ⟨v2, l2, rfl, ho2, hl2, hc2, hg2⟩
  have hs1 := hb1.size
  have hs2 := hg2.size
  go_wp2_with fail
  refine (l5Any_any _ _ _ _ _ hc2 hl).mono ?_
  rintro e w3 ⟨⟨k, f, to, am, no⟩, rfl, hsm, hc3, hg3⟩
  have ho3 := ho2.notg hg3 hgl
  have hk3 := blk_notg5 (blk_notg5 (Ka.out.below hb1 (by omega)) hg2 (by omega)) hg3 (by omega)
  have hB : Below w.heap.size w w3 := ((hba.trans (hb1.mono (by omega))).grown hg2 (by omega) (fun k hk => by cases hk; omega)).grown hg3 (by omega) (fun k hk => by cases hk; omega)
  have Ho := hide ho3
  have HB := hide hB
  have HS := hide hsm
  simp only [txV]
  have r0 := hk3.cell 0
  have fr0 := hk3.frozen 0
  have r1 := hk3.cell 1
  have fr1 := hk3.frozen 1
  have r2 := hk3.cell 2
  have fr2 := hk3.frozen 2
  have r3 := hk3.cell 3
  have fr3 := hk3.frozen 3
  have r4 := hk3.cell 4
  have fr4 := hk3.frozen 4
  simp only [List.getElem?_cons_zero, List.getElem?_cons_succ] at r0 r1 r2 r3 r4
  clear hsm ho3 ho2 hB hk3 hc2 hc3 hg2 hg3
  obtain ⟨a2, c2, rfl⟩ := Ho.out.rd.shape
  go_wp2
  refine bodyPost_ret (v := .tuple #[.slice a2 l2.length c2, txV (k, f, to, am, no)]) (by simp [results, Try.f10, go_sem, txV, r0, r1, r2, r3, r4]) rfl ?_
  exact ⟨_, l2, (k, f, to, am, no), rfl, (Ho.out.notg (grown_put5 w3 w.heap.size _ _ _ _ _) (by omega)).mono (by omega), hl2, HS.out, HB.out.trans (below_put5 w3 w.heap.size _ _ _ _ _)⟩
set_option maxRecDepth 20000 in
set_option maxHeartbeats 2000000 in
theorem drawTxLess_any (w : World) (cv : Value) (code : List UInt8) (hr : RdB w cv code) (hl : code.length ≤ 1048576) :
    Calls Try.prog 15 #[cv] w fun e w' => ∃ (a b : Tx5), e = .returned (.tuple #[txV a, txV b]) ∧ SmT a ∧ SmT b ∧ Below w.heap.size w w' := by
  obtain ⟨wa, hwa⟩ : ∃ wa, (w.alloc (.cells #[.int .i64 0, .string { data := #[] }, .string { data := #[] }, .int .i64 0, .int .i64 0] 25)).alloc (.cells #[.int .i64 0, .string { data := #[] }, .string { data := #[] }, .int .i64 0, .int .i64 0] 25) = wa := ⟨_, rfl⟩
  have hba : Below w.heap.size w wa := by rw [← hwa]; exact ((Below.refl _ w).alloc (Nat.le_refl _) _).alloc (by simp) _
  have hsa : wa.heap.size = w.heap.size + 2 := by rw [← hwa]; simp
  have Ua : Hid (Blk wa w.heap.size 25 [.int .i64 0, .string { data := #[] }, .string { data := #[] }, .int .i64 0, .int .i64 0]) := hide (by rw [← hwa]; exact (Blk.new w _ _).below ((Below.refl (w.heap.size + 1) _).alloc (by simp) _) (by omega))
  have Va : Hid (Blk wa (w.heap.size + 1) 25 [.int .i64 0, .string { data := #[] }, .string { data := #[] }, .int .i64 0, .int .i64 0]) := hide (by rw [← hwa, show w.heap.size + 1 = (w.alloc (.cells #[.int .i64 0, .string { data := #[] }, .string { data := #[] }, .int .i64 0, .int .i64 0] 25)).heap.size by simp]; exact Blk.new _ _ _)
  have Hn := hide (l1New_any wa cv code (hr.below hba (Nat.le_refl _)) hl)
  clear hr
  go_enter Try.func15, Try.ntmps15
  go_wp2_with fail
  refine Hn.out.mono ?_
  rintro e w1 ⟨rfl, hc1, hb1⟩
  rw [hsa] at hc1
  have hgl := hc1.lt
  have hs1 := hb1.size
  have hB1 : Below w.heap.size w w1 := hba.trans (hb1.mono (by omega))
  have U1 := hide (Ua.out.below hb1 (by omega))
  have V1 := hide (Va.out.below hb1 (by omega))
  have HB1 := hide hB1
  clear Ua Va hb1 hba hB1 Hn hwa
  go_wp2_with fail
  refine (l5Tx_any _ _ _ _ _ hc1 hl).mono ?_
  rintro e w2 ⟨⟨k, f, to, am, no⟩, rfl, hsm, hc2, hg2⟩
  have hs2 := hg2.size
  obtain ⟨w3, hw3⟩ : ∃ w3, w2.alloc (.cells #[.int .i64 k, .string f, .string to, .int .i64 am, .int .i64 no] 25) = w3 := ⟨_, rfl⟩
  have hb3 : Below w2.heap.size w2 w3 := by rw [← hw3]; exact (Below.refl _ w2).alloc (Nat.le_refl _) _
  have hs3 : w3.heap.size = w2.heap.size + 1 := by rw [← hw3]; simp
  have A3 : Hid (Blk w3 w2.heap.size 25 [.int .i64 k, .string f, .string to, .int .i64 am, .int .i64 no]) := hide (by rw [← hw3]; exact Blk.new w2 _ _)
  have U3 := hide ((blk_notg5 U1.out hg2 (by omega)).below hb3 (by omega))
  have V3 := hide ((blk_notg5 V1.out hg2 (by omega)).below hb3 (by omega))
  have Hc3 := hide (hc2.below hb3 hc2.lt)
  have HB3 := hide ((HB1.out.grown hg2 (by omega) (fun k hk => by cases hk; omega)).trans (hb3.mono (by omega)))
  have HS := hide hsm
  clear hc1 hc2 hg2 hb3 U1 V1 HB1 hsm
  simp only [txV]
  go_wp2_with fail
  refine (l1Once_any _ _ _ _ _ _ Hc3.out hl (by omega) (by omega)).mono ?_
  rintro e w4 ⟨b1, rfl, hc4, hg4⟩
  have hs4 := hg4.size
  have A4 := hide (blk_notg5 A3.out hg4 (by omega))
  have U4 := hide (blk_notg5 U3.out hg4 (by omega))
  have V4 := hide (blk_notg5 V3.out hg4 (by omega))
  have Hc4 := hide hc4
  have HB4 := hide (HB3.out.grown hg4 (by omega) (fun k hk => by cases hk; omega))
  clear hc4 hg4 A3 U3 V3 Hc3 HB3
  cases b1
  · go_wp2_with fail
    refine (l5Tx_any _ _ _ _ _ Hc4.out hl).mono ?_
    rintro e w5 ⟨⟨k2, f2, to2, am2, no2⟩, rfl, hsm2, hc5, hg5⟩
    have hs5 := hg5.size
    obtain ⟨w6, hw6⟩ : ∃ w6, w5.alloc (.cells #[.int .i64 k2, .string f2, .string to2, .int .i64 am2, .int .i64 no2] 25) = w6 := ⟨_, rfl⟩
    have hb6 : Below w5.heap.size w5 w6 := by rw [← hw6]; exact (Below.refl _ w5).alloc (Nat.le_refl _) _
    have hs6 : w6.heap.size = w5.heap.size + 1 := by rw [← hw6]; simp
    have B6 : Hid (Blk w6 w5.heap.size 25 [.int .i64 k2, .string f2, .string to2, .int .i64 am2, .int .i64 no2]) := hide (by rw [← hw6]; exact Blk.new w5 _ _)
    have A6 := hide ((blk_notg5 A4.out hg5 (by omega)).below hb6 (by omega))
    have U6 := hide ((blk_notg5 U4.out hg5 (by omega)).below hb6 (by omega))
    have V6 := hide ((blk_notg5 V4.out hg5 (by omega)).below hb6 (by omega))
    have Hc6 := hide (hc5.below hb6 hc5.lt)
    have HB6 := hide ((HB4.out.grown hg5 (by omega) (fun k hk => by cases hk; omega)).trans (hb6.mono (by omega)))
    have HS2 := hide hsm2
    clear hc5 hg5 hb6 A4 U4 V4 HB4 Hc4 hsm2
    simp only [txV]
    go_wp2_with fail
    refine (l1Once_any _ _ _ _ _ _ Hc6.out hl (by omega) (by omega)).mono ?_
    rintro e w7 ⟨b2, rfl, hc7, hg7⟩
    have hs7 := hg7.size
    have hb7 := blk_notg5 B6.out hg7 (by omega)
    have ha7 := blk_notg5 A6.out hg7 (by omega)
    have hu7 := blk_notg5 U6.out hg7 (by omega)
    have hv7 := blk_notg5 V6.out hg7 (by omega)
    have HB7 := hide (HB6.out.grown hg7 (by omega) (fun k hk => by cases hk; omega))
    clear hc7 hg7 A6 B6 U6 V6 Hc6 HB6
    have r0 := hu7.cell 0
    have fr0 := hu7.frozen 0
    have r1 := hu7.cell 1
    have fr1 := hu7.frozen 1
    have r2 := hu7.cell 2
    have fr2 := hu7.frozen 2
    have r3 := hu7.cell 3
    have fr3 := hu7.frozen 3
    have r4 := hu7.cell 4
    have fr4 := hu7.frozen 4
    have q0 := hv7.cell 0
    have fq0 := hv7.frozen 0
    have q1 := hv7.cell 1
    have fq1 := hv7.frozen 1
    have q2 := hv7.cell 2
    have fq2 := hv7.frozen 2
    have q3 := hv7.cell 3
    have fq3 := hv7.frozen 3
    have q4 := hv7.cell 4
    have fq4 := hv7.frozen 4
    have t0 := ha7.cell 0
    have ft0 := ha7.frozen 0
    have t1 := ha7.cell 1
    have ft1 := ha7.frozen 1
    have t2 := ha7.cell 2
    have ft2 := ha7.frozen 2
    have t3 := ha7.cell 3
    have ft3 := ha7.frozen 3
    have t4 := ha7.cell 4
    have ft4 := ha7.frozen 4
    have s0 := hb7.cell 0
    have fs0 := hb7.frozen 0
    have s1 := hb7.cell 1
    have fs1 := hb7.frozen 1
    have s2 := hb7.cell 2
    have fs2 := hb7.frozen 2
    have s3 := hb7.cell 3
    have fs3 := hb7.frozen 3
    have s4 := hb7.cell 4
    have fs4 := hb7.frozen 4
    simp only [List.getElem?_cons_zero, List.getElem?_cons_succ] at r0 r1 r2 r3 r4 q0 q1 q2 q3 q4 t0 t1 t2 t3 t4 s0 s1 s2 s3 s4
    cases b2
    · go_wp2
      go_region
      go_wp2
      refine bodyPost_ret (v := .tuple #[txV (k, f, to, am, no), txV (k2, f2, to2, am2, no2)]) (by simp [results, Try.f15, go_sem, txV, r0, r1, r2, r3, r4, q0, q1, q2, q3, q4]) rfl ?_
      have hb1 := below_put5 w7 w.heap.size (.int .i64 k) (.string f) (.string to) (.int .i64 am) (.int .i64 no)
      have hb2 := below_put5 (((((w7.setCell ⟨w.heap.size, 0, none⟩ (.int .i64 k)).setCell ⟨w.heap.size, 1, none⟩ (.string f)).setCell ⟨w.heap.size, 2, none⟩ (.string to)).setCell ⟨w.heap.size, 3, none⟩ (.int .i64 am)).setCell ⟨w.heap.size, 4, none⟩ (.int .i64 no)) (w.heap.size + 1) (.int .i64 k2) (.string f2) (.string to2) (.int .i64 am2) (.int .i64 no2)
      exact ⟨(k, f, to, am, no), (k2, f2, to2, am2, no2), rfl, HS.out, HS2.out, (HB7.out.trans (hb1.trans (hb2.mono (Nat.le_succ _)))).drew⟩
    · go_wp2
      go_region
      have hsm1 := HS.out
      have hsm2 := HS2.out
      have hsm3 : SmT (k2, f, to2, am2, no) := by
        unfold SmT at hsm1 hsm2 ⊢
        simp only at hsm1 hsm2 ⊢
        omega
      have hB8 : Below w.heap.size w ((w7.setCell ⟨w5.heap.size, 1, none⟩ (.string f)).setCell ⟨w5.heap.size, 4, none⟩ (.int .i64 no)) := (HB7.out.setCell (p := ⟨w5.heap.size, 1, none⟩) (show w.heap.size ≤ w5.heap.size by omega) _).setCell (p := ⟨w5.heap.size, 4, none⟩) (show w.heap.size ≤ w5.heap.size by omega) _
      go_wp2
      refine bodyPost_ret (v := .tuple #[txV (k, f, to, am, no), txV (k2, f, to2, am2, no)]) (by simp [results, Try.f15, go_sem, txV, r0, r1, r2, r3, r4, q0, q1, q2, q3, q4]) rfl ?_
      have hb1 := below_put5 ((w7.setCell ⟨w5.heap.size, 1, none⟩ (.string f)).setCell ⟨w5.heap.size, 4, none⟩ (.int .i64 no)) w.heap.size (.int .i64 k) (.string f) (.string to) (.int .i64 am) (.int .i64 no)
      have hb2 := below_put5 (((((((w7.setCell ⟨w5.heap.size, 1, none⟩ (.string f)).setCell ⟨w5.heap.size, 4, none⟩ (.int .i64 no)).setCell ⟨w.heap.size, 0, none⟩ (.int .i64 k)).setCell ⟨w.heap.size, 1, none⟩ (.string f)).setCell ⟨w.heap.size, 2, none⟩ (.string to)).setCell ⟨w.heap.size, 3, none⟩ (.int .i64 am)).setCell ⟨w.heap.size, 4, none⟩ (.int .i64 no)) (w.heap.size + 1) (.int .i64 k2) (.string f) (.string to2) (.int .i64 am2) (.int .i64 no)
      exact ⟨(k, f, to, am, no), (k2, f, to2, am2, no), rfl, HS.out, hsm3, (hB8.trans (hb1.trans (hb2.mono (Nat.le_succ _)))).drew⟩
  · have hu7 := U4.out
    have hv7 := V4.out
    have ha7 := A4.out
    have r0 := hu7.cell 0
    have fr0 := hu7.frozen 0
    have r1 := hu7.cell 1
    have fr1 := hu7.frozen 1
    have r2 := hu7.cell 2
    have fr2 := hu7.frozen 2
    have r3 := hu7.cell 3
    have fr3 := hu7.frozen 3
    have r4 := hu7.cell 4
    have fr4 := hu7.frozen 4
    have q0 := hv7.cell 0
    have fq0 := hv7.frozen 0
    have q1 := hv7.cell 1
    have fq1 := hv7.frozen 1
    have q2 := hv7.cell 2
    have fq2 := hv7.frozen 2
    have q3 := hv7.cell 3
    have fq3 := hv7.frozen 3
    have q4 := hv7.cell 4
    have fq4 := hv7.frozen 4
    have t0 := ha7.cell 0
    have ft0 := ha7.frozen 0
    have t1 := ha7.cell 1
    have ft1 := ha7.frozen 1
    have t2 := ha7.cell 2
    have ft2 := ha7.frozen 2
    have t3 := ha7.cell 3
    have ft3 := ha7.frozen 3
    have t4 := ha7.cell 4
    have ft4 := ha7.frozen 4
    simp only [List.getElem?_cons_zero, List.getElem?_cons_succ] at r0 r1 r2 r3 r4 q0 q1 q2 q3 q4 t0 t1 t2 t3 t4
    go_wp2
    go_region
    go_wp2
    refine bodyPost_ret (v := .tuple #[txV (k, f, to, am, no), txV (k, f, to, am, no)]) (by simp [results, Try.f15, go_sem, txV, r0, r1, r2, r3, r4, q0, q1, q2, q3, q4]) rfl ?_
    have hb1 := below_put5 w4 w.heap.size (.int .i64 k) (.string f) (.string to) (.int .i64 am) (.int .i64 no)
    have hb2 := below_put5 (((((w4.setCell ⟨w.heap.size, 0, none⟩ (.int .i64 k)).setCell ⟨w.heap.size, 1, none⟩ (.string f)).setCell ⟨w.heap.size, 2, none⟩ (.string to)).setCell ⟨w.heap.size, 3, none⟩ (.int .i64 am)).setCell ⟨w.heap.size, 4, none⟩ (.int .i64 no)) (w.heap.size + 1) (.int .i64 k) (.string f) (.string to) (.int .i64 am) (.int .i64 no)
    exact ⟨(k, f, to, am, no), (k, f, to, am, no), rfl, HS.out, HS.out, (HB4.out.trans (hb1.trans (hb2.mono (Nat.le_succ _)))).drew⟩
end Go.Proofs.Ytmofbnmklldngaa
