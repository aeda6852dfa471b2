/- What the draws of chapter 5's laws answer. -/
import Derived.Test.YtimiimedjfdlmabDrawTx5
import Derived.RegionTactic
import Derived.ChangeAlike
namespace Go.Proofs.Ytimiimedjfdlmab
open Go.RowKit
set_option linter.unusedVariables false

theorem grown_put5 (W : World) (b : Nat) (y0 y1 y2 y3 y4 : Value) : W.grownBy (((((W.setCell ⟨b, 0, none⟩ y0).setCell ⟨b, 1, none⟩ y1).setCell ⟨b, 2, none⟩ y2).setCell ⟨b, 3, none⟩ y3).setCell ⟨b, 4, none⟩ y4) (some b) :=
  grw_trans (grw_trans (grw_trans (grw_trans (grown_set W b 0 y0) (grown_set _ b 1 y1)) (grown_set _ b 2 y2)) (grown_set _ b 3 y3)) (grown_set _ b 4 y4)
set_option maxRecDepth 20000 in
set_option maxHeartbeats 1000000 in
theorem drawPutTx_any (w : World) (cv : Value) (code : List UInt8) (hr : RdB w cv code) (hl : code.length ≤ 1048576) :
    Calls Try.prog 18 #[cv] w fun e w' => ∃ (v' : Value) (l' : List UInt8) (t : Tx5), e = .returned (.tuple #[v', txV t]) ∧ OwnB w.heap.size w' v' l' ∧ l'.length ≤ 9 ∧ SmT t ∧ Below w.heap.size w w' := by
  obtain ⟨wa, hwa⟩ : ∃ wa, w.alloc (.cells #[.int .i64 0, .string { data := #[] }, .string { data := #[] }, .int .i64 0, .int .i64 0] 41) = wa := ⟨_, rfl⟩
  have hba : Below w.heap.size w wa := by rw [← hwa]; exact (Below.refl _ w).alloc (Nat.le_refl _) _
  have hsa : wa.heap.size = w.heap.size + 1 := by rw [← hwa]; simp
  have Ka : Hid (Blk wa w.heap.size 41 [.int .i64 0, .string { data := #[] }, .string { data := #[] }, .int .i64 0, .int .i64 0]) := hide (by rw [← hwa]; exact Blk.new w _ _)
  have Hn := hide (l1New_any wa cv code (hr.below hba (Nat.le_refl _)) hl)
  clear hr
  go_enter Try.func18, Try.ntmps18
  go_wp2_with fail
  refine Hn.out.mono ?_
  rintro e w1 ⟨rfl, hc1, hb1⟩
  rw [hsa] at hc1
  have hgl := hc1.lt
  go_wp2_with fail
  refine (l1Some_any _ _ _ _ _ hc1 hl).mono ?_
  rintro e w2 ⟨v2, l2, rfl, ho2, hl2, hc2, hg2⟩
  have hs1 := hb1.size
  have hs2 := hg2.size
  go_wp2_with fail
  refine (l5Any_any _ _ _ _ _ hc2 hl).mono ?_
  rintro e w3 ⟨⟨k, f, to, am, no⟩, rfl, hsm, hc3, hg3⟩
  have ho3 := ho2.notg hg3 hgl
  have hk3 := blk_notg5 (blk_notg5 (Ka.out.below hb1 (by omega)) hg2 (by omega)) hg3 (by omega)
  have hB : Below w.heap.size w w3 := ((hba.trans (hb1.mono (by omega))).grown hg2 (by omega) (fun k hk => by cases hk; omega)).grown hg3 (by omega) (fun k hk => by cases hk; omega)
  have Ho := hide ho3
  have HB := hide hB
  have HS := hide hsm
  simp only [txV]
  have r0 := hk3.cell 0
  have fr0 := hk3.frozen 0
  have r1 := hk3.cell 1
  have fr1 := hk3.frozen 1
  have r2 := hk3.cell 2
  have fr2 := hk3.frozen 2
  have r3 := hk3.cell 3
  have fr3 := hk3.frozen 3
  have r4 := hk3.cell 4
  have fr4 := hk3.frozen 4
  simp only [List.getElem?_cons_zero, List.getElem?_cons_succ] at r0 r1 r2 r3 r4
  clear hsm ho3 ho2 hB hk3 hc2 hc3 hg2 hg3
  obtain ⟨a2, c2, rfl⟩ := Ho.out.rd.shape
  go_wp2
  refine bodyPost_ret (v := .tuple #[.slice a2 l2.length c2, txV (k, f, to, am, no)]) (by simp [results, Try.f18, go_sem, txV, r0, r1, r2, r3, r4]) rfl ?_
  exact ⟨_, l2, (k, f, to, am, no), rfl, (Ho.out.notg (grown_put5 w3 w.heap.size _ _ _ _ _) (by omega)).mono (by omega), hl2, HS.out, HB.out.trans (below_put5 w3 w.heap.size _ _ _ _ _)⟩
end Go.Proofs.Ytimiimedjfdlmab
