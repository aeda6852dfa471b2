/- The landed code's ledgers that are right, and copies of them. -/
import Derived.Test.YtljkmoffpgpeoaaLgSpec
import Derived.Test.YtljkmoffpgpeoaaAcImpl2
namespace Go.Proofs.Ytljkmoffpgpeoaa
open Go.RowKit
set_option linter.unusedVariables false

set_option maxRecDepth 20000 in
set_option maxHeartbeats 1000000 in
theorem implLedgerOk_any (e : Int) (v : Value) (l : List Ac) (w : World) (hr : RdA w v l) (hl : l.length ≤ 4000000) (hall : ∀ a ∈ l, a.1.size ≤ maxLen ∧ a.2.2.2.2.length ≤ 4000000) :
    Calls Try.prog 20 #[lgV e v] w fun en w' => en = .returned (.bool (lgB e l)) ∧ Below w.heap.size w w' := by
  obtain ⟨a1, cv1, rfl⟩ := hr.shape
  simp only [lgV] at *
  have hb3 : Below w.heap.size w (w.alloc (.cells #[.int .i64 e, .slice a1 l.length cv1] 28)) := (Below.refl _ w).alloc (Nat.le_refl _) _
  have HE := hide (implAcctsOk_any _ l _ (hr.below hb3 (Nat.le_refl _)) hl hall)
  have Hb3 := hide hb3
  have Hx : Hid (lgB e l = (inB e 0 900 && acsB l)) := hide rfl
  clear hb3 hr hall
  generalize lgB e l = X at Hx
  generalize acsB l = A at Hx HE
  cases h0 : inB e 0 900
  · rw [h0, Bool.false_and] at Hx
    go_enter Try.func20, Try.ntmps20
    go_wp2_with (go_at_call 60; refine (implWithin_any _ _ _ _).mono ?_; rintro en w1 ⟨rfl, rfl⟩)
    go_ret
    exact ⟨ret_bool Hx.out.symm, Hb3.out⟩
  · rw [h0, Bool.true_and] at Hx
    go_enter Try.func20, Try.ntmps20
    go_wp2_with (first
      | (go_at_call 60; refine (implWithin_any _ _ _ _).mono ?_; rintro en w1 ⟨rfl, rfl⟩)
      | (go_at_call 61; refine HE.out.mono ?_; rintro en w2 ⟨rfl, hb2⟩))
    go_ret
    exact ⟨ret_bool Hx.out.symm, Hb3.out.trans (hb2.mono Hb3.out.size)⟩
set_option maxRecDepth 20000 in
set_option maxHeartbeats 1000000 in
theorem implCopiedLg_any (e : Int) (v : Value) (l : List Ac) (w : World) (hr : RdA w v l) (hl : l.length ≤ 4000000) (hall : ∀ a ∈ l, a.2.2.2.2.length ≤ 4000000) :
    Calls Try.prog 22 #[lgV e v] w fun en w' => ∃ v', en = .returned (lgV e v') ∧ OwnA w.heap.size w' v' l ∧ Below w.heap.size w w' := by
  obtain ⟨a1, cv1, rfl⟩ := hr.shape
  simp only [lgV] at *
  obtain ⟨w2, hw2⟩ : ∃ w2, (w.alloc (.cells #[.int .i64 e, .slice a1 l.length cv1] 28)).alloc (.cells #[.int .i64 0, .slice none 0 0] 28) = w2 := ⟨_, rfl⟩
  have hb2 : Below w.heap.size w w2.drew := by rw [← hw2]; exact (((Below.refl _ w).alloc (Nat.le_refl _) _).alloc (by simp) _).drew
  have hs2 : w2.heap.size = w.heap.size + 2 := by rw [← hw2]; simp
  have kA : Blk w2 w.heap.size 28 [.int .i64 e, .slice a1 l.length cv1] := by
    rw [← hw2]
    exact (Blk.new w 28 [.int .i64 e, .slice a1 l.length cv1]).below ((Below.refl (w.heap.size + 1) _).alloc (by simp) _) (by omega)
  have kR : Blk w2 (w.heap.size + 1) 28 [.int .i64 0, .slice none 0 0] := by
    rw [← hw2]
    have h := Blk.new (w.alloc (.cells #[.int .i64 e, .slice a1 l.length cv1] 28)) 28 [.int .i64 0, .slice none 0 0]
    simp only [World.size_alloc] at h
    exact h
  have HC := hide (implCopiedS_any _ l w2.drew (hr.below hb2 (Nat.le_refl _)) hl hall)
  have hS2 : w2.drew.cell? ⟨w.heap.size, 0, none⟩ = some (.int .i64 e) ∧ w2.drew.cell? ⟨w.heap.size, 1, none⟩ = some (.slice a1 l.length cv1) := ⟨kA.cell 0, kA.cell 1⟩
  have Hb2 := hide hb2
  have KA : Hid (Blk w2.drew w.heap.size 28 [.int .i64 e, .slice a1 l.length cv1]) := hide kA
  have KR : Hid (Blk w2.drew (w.heap.size + 1) 28 [.int .i64 0, .slice none 0 0]) := hide kR
  have hs3 : w2.drew.heap.size = w.heap.size + 2 := hs2
  clear hr hb2 kA kR
  go_enter Try.func22, Try.ntmps22
  go_wp2
  go_region_held_law (fun w' => w'.cell? ⟨w.heap.size, 0, none⟩ = some (.int .i64 e) ∧ w'.cell? ⟨w.heap.size, 1, none⟩ = some (.slice a1 l.length cv1)) (first | exact hS2 | exact hS4 | exact keep2 hS4 (by omega)) ((go_at_call 63; refine HC.out.mono ?_; rintro en w4 ⟨v4, rfl, ho4, hb4⟩; have KA4 := KA.out.below hb4 (by omega); have KR4 := KR.out.below hb4 (by omega); have hS4 : w4.cell? ⟨w.heap.size, 0, none⟩ = some (.int .i64 e) ∧ w4.cell? ⟨w.heap.size, 1, none⟩ = some (.slice a1 l.length cv1) := ⟨KA4.cell 0, KA4.cell 1⟩; have r0 : w4.cell? ⟨w.heap.size + 1, 0, none⟩ = some (.int .i64 0) := KR4.cell 0; have r1 : w4.cell? ⟨w.heap.size + 1, 1, none⟩ = some (.slice none 0 0) := KR4.cell 1; have q0 := KR4.frozen 0; have q1 := KR4.frozen 1; have hsh := ho4.rd.shape; obtain ⟨a4, cv4, hv4⟩ := hsh; subst hv4))
  have Ho := hide (((ho4.older (g := w.heap.size + 1) (by omega) 0 (.int .i64 e)).older (g := w.heap.size + 1) (by omega) 1 (.slice a4 l.length cv4)).mono (show w.heap.size ≤ _ by omega))
  have HB := hide (((Hb2.out.trans (hb4.mono Hb2.out.size)).setCell (p := ⟨w.heap.size + 1, 0, none⟩) (show w.heap.size ≤ w.heap.size + 1 by omega) (.int .i64 e)).setCell (p := ⟨w.heap.size + 1, 1, none⟩) (show w.heap.size ≤ w.heap.size + 1 by omega) (.slice a4 l.length cv4))
  clear ho4 hb4 KA4
  go_wp2
  refine bodyPost_ret (v := .agg #[.int .i64 e, .slice a4 l.length cv4]) (by simp [results, Try.f22, go_sem, r0, r1]) rfl ?_
  exact ⟨_, rfl, Ho.out, HB.out⟩
end Go.Proofs.Ytljkmoffpgpeoaa
