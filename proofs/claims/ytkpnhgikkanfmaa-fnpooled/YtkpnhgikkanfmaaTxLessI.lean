/- The landed code's order of orders. -/
import Derived.Test.YtkpnhgikkanfmaaTxCmp
import Derived.Test.YtkpnhgikkanfmaaFlat
import Derived.Deep.RegionHeldLaw
namespace Go.Proofs.Ytkpnhgikkanfmaa
open Go.RowKit
set_option linter.unusedVariables false

theorem cells_five {w : World} {g : Nat} {a b c d e : Int} (h0 : w.cell? ⟨g, 0, none⟩ = some (.int .i64 a)) (h1 : w.cell? ⟨g, 1, none⟩ = some (.int .i64 b)) (h2 : w.cell? ⟨g, 2, none⟩ = some (.int .i64 c)) (h3 : w.cell? ⟨g, 3, none⟩ = some (.int .i64 d)) (h4 : w.cell? ⟨g, 4, none⟩ = some (.int .i64 e)) :
    ∀ i (h : i < [a, b, c, d, e].length), w.cell? ⟨g, 0 + i, none⟩ = some (.int .i64 [a, b, c, d, e][i]) := by
  intro i hi
  simp only [List.length_cons, List.length_nil] at hi
  rcases (show i = 0 ∨ i = 1 ∨ i = 2 ∨ i = 3 ∨ i = 4 from by omega) with rfl | rfl | rfl | rfl | rfl
  · exact h0
  · exact h1
  · exact h2
  · exact h3
  · exact h4
theorem cell_new5 (w : World) (cs : Array Value) (j : Nat) {t : TypeId} {v : Value} (h : cs[j]? = some v) : (w.alloc (.cells cs t)).drew.cell? ⟨w.heap.size, j, none⟩ = some v := by
  show (w.alloc (.cells cs t)).cell? ⟨w.heap.size, j, none⟩ = some v
  rw [World.cell?_alloc_at _ _ _ _ rfl]; exact h
theorem keep10 {W W' : World} {n : Nat} {c0 c1 c2 c3 c4 c5 c6 c7 c8 c9 : Value} (h : W.cell? ⟨n, 0, none⟩ = some c0 ∧ W.cell? ⟨n, 1, none⟩ = some c1 ∧ W.cell? ⟨n, 2, none⟩ = some c2 ∧ W.cell? ⟨n, 3, none⟩ = some c3 ∧ W.cell? ⟨n, 4, none⟩ = some c4 ∧ W.cell? ⟨n + 1, 0, none⟩ = some c5 ∧ W.cell? ⟨n + 1, 1, none⟩ = some c6 ∧ W.cell? ⟨n + 1, 2, none⟩ = some c7 ∧ W.cell? ⟨n + 1, 3, none⟩ = some c8 ∧ W.cell? ⟨n + 1, 4, none⟩ = some c9) (hb : Below (n + 2) W W') :
    W'.cell? ⟨n, 0, none⟩ = some c0 ∧ W'.cell? ⟨n, 1, none⟩ = some c1 ∧ W'.cell? ⟨n, 2, none⟩ = some c2 ∧ W'.cell? ⟨n, 3, none⟩ = some c3 ∧ W'.cell? ⟨n, 4, none⟩ = some c4 ∧ W'.cell? ⟨n + 1, 0, none⟩ = some c5 ∧ W'.cell? ⟨n + 1, 1, none⟩ = some c6 ∧ W'.cell? ⟨n + 1, 2, none⟩ = some c7 ∧ W'.cell? ⟨n + 1, 3, none⟩ = some c8 ∧ W'.cell? ⟨n + 1, 4, none⟩ = some c9 := by
  obtain ⟨h0, h1, h2, h3, h4, h5, h6, h7, h8, h9⟩ := h
  exact ⟨(hb.cell (p := ⟨n, 0, none⟩) (by show n < n + 2; omega)).trans h0, (hb.cell (p := ⟨n, 1, none⟩) (by show n < n + 2; omega)).trans h1, (hb.cell (p := ⟨n, 2, none⟩) (by show n < n + 2; omega)).trans h2, (hb.cell (p := ⟨n, 3, none⟩) (by show n < n + 2; omega)).trans h3, (hb.cell (p := ⟨n, 4, none⟩) (by show n < n + 2; omega)).trans h4, (hb.cell (p := ⟨n + 1, 0, none⟩) (by show n + 1 < n + 2; omega)).trans h5, (hb.cell (p := ⟨n + 1, 1, none⟩) (by show n + 1 < n + 2; omega)).trans h6, (hb.cell (p := ⟨n + 1, 2, none⟩) (by show n + 1 < n + 2; omega)).trans h7, (hb.cell (p := ⟨n + 1, 3, none⟩) (by show n + 1 < n + 2; omega)).trans h8, (hb.cell (p := ⟨n + 1, 4, none⟩) (by show n + 1 < n + 2; omega)).trans h9⟩
theorem or_five (w : World) (g : Nat) (a b c d e : Int) (t : TypeId) (hg : g = w.heap.size) :
    Calls Try.prog 98 #[.slice (some ⟨g, 0, none⟩) 5 5] (w.alloc (.cells #[.int .i64 a, .int .i64 b, .int .i64 c, .int .i64 d, .int .i64 e] t)).drew fun e' w' => e' = .returned (.int .i64 (orL [a, b, c, d, e])) ∧ w' = (w.alloc (.cells #[.int .i64 a, .int .i64 b, .int .i64 c, .int .i64 d, .int .i64 e] t)).drew := by
  subst hg
  exact orI_any [a, b, c, d, e] w.heap.size 0 5 _ (cells_five (cell_new5 w _ 0 rfl) (cell_new5 w _ 1 rfl) (cell_new5 w _ 2 rfl) (cell_new5 w _ 3 rfl) (cell_new5 w _ 4 rfl)) (by simp)
set_option maxRecDepth 20000 in
set_option maxHeartbeats 4000000 in
theorem implTxLess_any (a b : Tx5) (w : World) : Calls Try.prog 45 #[txV a, txV b] w fun e w' => e = .returned (.bool (lessT a b)) ∧ Below w.heap.size w w' := by
  obtain ⟨k1, f1, t1, m1, n1⟩ := a
  obtain ⟨k2, f2, t2, m2, n2⟩ := b
  simp only [txV]
  have Hl := hide (lessT_or k1 k2 m1 m2 n1 n2 f1 f2 t1 t2)
  generalize lessT (k1, f1, t1, m1, n1) (k2, f2, t2, m2, n2) = X at Hl
  obtain ⟨w0, hw0⟩ : ∃ w0, (w.alloc (.cells #[.int .i64 k1, .string f1, .string t1, .int .i64 m1, .int .i64 n1] 34)).alloc (.cells #[.int .i64 k2, .string f2, .string t2, .int .i64 m2, .int .i64 n2] 34) = w0 := ⟨_, rfl⟩
  have HB : Hid (Below w.heap.size w w0) := hide (by rw [← hw0]; exact ((Below.refl _ w).alloc (Nat.le_refl _) _).alloc (by simp) _)
  have hs0 : w0.heap.size = w.heap.size + 2 := by rw [← hw0]; simp
  have hS0 : w0.drew.cell? ⟨w.heap.size, 0, none⟩ = some (.int .i64 k1) ∧ w0.drew.cell? ⟨w.heap.size, 1, none⟩ = some (.string f1) ∧ w0.drew.cell? ⟨w.heap.size, 2, none⟩ = some (.string t1) ∧ w0.drew.cell? ⟨w.heap.size, 3, none⟩ = some (.int .i64 m1) ∧ w0.drew.cell? ⟨w.heap.size, 4, none⟩ = some (.int .i64 n1) ∧
      w0.drew.cell? ⟨w.heap.size + 1, 0, none⟩ = some (.int .i64 k2) ∧ w0.drew.cell? ⟨w.heap.size + 1, 1, none⟩ = some (.string f2) ∧ w0.drew.cell? ⟨w.heap.size + 1, 2, none⟩ = some (.string t2) ∧ w0.drew.cell? ⟨w.heap.size + 1, 3, none⟩ = some (.int .i64 m2) ∧ w0.drew.cell? ⟨w.heap.size + 1, 4, none⟩ = some (.int .i64 n2) := by
    have K1 : Blk w0 w.heap.size 34 [.int .i64 k1, .string f1, .string t1, .int .i64 m1, .int .i64 n1] := by
      rw [← hw0]
      exact (Blk.new w 34 _).below ((Below.refl (w.heap.size + 1) _).alloc (by simp) _) (by omega)
    have K2 : Blk w0 (w.heap.size + 1) 34 [.int .i64 k2, .string f2, .string t2, .int .i64 m2, .int .i64 n2] := by
      rw [← hw0]
      have h := Blk.new (w.alloc (.cells #[.int .i64 k1, .string f1, .string t1, .int .i64 m1, .int .i64 n1] 34)) 34 [.int .i64 k2, .string f2, .string t2, .int .i64 m2, .int .i64 n2]
      rw [World.size_alloc] at h
      exact h
    exact ⟨K1.cell 0, K1.cell 1, K1.cell 2, K1.cell 3, K1.cell 4, K2.cell 0, K2.cell 1, K2.cell 2, K2.cell 3, K2.cell 4⟩
  have hs2 : w.heap.size + 2 ≤ w0.drew.heap.size := by show _ ≤ w0.heap.size; omega
  go_enter Try.func45, Try.ntmps45
  go_wp2
  go_region_held_law (fun w' => w'.cell? ⟨w.heap.size, 0, none⟩ = some (.int .i64 k1) ∧ w'.cell? ⟨w.heap.size, 1, none⟩ = some (.string f1) ∧ w'.cell? ⟨w.heap.size, 2, none⟩ = some (.string t1) ∧ w'.cell? ⟨w.heap.size, 3, none⟩ = some (.int .i64 m1) ∧ w'.cell? ⟨w.heap.size, 4, none⟩ = some (.int .i64 n1) ∧
      w'.cell? ⟨w.heap.size + 1, 0, none⟩ = some (.int .i64 k2) ∧ w'.cell? ⟨w.heap.size + 1, 1, none⟩ = some (.string f2) ∧ w'.cell? ⟨w.heap.size + 1, 2, none⟩ = some (.string t2) ∧ w'.cell? ⟨w.heap.size + 1, 3, none⟩ = some (.int .i64 m2) ∧ w'.cell? ⟨w.heap.size + 1, 4, none⟩ = some (.int .i64 n2)) (first | exact hS0 | exact keep10 hS0 (((Below.refl (w.heap.size + 2) w0.drew).alloc hs2 _))) (first
    | (go_at_call 99; refine (cmpS_any _ _ _).mono ?_; rintro e w1 ⟨rfl, rfl⟩)
    | (go_at_call 100; refine (cmpI_any _ _ _).mono ?_; rintro e w1 ⟨rfl, rfl⟩)
    | (go_at_call 98; refine (or_five _ _ _ _ _ _ _ _ hs0.symm).mono ?_; rintro e w1 ⟨rfl, rfl⟩))
  go_wp2
  go_ret
  exact ⟨ret_bool Hl.out.symm, (HB.out.alloc (by omega) _).drew⟩
end Go.Proofs.Ytkpnhgikkanfmaa
