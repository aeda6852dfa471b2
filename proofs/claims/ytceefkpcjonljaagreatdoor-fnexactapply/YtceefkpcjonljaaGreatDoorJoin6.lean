/- A ledger that came in, opened: what it reads as. Orders by value: made, held against another, their size; what is right, which is less (plain). -/
import Derived.Test.YtceefkpcjonljaaGreatDoorJoin3
import Derived.Test.YtceefkpcjonljaaGreatDoorJoin5
import Derived.Test.YtceefkpcjonljaaGreatDoorJoin2
import Derived.Test.YtceefkpcjonljaaGreatDoorJoin4
namespace Go.Proofs.YtceefkpcjonljaaGreatDoor
open Go.RowKit Go.ChangeShapes Go.WideShapes
set_option linter.unusedVariables false

section
variable {H : Type} {enc : TypeId × Value → H} {w : World} {base : Nat} {spare : Nat → Bool} {held : Bool}

set_option maxRecDepth 20000 in
theorem open_ledger {fuel : Nat} {cs : List Value} {x : DataW H × List MemPlace} (h : DataW.trod enc Tryz.prog w base spare held fuel 24 cs = some x) :
    ∃ (e : Int) (v : Value) (l : List Ac), cs = [.int .i64 e, v] ∧ RdA w v l ∧ l.length ≤ maxLen ∧ ∀ q ∈ l, q.1.size ≤ maxLen ∧ q.2.2.2.2.length ≤ maxLen := by
  obtain ⟨xs, n, _, _, hlen, hxl, hf⟩ := DataW.trod_struct Tryz.underlying24 h
  have h5 : cs.length = 2 := hlen.trans (by kernel_rfl)
  have hx5 : xs.length = 2 := hxl
  match cs, h5, xs, hx5 with
  | [c0, c1], _, [y0, y1], _ =>
    have ki : Tryz.prog.cellsOf 3 = 1 := by kernel_rfl
    have kl : Tryz.prog.cellsOf 22 = 1 := by kernel_rfl
    have g0 : DataW.trod enc Tryz.prog w base spare held n 3 [c0] = some y0 := by
      have e := hf 0 _ rfl
      change DataW.trod enc Tryz.prog w base spare held n 3 (List.take (Tryz.prog.cellsOf 3) [c0, c1]) = some y0 at e
      rw [ki] at e
      exact e
    have g1 : DataW.trod enc Tryz.prog w base spare held n 22 [c1] = some y1 := by
      have e := hf 1 _ rfl
      change DataW.trod enc Tryz.prog w base spare held n 22 (List.take (Tryz.prog.cellsOf 22) [c1]) = some y1 at e
      rw [kl] at e
      exact e
    obtain ⟨z0, e0, _⟩ := DataW.trod_int Tryz.underlying3 g0
    have hsl : ∃ a len cap, c1 = .slice a len cap := by
      rcases Deep.open_slice Tryz.underlying22 g1 with ⟨hcs, _⟩ | ⟨ad, len', cap', m, n', D, Pl, hcs, _⟩
      · simp only [List.cons.injEq, and_true] at hcs; exact ⟨_, _, _, hcs⟩
      · simp only [List.cons.injEq, and_true] at hcs; exact ⟨_, _, _, hcs⟩
    obtain ⟨a, len, cap, rfl⟩ := hsl
    obtain ⟨l, rfl, hr, hl, hq⟩ := open_accS g1
    simp only [List.cons.injEq, and_true] at e0
    subst e0
    exact ⟨z0, _, l, rfl, hr, hl, hq⟩
end
end Go.Proofs.YtceefkpcjonljaaGreatDoor

namespace Go.Proofs.YtceefkpcjonljaaGreatDoor
open Go.RowKit
set_option linter.unusedVariables false

/-- An order: its kind, from whom, to whom, how much, which one. -/
abbrev Tx5 := Int × ByteArray × ByteArray × Int × Int
def txV (t : Tx5) : Value := .agg #[.int .i64 t.1, .string t.2.1, .string t.2.2.1, .int .i64 t.2.2.2.1, .int .i64 t.2.2.2.2]
/-- Whether it is right. -/
def txB (t : Tx5) : Bool := nmB t.2.1 && (inB t.2.2.2.1 1 1000000 && (inB t.2.2.2.2 0 10000 && (if t.1 = 1 then nmB t.2.2.1 else (inB t.1 2 3 && decide (t.2.2.1 = ByteArray.empty)))))
/-- Whether one is less than another. -/
def lessT (a b : Tx5) : Bool :=
  if a.2.1 ≠ b.2.1 then Op.bytesLess a.2.1.toList b.2.1.toList
  else if a.2.2.2.2 ≠ b.2.2.2.2 then decide (a.2.2.2.2 < b.2.2.2.2)
  else if a.1 ≠ b.1 then decide (a.1 < b.1)
  else if a.2.2.1 ≠ b.2.2.1 then Op.bytesLess a.2.2.1.toList b.2.2.1.toList
  else decide (a.2.2.2.1 < b.2.2.2.1)

set_option maxRecDepth 20000 in
theorem toTx_any (t : Tx5) (w : World) : Calls Tryz.prog 8 #[txV t] w fun e w' => e = .returned (txV t) ∧ Below w.heap.size w w' := by
  obtain ⟨k, f, to, am, no⟩ := t
  simp only [txV]
  go_enter Tryz.func8, Tryz.ntmps8
  go_wp2
  refine bodyPost_ret (v := .agg #[.int .i64 k, .string f, .string to, .int .i64 am, .int .i64 no]) (by simp [results, Tryz.f8, go_sem]) rfl ?_
  exact ⟨rfl, ((((Below.refl _ w).alloc (Nat.le_refl _) _).alloc (by simp) _).alloc (by simp; omega) _)⟩
/-- What is left of m behind an order (-1: it is less than nothing). -/
def szT (t : Tx5) (m : Int) : Int := if m - t.2.1.size < 0 then -1 else if m - t.2.1.size - t.2.2.1.size < 0 then -1 else m - t.2.1.size - t.2.2.1.size
theorem szT_ok (t : Tx5) (m : Int) (h : 0 ≤ szT t m) : szT t m = m - t.2.1.size - t.2.2.1.size := by
  unfold szT at h ⊢
  split at h
  · omega
  · split at h
    · omega
    · rename_i h1 h2; rw [if_neg h1, if_neg h2]
set_option maxRecDepth 20000 in
set_option maxHeartbeats 1000000 in
theorem szTx_any (t : Tx5) (m : Int) (w : World) (hm0 : 0 ≤ m) (hm : m ≤ 100000000) (hn : t.2.1.size ≤ 9223372036854775807) (hl : t.2.2.1.size ≤ 9223372036854775807) :
    Calls Tryz.prog 5 #[txV t, .int .i64 m] w fun e w' => e = .returned (.int .i64 (szT t m)) ∧ Below w.heap.size w w' := by
  obtain ⟨k1, f1, t1, m1, n1⟩ := t
  have HB := hide ((Below.refl _ w).alloc (Nat.le_refl _) (.cells #[.int .i64 k1, .string f1, .string t1, .int .i64 m1, .int .i64 n1] 26))
  simp only [txV] at *
  have w1 : IntKind.i64.wrap (m - (f1.size : Int)) = m - f1.size := by rw [IntKind.wrap_i64]; omega
  by_cases h1 : m - (f1.size : Int) < 0
  · have Hs : Hid (szT (k1, f1, t1, m1, n1) m = -1) := hide (by unfold szT; rw [if_pos h1])
    go_enter Tryz.func5, Tryz.ntmps5
    go_wp2
    go_ret
    exact ⟨ret_int Hs.out.symm, HB.out⟩
  · have w2 : IntKind.i64.wrap (m - (f1.size : Int) - (t1.size : Int)) = m - f1.size - t1.size := by rw [IntKind.wrap_i64]; omega
    by_cases h2 : m - (f1.size : Int) - (t1.size : Int) < 0
    · have Hs : Hid (szT (k1, f1, t1, m1, n1) m = -1) := hide (by unfold szT; rw [if_neg h1, if_pos h2])
      go_enter Tryz.func5, Tryz.ntmps5
      go_wp2
      go_ret
      exact ⟨ret_int Hs.out.symm, HB.out⟩
    · have Hs : Hid (szT (k1, f1, t1, m1, n1) m = m - f1.size - t1.size) := hide (by unfold szT; rw [if_neg h1, if_neg h2])
      go_enter Tryz.func5, Tryz.ntmps5
      go_wp2
      go_ret
      exact ⟨ret_int Hs.out.symm, HB.out⟩
end Go.Proofs.YtceefkpcjonljaaGreatDoor
