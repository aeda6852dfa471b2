/- Drawn names: the cursor once more (a chance, a list of names). -/
import Derived.Test.YtjgkoadffdcanaaZcDrawNew
import Derived.Test.YtjgkoadffdcanaaZcAppS
import Derived.Deep.RegionWith
namespace Go.Proofs.Ytjgkoadffdcanaa
open Go.RowKit
set_option linter.unusedVariables false

theorem Cur.drew {w0 w : World} {g : Nat} {cv : Value} {code : List UInt8} (hc : Cur w0 w g cv code) : Cur w0 w.drew g cv code := ⟨hc.rd, hc.bel.drew, hc.le, hc.blk⟩
theorem OwnB.notg {base : Nat} {w w' : World} {v : Value} {l : List UInt8} {g : Nat} (h : OwnB base w v l) (hg : w.grownBy w' (some g)) (hb : g < base) : OwnB base w' v l :=
  World.ownsRow.kept h hg (by right; intro e; have := (World.ownsRow.lt h g e).1; omega)
theorem OwnS.notg {base : Nat} {w w' : World} {v : Value} {l : List ByteArray} {g : Nat} (h : OwnS base w v l) (hg : w.grownBy w' (some g)) (hb : g < base) : OwnS base w' v l :=
  World.ownsRow.kept h hg (by right; intro e; have := (World.ownsRow.lt h g e).1; omega)


set_option maxRecDepth 20000 in
theorem l1Once_any (w0 w : World) (g : Nat) (cv : Value) (code : List UInt8) (n : Int) (hc : Cur w0 w g cv code) (hl : code.length ≤ 1048576) (h1 : -9223372036854775808 ≤ n) (h2 : n ≤ 9223372036854775807) :
    Calls Try.prog 21 #[.pointer (some ⟨g, 0, none⟩), .int .i64 n] w fun e w' => ∃ b : Bool, e = .returned (.bool b) ∧ Cur w0 w' g cv code ∧ w.grownBy w' (some g) := by
  go_enter Try.func21, Try.ntmps21
  go_wp2_with fail
  refine (l1Below_any _ _ _ _ _ _ hc hl h1 h2).mono ?_
  rintro e w1 ⟨x, rfl, hx1, _, hc1, hg1⟩
  clear hx1
  go_wp2
  go_ret
  exact ⟨_, rfl, hc1, hg1⟩

theorem rd_one_str' (w : World) (n : Nat) (s : ByteArray) (h : n = w.heap.size) : RdS (w.alloc (.cells #[.string s] 9)) (.slice (some ⟨n, 0, none⟩) 1 1) [s] := by
  subst h; exact rd_one_str w s

/-- The five texts from which names are drawn lie in a new block. -/
theorem five_at (w : World) (k : Nat) (h : k < 5) : ∃ s : ByteArray, s.size = 1 ∧ (w.alloc (.cells #[.string ⟨#[97]⟩, .string ⟨#[98]⟩, .string ⟨#[99]⟩, .string ⟨#[100]⟩, .string ⟨#[101]⟩] 9)).cell? ⟨w.heap.size, k, none⟩ = some (.string s) := by
  rw [World.cell?_alloc_at _ _ _ _ rfl]
  rcases (show k = 0 ∨ k = 1 ∨ k = 2 ∨ k = 3 ∨ k = 4 from by omega) with rfl | rfl | rfl | rfl | rfl
  · exact ⟨_, rfl, rfl⟩
  · exact ⟨_, rfl, rfl⟩
  · exact ⟨_, rfl, rfl⟩
  · exact ⟨_, rfl, rfl⟩
  · exact ⟨_, rfl, rfl⟩

end Go.Proofs.Ytjgkoadffdcanaa
