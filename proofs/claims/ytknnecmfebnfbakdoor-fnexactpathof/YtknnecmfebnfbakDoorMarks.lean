/- The laws' marks: bytes of the call's own are written over one by one, and found again; nothing else turns. -/
import Derived.Test.YtknnecmfebnfbakDoorMem
namespace Go.Proofs.YtknnecmfebnfbakDoor
open Go.RowKit
set_option linter.unusedVariables false

theorem OwnB.kept {base : Nat} {w w' : World} {v : Value} {l : List UInt8} {row : Option Nat} (h : OwnB base w v l) (hg : w.grownBy w' row) (hne : v.ownBlock = none ∨ v.ownBlock ≠ row) : OwnB base w' v l := World.ownsRow.kept h hg hne
theorem OwnB.ge {base : Nat} {w : World} {v : Value} {l : List UInt8} (h : OwnB base w v l) : ∀ k, v.ownBlock = some k → base ≤ k := fun k hk => (World.ownsRow.lt h k hk).1
theorem OwnB.lt {base : Nat} {w : World} {v : Value} {l : List UInt8} (h : OwnB base w v l) : ∀ k, v.ownBlock = some k → k < w.heap.size := fun k hk => (World.ownsRow.lt h k hk).2
theorem apart_of {a b : Option Nat} {X Y : Nat} (h1 : ∀ k, a = some k → k < X) (h2 : ∀ k, b = some k → Y ≤ k) (hXY : X ≤ Y) : a = none ∨ a ≠ b := by
  cases a with
  | none => exact .inl rfl
  | some i => right; intro e; have := h1 i rfl; have := h2 i e.symm; omega
theorem apart_of' {a b : Option Nat} {X Y : Nat} (h1 : ∀ k, a = some k → Y ≤ k) (h2 : ∀ k, b = some k → k < X) (hXY : X ≤ Y) : a = none ∨ a ≠ b := by
  cases a with
  | none => exact .inl rfl
  | some i => right; intro e; have := h1 i rfl; have := h2 i e.symm; omega

def markL (k n : Nat) : List UInt8 := (List.range n).map (fun i => UInt8.ofNat ((k + i) % 256))
theorem markL_len (k n : Nat) : (markL k n).length = n := by simp [markL]
theorem markL_at (k n j : Nat) (h : j < (markL k n).length) : (markL k n)[j] = UInt8.ofNat ((k + j) % 256) := by simp [markL]

theorem grown_trans {a b c : World} {row : Option Nat} (h : a.grownBy b row) (k : b.grownBy c row) : a.grownBy c row :=
  ⟨k.os.trans h.os, k.tape.trans h.tape, k.output.trans h.output, Nat.le_trans h.size k.size, fun i hi hr => (k.block i (Nat.lt_of_lt_of_le hi h.size) hr).trans (h.block i hi hr)⟩

theorem mark_set (M l : List UInt8) (j : Nat) (hM : M.length = l.length) (h : j < M.length) : ((M.take j ++ l.drop j).map cb).set j (cb M[j]) = (M.take (j + 1) ++ l.drop (j + 1)).map cb := by
  rw [List.take_succ_eq_append_getElem h, List.drop_eq_getElem_cons (show j < l.length from by omega)]
  simp only [List.map_append, List.map_cons, List.append_assoc, List.singleton_append]
  rw [List.set_append_right _ _ (by simp; omega)]
  simp [show min j M.length = j from by omega]

theorem byte_mod (k : Nat) : ((UInt8.ofNat (k % 256)).toNat : Int) = (k : Int) % 256 := by
  rw [UInt8.toNat_ofNat']; omega

end Go.Proofs.YtknnecmfebnfbakDoor
