/- The laws' marks on texts are found again. Orders marked, with what they are then, and held against their marks. -/
import Derived.Test.YtljeklmopjkjjaaGreatZnAcMem
import Derived.Deep.RegionWith
import Derived.Test.YtljeklmopjkjjaaGreatZnVsOk
import Derived.Lib.QuietBelow
import Derived.BigQuiet
namespace Go.Proofs.YtljeklmopjkjjaaGreat
open Go.RowKit
set_option linter.unusedVariables false

end Go.Proofs.YtljeklmopjkjjaaGreat

namespace Go.Proofs.YtljeklmopjkjjaaGreat
open Go.RowKit Go.Sort
set_option linter.unusedVariables false

/-- Blocks outside of S are as they were. -/
structure Oth (S : Nat → Prop) (w w' : World) : Prop where
  os : w'.os = w.os
  tape : w'.tape = w.tape
  output : w'.output = w.output
  size : w.heap.size ≤ w'.heap.size
  block : ∀ k, k < w.heap.size → ¬ S k → w'.heap[k]? = w.heap[k]?
theorem Oth.of_below {S : Nat → Prop} {w w' : World} (h : Below w.heap.size w w') : Oth S w w' := ⟨h.os, h.tape, h.output, h.size, fun k hk _ => h.block k hk⟩
theorem Oth.trans {S : Nat → Prop} {a b c : World} (h : Oth S a b) (k : Oth S b c) : Oth S a c :=
  ⟨k.os.trans h.os, k.tape.trans h.tape, k.output.trans h.output, Nat.le_trans h.size k.size, fun i hi ho => (k.block i (Nat.lt_of_lt_of_le hi h.size) ho).trans (h.block i hi ho)⟩
theorem Oth.mono {S T : Nat → Prop} {a b : World} (h : Oth S a b) (hs : ∀ k, S k → T k) : Oth T a b := ⟨h.os, h.tape, h.output, h.size, fun k hk hn => h.block k hk (fun e => hn (hs k e))⟩
theorem Oth.of_grown {S : Nat → Prop} {w w' : World} {row : Option Nat} (h : w.grownBy w' row) (hr : ∀ k, row = some k → S k) : Oth S w w' :=
  ⟨h.os, h.tape, h.output, h.size, fun k hk ho => h.block k hk (fun e => ho (hr k e.symm))⟩
theorem Oth.refl (S : Nat → Prop) (w : World) : Oth S w w := ⟨rfl, rfl, rfl, Nat.le_refl _, fun _ _ _ => rfl⟩
theorem Oth.set {S : Nat → Prop} {w w' : World} (h : Oth S w w') {g : Nat} (h1 : S g) (j : Nat) (u : Value) : Oth S w (w'.setCell ⟨g, j, none⟩ u) :=
  h.trans (Oth.of_grown (grown_set w' g j u) (fun k e => by cases e; exact h1))
theorem Oth.below {S : Nat → Prop} {B : Nat} {w w' : World} (h : Oth S w w') (hB : ∀ k, S k → B ≤ k) (hs : B ≤ w.heap.size) : Below B w w' :=
  ⟨h.os, h.tape, h.output, h.size, fun k hk => h.block k (by omega) (fun e => by have := hB k e; omega)⟩
theorem row_oth {S : Nat → Prop} {base : Nat} {w w' : World} {e : TypeId} {size : Nat} {v : Value} {n : Nat} {xs : List Value} (h : w.ownsRow base e size v n xs) (hb : Oth S w w') (hn : ∀ k, v.ownBlock = some k → ¬ S k) : w'.ownsRow base e size v n xs := by
  refine ⟨h.1, ?_⟩
  rcases h.2 with h' | ⟨g, cap, cur, hv, hbb, hg, r⟩
  · exact .inl h'
  · refine .inr ⟨g, cap, cur, hv, hbb, ?_, r⟩
    have hlt : g < w.heap.size := (Array.getElem?_eq_some_iff.1 hg).1
    rw [hb.block g hlt (hn g (by rw [hv]; rfl))]
    exact hg
theorem row_step9 {base g n cap : Nat} {w : World} {T : TypeId} {Y : List Value} (h : w.ownsRow base T 5 (.slice (some ⟨g, 0, none⟩) n cap) n Y) (hY : Y.length = 5 * n) (i : Nat) (hi : i < 5 * n) :
    (∃ y, w.cell? ⟨g, i, none⟩ = some y) ∧ w.frozen? ⟨g, i, none⟩ = false ∧ ∀ u, (w.setCell ⟨g, i, none⟩ u).ownsRow base T 5 (.slice (some ⟨g, 0, none⟩) n cap) n (Y.set i u) :=
  ⟨⟨Y[i]'(by omega), by rw [h.cellAt i (by omega)]; exact List.getElem?_eq_getElem (by omega)⟩, h.frozenAt i, fun u => (h.stored i u).1⟩
/-- Marked orders: n of them, the marks beginning with k. -/
def mkT (k n : Nat) : List Tx5 := (List.range n).map (fun j => (((k + 5 * j : Nat) : Int), mtx (k + 5 * j + 1), mtx (k + 5 * j + 2), ((k + 5 * j + 3 : Nat) : Int), ((k + 5 * j + 4 : Nat) : Int)))
theorem mkT_len (k n : Nat) : (mkT k n).length = n := by simp [mkT]
theorem mkT_at (k n j : Nat) (h : j < (mkT k n).length) : (mkT k n)[j] = (((k + 5 * j : Nat) : Int), mtx (k + 5 * j + 1), mtx (k + 5 * j + 2), ((k + 5 * j + 3 : Nat) : Int), ((k + 5 * j + 4 : Nat) : Int)) := by simp [mkT]
theorem mixT {M l : List Tx5} {j : Nat} (hl : M.length = l.length) (hj : j < l.length) : ((M.take j ++ l.drop j).map txC).set j (txC (M[j]'(by omega))) = (M.take (j + 1) ++ l.drop (j + 1)).map txC := by
  rw [List.take_succ_eq_append_getElem (by omega), ← List.map_set]
  congr 1
  rw [List.set_append_right _ _ (by simp; omega), List.length_take, show min j M.length = j from by omega, Nat.sub_self, List.drop_eq_getElem_cons hj, List.set_cons_zero, List.append_assoc]
  rfl
theorem mixT_sz (M l : List Tx5) (j : Nat) : ∀ x ∈ (M.take j ++ l.drop j).map txC, x.length = 5 := fun x hx => by obtain ⟨p, _, rfl⟩ := List.mem_map.1 hx; rfl
end Go.Proofs.YtljeklmopjkjjaaGreat
