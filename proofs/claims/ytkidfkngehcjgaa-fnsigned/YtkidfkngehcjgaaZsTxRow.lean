/- The laws' marks on texts: each is written over by a text of its own number; nothing else turns. Orders in memory: what a slice of them reads as, what a call owns of them, how they are made anew, held against each other, their size, their marks. -/
import Derived.Test.YtkidfkngehcjgaaZsStrs
import Derived.Laws.IdiomStrings
import Derived.Test.YtkidfkngehcjgaaZsTxVal
import Derived.Test.YtkidfkngehcjgaaZsCtVal
import Derived.Deep.RegionHeldLaw
import Derived.Deep.RegionLaw
namespace Go.Proofs.Ytkidfkngehcjgaa
open Go.RowKit
set_option linter.unusedVariables false

def dg : Nat → Nat → List UInt8 → List UInt8
  | 0, _, acc => acc
  | f + 1, k, acc => if k = 0 then acc else dg f (k / 10) (UInt8.ofNat (48 + k % 10) :: acc)
def mtx (k : Nat) : ByteArray := ⟨(109 :: dg k k []).toArray⟩

theorem dg_step (f k : Nat) (acc : List UInt8) (h : 0 < k) (hf : k ≤ f) : dg f k acc = dg (f - 1) (k / 10) (UInt8.ofNat (48 + k % 10) :: acc) := by
  cases f with
  | zero => omega
  | succ f => rw [dg, if_neg (by omega)]; rfl
theorem dg_zero (f : Nat) (acc : List UInt8) : dg f 0 acc = acc := by
  cases f with
  | zero => rfl
  | succ f => rw [dg, if_pos rfl]

theorem str_app (c : UInt8) (acc : List UInt8) : (⟨#[c]⟩ ++ ⟨acc.toArray⟩ : ByteArray) = ⟨(c :: acc).toArray⟩ := by
  apply ByteArray.ext
  simp

theorem byte_of' (m : Nat) (h : m < 256) : (m : Int) = ((UInt8.ofNat m).toNat : Int) := by
  rw [UInt8.toNat_ofNat']; omega

def mkS (k n : Nat) : List ByteArray := (List.range n).map (fun i => mtx (k + i))
theorem mkS_len (k n : Nat) : (mkS k n).length = n := by simp [mkS]
theorem mkS_at (k n j : Nat) (h : j < (mkS k n).length) : (mkS k n)[j] = mtx (k + j) := by simp [mkS]

theorem own_below {B base : Nat} {w w' : World} {e : TypeId} {size : Nat} {v : Value} {n : Nat} {xs : List Value} (h : w.ownsRow base e size v n xs) (hb : Below B w w') (hB : w.heap.size ≤ B) : w'.ownsRow base e size v n xs := by
  refine ⟨h.1, ?_⟩
  rcases h.2 with h' | ⟨g, cap, cur, hv, hbb, hg, r⟩
  · exact .inl h'
  · refine .inr ⟨g, cap, cur, hv, hbb, ?_, r⟩
    have hlt : g < w.heap.size := (Array.getElem?_eq_some_iff.1 hg).1
    rw [hb.block g (by omega)]; exact hg
theorem grown_below {w w' : World} (row : Option Nat) (h : Below w.heap.size w w') : w.grownBy w' row :=
  ⟨h.os, h.tape, h.output, h.size, fun k hk _ => h.block k hk⟩
theorem grownS_trans {a b c : World} {row : Option Nat} (h : a.grownBy b row) (k : b.grownBy c row) : a.grownBy c row :=
  ⟨k.os.trans h.os, k.tape.trans h.tape, k.output.trans h.output, Nat.le_trans h.size k.size, fun i hi hr => (k.block i (Nat.lt_of_lt_of_le hi h.size) hr).trans (h.block i hi hr)⟩

end Go.Proofs.Ytkidfkngehcjgaa

namespace Go.Proofs.Ytkidfkngehcjgaa
open Go.RowKit
set_option linter.unusedVariables false

/-- The order t lies in block b from place o on. -/
structure TxAt (w : World) (b o : Nat) (t : Tx5) : Prop where
  c0 : w.cell? ⟨b, o, none⟩ = some (.int .i64 t.1)
  c1 : w.cell? ⟨b, o + 1, none⟩ = some (.string t.2.1)
  c2 : w.cell? ⟨b, o + 2, none⟩ = some (.string t.2.2.1)
  c3 : w.cell? ⟨b, o + 3, none⟩ = some (.int .i64 t.2.2.2.1)
  c4 : w.cell? ⟨b, o + 4, none⟩ = some (.int .i64 t.2.2.2.2)
theorem TxAt.below {w w' : World} {B b o : Nat} {t : Tx5} (h : TxAt w b o t) (hb : Below B w w') (hB : b < B) : TxAt w' b o t :=
  ⟨(hb.cell (p := ⟨b, o, none⟩) hB).trans h.c0, (hb.cell (p := ⟨b, o + 1, none⟩) hB).trans h.c1, (hb.cell (p := ⟨b, o + 2, none⟩) hB).trans h.c2, (hb.cell (p := ⟨b, o + 3, none⟩) hB).trans h.c3, (hb.cell (p := ⟨b, o + 4, none⟩) hB).trans h.c4⟩
/-- The slice v reads as the orders l. -/
def RdT (w : World) (v : Value) (l : List Tx5) : Prop :=
  (∃ a cap, v = .slice a 0 cap ∧ l = [] ∧ (a = none → cap = 0)) ∨
  ∃ b off cap, l ≠ [] ∧ v = .slice (some ⟨b, off, none⟩) l.length cap ∧ l.length ≤ cap ∧ cap ≤ maxLen ∧ b < w.heap.size ∧ ∀ i (h : i < l.length), TxAt w b (off + i * 5) l[i]
theorem RdT.shape {w : World} {v : Value} {l : List Tx5} (h : RdT w v l) : ∃ a cap, v = .slice a l.length cap := by
  rcases h with ⟨a, cap, rfl, rfl, -⟩ | ⟨b, off, cap, h0, rfl, _⟩
  · exact ⟨a, cap, rfl⟩
  · exact ⟨_, cap, rfl⟩
theorem RdT.below {B : Nat} {w w' : World} {v : Value} {l : List Tx5} (h : RdT w v l) (hb : Below B w w') (hB : w.heap.size ≤ B) : RdT w' v l := by
  rcases h with h | ⟨b, off, cap, h0, hv, h1, h2, h3, h4⟩
  · exact .inl h
  · exact .inr ⟨b, off, cap, h0, hv, h1, h2, by have := hb.size; omega, fun i hi => (h4 i hi).below hb (by omega)⟩
def txC (t : Tx5) : List Value := [.int .i64 t.1, .string t.2.1, .string t.2.2.1, .int .i64 t.2.2.2.1, .int .i64 t.2.2.2.2]
def txZ : List Value := [.int .i64 0, .string { data := #[] }, .string { data := #[] }, .int .i64 0, .int .i64 0]
theorem txM_sz (l : List Tx5) : ∀ x ∈ l.map txC, x.length = 5 := fun x hx => by obtain ⟨p, _, rfl⟩ := List.mem_map.1 hx; rfl
theorem txP_sz (l : List Tx5) (k : Nat) : ∀ x ∈ part txC txZ l k, x.length = 5 := part_sz 5 _ _ _ _ (fun _ => rfl) rfl
/-- The slice v, of the call's own from block 'base' on, reads as the orders l. -/
def OwnT (base : Nat) (w : World) (v : Value) (l : List Tx5) : Prop := w.ownsRow base 78 5 v l.length (l.map txC).flatten
theorem OwnT.rd {base : Nat} {w : World} {v : Value} {l : List Tx5} (h : OwnT base w v l) : RdT w v l := by
  rcases h.2 with ⟨rfl, hn⟩ | ⟨g, cap, cur, rfl, hb, hg, hnc, hcm, hcs, ht⟩
  · have : l = [] := List.length_eq_zero_iff.1 hn
    subst this
    exact .inl ⟨_, _, rfl, rfl, fun _ => rfl⟩
  · by_cases hn : l = []
    · subst hn; exact .inl ⟨_, _, rfl, rfl, fun h => by cases h⟩
    · refine .inr ⟨g, 0, cap, hn, rfl, hnc, hcm, (Array.getElem?_eq_some_iff.1 hg).1, fun i hi => ?_⟩
      have cell : ∀ j, j < 5 → w.cell? ⟨g, 0 + i * 5 + j, none⟩ = (txC l[i])[j]? := fun j hj => by
        rw [Nat.zero_add, World.ownsRow.cellAt h (i * 5 + j) (by omega), flat_get 5 (l.map txC) i j (by simpa using hi) (txM_sz l) hj]
        simp
      exact ⟨by have := cell 0 (by omega); simpa [txC] using this, by have := cell 1 (by omega); simpa [txC] using this, by have := cell 2 (by omega); simpa [txC] using this, by have := cell 3 (by omega); simpa [txC] using this, by have := cell 4 (by omega); simpa [txC] using this⟩
theorem OwnT.below {B base : Nat} {w w' : World} {v : Value} {l : List Tx5} (h : OwnT base w v l) (hb : Below B w w') (hB : w.heap.size ≤ B) : OwnT base w' v l := row_below h hb hB
theorem OwnT.lt {base : Nat} {w : World} {v : Value} {l : List Tx5} (h : OwnT base w v l) : ∀ k, v.ownBlock = some k → base ≤ k ∧ k < w.heap.size := fun k hk => World.ownsRow.lt h k hk
theorem Try.infoTx : (Try.prog.info? 78).map (fun i => (i.zero, i.size, i.bytes)) = some (some (.agg #[.int .i64 0, .string { data := #[] }, .string { data := #[] }, .int .i64 0, .int .i64 0]), 5, 56) := by kernel_rfl

end Go.Proofs.Ytkidfkngehcjgaa
