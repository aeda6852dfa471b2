/- Orders by value: made, held against another, their size; what is right, which is less (plain). The laws' marks on texts: each is written over by a text of its own number; nothing else turns. -/
import Derived.Test.YtmjnkcggomnnjaaZcStrs
import Derived.Test.YtmjnkcggomnnjaaZcIn
import Derived.Test.YtmjnkcggomnnjaaZcNames
import Derived.Laws.IdiomStrings
namespace Go.Proofs.Ytmjnkcggomnnjaa
open Go.RowKit
set_option linter.unusedVariables false

/-- An order: its kind, from whom, to whom, how much, which one. -/
abbrev Tx5 := Int × ByteArray × ByteArray × Int × Int
def txV (t : Tx5) : Value := .agg #[.int .i64 t.1, .string t.2.1, .string t.2.2.1, .int .i64 t.2.2.2.1, .int .i64 t.2.2.2.2]
/-- Whether it is right. -/
def txB (t : Tx5) : Bool := nmB t.2.1 && (inB t.2.2.2.1 1 1000000 && (inB t.2.2.2.2 0 10000 && (if t.1 = 1 then nmB t.2.2.1 else (inB t.1 2 3 && decide (t.2.2.1 = ByteArray.empty)))))
/-- Whether one is less than another. -/
def lessT (a b : Tx5) : Bool :=
  if a.2.1 ≠ b.2.1 then Op.bytesLess a.2.1.toList b.2.1.toList
  else if a.2.2.2.2 ≠ b.2.2.2.2 then decide (a.2.2.2.2 < b.2.2.2.2)
  else if a.1 ≠ b.1 then decide (a.1 < b.1)
  else if a.2.2.1 ≠ b.2.2.1 then Op.bytesLess a.2.2.1.toList b.2.2.1.toList
  else decide (a.2.2.2.1 < b.2.2.2.1)

end Go.Proofs.Ytmjnkcggomnnjaa

namespace Go.Proofs.Ytmjnkcggomnnjaa
open Go.RowKit
set_option linter.unusedVariables false

def dg : Nat → Nat → List UInt8 → List UInt8
  | 0, _, acc => acc
  | f + 1, k, acc => if k = 0 then acc else dg f (k / 10) (UInt8.ofNat (48 + k % 10) :: acc)
def mtx (k : Nat) : ByteArray := ⟨(109 :: dg k k []).toArray⟩

theorem dg_step (f k : Nat) (acc : List UInt8) (h : 0 < k) (hf : k ≤ f) : dg f k acc = dg (f - 1) (k / 10) (UInt8.ofNat (48 + k % 10) :: acc) := by
  cases f with
  | zero => omega
  | succ f => rw [dg, if_neg (by omega)]; rfl
theorem dg_zero (f : Nat) (acc : List UInt8) : dg f 0 acc = acc := by
  cases f with
  | zero => rfl
  | succ f => rw [dg, if_pos rfl]

theorem str_app (c : UInt8) (acc : List UInt8) : (⟨#[c]⟩ ++ ⟨acc.toArray⟩ : ByteArray) = ⟨(c :: acc).toArray⟩ := by
  apply ByteArray.ext
  simp

theorem byte_of' (m : Nat) (h : m < 256) : (m : Int) = ((UInt8.ofNat m).toNat : Int) := by
  rw [UInt8.toNat_ofNat']; omega

def mkS (k n : Nat) : List ByteArray := (List.range n).map (fun i => mtx (k + i))
theorem mkS_len (k n : Nat) : (mkS k n).length = n := by simp [mkS]
theorem mkS_at (k n j : Nat) (h : j < (mkS k n).length) : (mkS k n)[j] = mtx (k + j) := by simp [mkS]

theorem own_below {B base : Nat} {w w' : World} {e : TypeId} {size : Nat} {v : Value} {n : Nat} {xs : List Value} (h : w.ownsRow base e size v n xs) (hb : Below B w w') (hB : w.heap.size ≤ B) : w'.ownsRow base e size v n xs := by
  refine ⟨h.1, ?_⟩
  rcases h.2 with h' | ⟨g, cap, cur, hv, hbb, hg, r⟩
  · exact .inl h'
  · refine .inr ⟨g, cap, cur, hv, hbb, ?_, r⟩
    have hlt : g < w.heap.size := (Array.getElem?_eq_some_iff.1 hg).1
    rw [hb.block g (by omega)]; exact hg
theorem grown_below {w w' : World} (row : Option Nat) (h : Below w.heap.size w w') : w.grownBy w' row :=
  ⟨h.os, h.tape, h.output, h.size, fun k hk _ => h.block k hk⟩
theorem grownS_trans {a b c : World} {row : Option Nat} (h : a.grownBy b row) (k : b.grownBy c row) : a.grownBy c row :=
  ⟨k.os.trans h.os, k.tape.trans h.tape, k.output.trans h.output, Nat.le_trans h.size k.size, fun i hi hr => (k.block i (Nat.lt_of_lt_of_le hi h.size) hr).trans (h.block i hi hr)⟩

end Go.Proofs.Ytmjnkcggomnnjaa
