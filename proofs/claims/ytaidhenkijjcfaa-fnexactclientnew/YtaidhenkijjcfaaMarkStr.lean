/- The laws' marks on texts: each is written over by a text of its own number; nothing else turns. -/
import Derived.Test.YtaidhenkijjcfaaStrs
import Derived.Laws.IdiomStrings
namespace Go.Proofs.Ytaidhenkijjcfaa
open Go.RowKit
set_option linter.unusedVariables false

def dg : Nat → Nat → List UInt8 → List UInt8
  | 0, _, acc => acc
  | f + 1, k, acc => if k = 0 then acc else dg f (k / 10) (UInt8.ofNat (48 + k % 10) :: acc)
def mtx (k : Nat) : ByteArray := ⟨(109 :: dg k k []).toArray⟩

theorem dg_step (f k : Nat) (acc : List UInt8) (h : 0 < k) (hf : k ≤ f) : dg f k acc = dg (f - 1) (k / 10) (UInt8.ofNat (48 + k % 10) :: acc) := by
  cases f with
  | zero => omega
  | succ f => rw [dg, if_neg (by omega)]; rfl
theorem dg_zero (f : Nat) (acc : List UInt8) : dg f 0 acc = acc := by
  cases f with
  | zero => rfl
  | succ f => rw [dg, if_pos rfl]

theorem str_one (w : World) (x : Int) (c : UInt8) (h : x = (c.toNat : Int)) : (convert 68 9 (.slice (some ⟨w.heap.size, 0, none⟩) 1 1)).run Try.prog (w.alloc (.cells #[.int .u8 x] 5)) = .ok (.string ⟨[c].toArray⟩) (w.alloc (.cells #[.int .u8 x] 5)) := by
  have := run_convert_bytes_back (P := Try.prog) (w.alloc (.cells #[.int .u8 x] 5)) 68 9 5 ⟨w.heap.size, 0, none⟩ 1 [c] Try.underlying68 Try.underlying5 Try.underlying9 (by
    intro j hj
    simp only [List.length_cons, List.length_nil] at hj
    have : j = 0 := by omega
    subst this
    simp [Addr.add, World.cell?_alloc_at, h])
  simpa using this

theorem str_app (c : UInt8) (acc : List UInt8) : (⟨#[c]⟩ ++ ⟨acc.toArray⟩ : ByteArray) = ⟨(c :: acc).toArray⟩ := by
  apply ByteArray.ext
  simp

theorem byte_of' (m : Nat) (h : m < 256) : (m : Int) = ((UInt8.ofNat m).toNat : Int) := by
  rw [UInt8.toNat_ofNat']; omega

set_option maxRecDepth 20000 in
set_option maxHeartbeats 400000 in
theorem markText_any (k : Nat) (w : World) (h0 : 0 < k) (hk : k ≤ 200000000) :
    Calls Try.prog 32 #[.int .i64 (k : Int)] w fun e w' => e = .returned (.string (mtx k)) ∧ Below w.heap.size w w' := by
  have HM : Hid (mtx k = ⟨(109 :: dg k k []).toArray⟩) := hide rfl
  go_enter Try.func32, Try.ntmps32
  go_wp2
  go_loopw [0, 3] (fun kv ov wr => ∃ (j f : Nat) (acc : List UInt8), kv = .int .i64 (j : Int) ∧ ov = .string ⟨acc.toArray⟩ ∧ dg k k [] = dg f j acc ∧ j ≤ f ∧ acc.length + f = k ∧ Below w.heap.size w wr) (fun kv _ _ => (intOf kv).toNat)
  case atStart => exact ⟨k, k, [], rfl, rfl, rfl, Nat.le_refl _, by simp, Below.refl _ _⟩
  case round =>
    obtain ⟨j, f, acc, rfl, rfl, hd, hjf, haf, hb⟩ := hrel
    have Hd := hide hd
    have Haf := hide haf
    have hal : acc.length ≤ 200000000 := by omega
    have hfl : f ≤ 200000000 := by omega
    have hsz := hb.size
    clear hd haf
    by_cases hj : 0 < j
    · have Hst := hide (dg_step f j acc hj hjf)
      obtain ⟨C, hC, hC2⟩ : ∃ C : Nat, 48 + j % 10 = C ∧ C < 256 := ⟨_, rfl, by omega⟩
      have k1 := str_one wr (48 + (j : Int) % 10) (UInt8.ofNat C) (by have := byte_of' C hC2; omega)
      rw [hC] at Hst
      clear hC
      have Hb := hide hb
      clear hb
      go_wp2
      go_roundw
      case rel => exact ⟨j / 10, f - 1, UInt8.ofNat C :: acc, by go_num, by rw [str_app], Hd.out.trans Hst.out, by omega, by have := Haf.out; simp; omega, Hb.out.alloc hsz _⟩
      case measure => simp [intOf]; omega
    · have hj0 : j = 0 := by omega
      subst hj0
      have Hz := hide (dg_zero f acc)
      go_wp2
      go_ret
      exact ⟨by rw [HM.out, Hd.out, Hz.out, ← str_app]; rfl, hb⟩

def mkS (k n : Nat) : List ByteArray := (List.range n).map (fun i => mtx (k + i))
theorem mkS_len (k n : Nat) : (mkS k n).length = n := by simp [mkS]
theorem mkS_at (k n j : Nat) (h : j < (mkS k n).length) : (mkS k n)[j] = mtx (k + j) := by simp [mkS]

theorem own_below {B base : Nat} {w w' : World} {e : TypeId} {size : Nat} {v : Value} {n : Nat} {xs : List Value} (h : w.ownsRow base e size v n xs) (hb : Below B w w') (hB : w.heap.size ≤ B) : w'.ownsRow base e size v n xs := by
  refine ⟨h.1, ?_⟩
  rcases h.2 with h' | ⟨g, cap, cur, hv, hbb, hg, r⟩
  · exact .inl h'
  · refine .inr ⟨g, cap, cur, hv, hbb, ?_, r⟩
    have hlt : g < w.heap.size := (Array.getElem?_eq_some_iff.1 hg).1
    rw [hb.block g (by omega)]; exact hg
theorem grown_below {w w' : World} (row : Option Nat) (h : Below w.heap.size w w') : w.grownBy w' row :=
  ⟨h.os, h.tape, h.output, h.size, fun k hk _ => h.block k hk⟩
theorem grownS_trans {a b c : World} {row : Option Nat} (h : a.grownBy b row) (k : b.grownBy c row) : a.grownBy c row :=
  ⟨k.os.trans h.os, k.tape.trans h.tape, k.output.trans h.output, Nat.le_trans h.size k.size, fun i hi hr => (k.block i (Nat.lt_of_lt_of_le hi h.size) hr).trans (h.block i hi hr)⟩

end Go.Proofs.Ytaidhenkijjcfaa
