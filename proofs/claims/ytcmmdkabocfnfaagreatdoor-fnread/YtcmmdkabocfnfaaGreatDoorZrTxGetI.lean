/- An order comes back of its bytes (plain). Blocks read out of bytes, plainly: by the landed code's reader and by the model's; what was put comes back of both, so both answer alike. The landed code's reader: one part behind the other. The landed code's orders read out of bytes. -/
import Derived.Test.YtcmmdkabocfnfaaGreatDoorZrRound
import Derived.Test.YtcmmdkabocfnfaaGreatDoorZrTxGet
import Derived.Test.YtcmmdkabocfnfaaGreatDoorZrBkPutB
import Derived.Test.YtcmmdkabocfnfaaGreatDoorZrRoundText
import Derived.Test.YtcmmdkabocfnfaaGreatDoorZrVsOkI
namespace Go.Proofs.YtcmmdkabocfnfaaGreatDoor
open Go.RowKit
set_option linter.unusedVariables false

theorem clamp_in5 (n : Int) (h : -1000000000 ≤ n ∧ n ≤ 1000000000) : clampN n = n := by
  unfold clampN; rw [if_neg (by omega), if_neg (by omega)]
theorem back_bytes5 (s : ByteArray) : (⟨s.data.toList.toArray⟩ : ByteArray) = s := by
  apply ByteArray.ext; simp
theorem getT_put5 (l rest : List UInt8) (s : ByteArray) (hs : s.size ≤ 1000000000) : getT (l ++ (textB s ++ rest)) (l.length : Int) = (s.data.toList, (l.length : Int) + (textB s).length, true) := by
  have e : l ++ (textB s ++ rest) = l ++ (numB (s.size : Int) ++ (s.data.toList ++ rest)) := by simp [textB]
  have hg := getN_put l (s.data.toList ++ rest) (s.size : Int)
  rw [clamp_in5 _ (by omega)] at hg
  rw [e]
  have hsz : s.data.toList.length = s.size := by simp
  have := getT_yes (l ++ (numB (s.size : Int) ++ (s.data.toList ++ rest))) (l.length : Int) s.size (l.length + (numB (s.size : Int)).length) (by rw [hg]; simp) (by simp; omega)
  rw [this]
  have e2 : (l ++ (numB (s.size : Int) ++ (s.data.toList ++ rest))).drop (l.length + (numB (s.size : Int)).length) = s.data.toList ++ rest := by
    rw [← List.append_assoc, ← List.length_append, List.drop_left]
  rw [e2, List.take_append_of_le_length (by omega), List.take_of_length_le (by omega)]
  have e3 : (textB s).length = (numB (s.size : Int)).length + s.size := by simp [textB]
  rw [e3]
  simp only [Prod.mk.injEq, and_true, true_and]
  omega
theorem getN_at5 (L l rest : List UInt8) (n p : Int) (e : L = l ++ (numB n ++ rest)) (hp : p = l.length) (hn : -1000000000 ≤ n ∧ n ≤ 1000000000) : getN L p = (n, ((l ++ numB n).length : Int), true) := by
  rw [e, hp, getN_put, clamp_in5 _ hn]
  simp
theorem getT_at5 (L l rest : List UInt8) (s : ByteArray) (p : Int) (e : L = l ++ (textB s ++ rest)) (hp : p = l.length) (hs : s.size ≤ 1000000000) : getT L p = (s.data.toList, ((l ++ textB s).length : Int), true) := by
  rw [e, hp, getT_put5 _ _ _ hs]
  simp
/-- What was put comes back. -/
theorem getX_put (l : List UInt8) (t : Tx5) (hok : txB t = true) (hf : t.2.1.size ≤ 1000000) (ht : t.2.2.1.size ≤ 1000000) : getX (l ++ txP t) (l.length : Int) = (t, ((l ++ txP t).length : Int), true) := by
  obtain ⟨k, f, to, am, no⟩ := t
  have hk : (-1000000000 ≤ k ∧ k ≤ 1000000000) ∧ (-1000000000 ≤ am ∧ am ≤ 1000000000) ∧ (-1000000000 ≤ no ∧ no ≤ 1000000000) := by
    simp only [txB, inB, Bool.and_eq_true, decide_eq_true_eq] at hok
    obtain ⟨-, h2, h3, h4⟩ := hok
    refine ⟨?_, by omega, by omega⟩
    split at h4
    · omega
    · simp only [Bool.and_eq_true, decide_eq_true_eq] at h4; omega
  obtain ⟨hk, ha, hn⟩ := hk
  simp only at hf ht
  simp only [txP]
  have e1 := getN_at5 (l ++ (numB k ++ (textB f ++ (textB to ++ (numB am ++ numB no))))) l _ k l.length rfl rfl hk
  have e2 := getT_at5 (l ++ (numB k ++ (textB f ++ (textB to ++ (numB am ++ numB no))))) (l ++ numB k) (textB to ++ (numB am ++ numB no)) f _ (by simp) rfl (by omega)
  have e3 := getT_at5 (l ++ (numB k ++ (textB f ++ (textB to ++ (numB am ++ numB no))))) (l ++ numB k ++ textB f) (numB am ++ numB no) to _ (by simp) rfl (by omega)
  have e4 := getN_at5 (l ++ (numB k ++ (textB f ++ (textB to ++ (numB am ++ numB no))))) (l ++ numB k ++ textB f ++ textB to) (numB no) am _ (by simp) rfl ha
  have e5 := getN_at5 (l ++ (numB k ++ (textB f ++ (textB to ++ (numB am ++ numB no))))) (l ++ numB k ++ textB f ++ textB to ++ numB am) [] no _ (by simp) rfl hn
  rw [getX_is e1 e2 e3 e4 e5, back_bytes5, back_bytes5, hok]
  simp
theorem putG_pos5 (n : Int) : 0 < (numB n).length := by
  cases h : numB n with
  | nil => exact absurd h (putG_ne _ _)
  | cons _ _ => simp
theorem txP_pos (t : Tx5) : 0 < (txP t).length := by
  have := putG_pos5 t.1
  unfold txP; rw [List.length_append]; omega

end Go.Proofs.YtcmmdkabocfnfaaGreatDoor

namespace Go.Proofs.YtcmmdkabocfnfaaGreatDoor
open Go.RowKit
set_option linter.unusedVariables false

/-- Where a reader is; none: a part was not there. -/
abbrev St := Option Int
def rN (l : List UInt8) : St → Int
  | none => 0
  | some p => (getN l p).1
def sN (l : List UInt8) : St → St
  | none => none
  | some p => if (getN l p).2.2 = true then some (getN l p).2.1 else none
def rT (l : List UInt8) : St → ByteArray
  | none => ⟨#[]⟩
  | some p => ⟨(getT l p).1.toArray⟩
def sT (l : List UInt8) : St → St
  | none => none
  | some p => if (getT l p).2.2 = true then some (getT l p).2.1 else none
def rS (l : List UInt8) : St → List ByteArray
  | none => []
  | some p => (getNs l p).1
def sS (l : List UInt8) : St → St
  | none => none
  | some p => if (getNs l p).2.2 = true then some (getNs l p).2.1 else none
def rX (l : List UInt8) : St → Tx5
  | none => tx0
  | some p => (getX l p).1
def sX (l : List UInt8) : St → St
  | none => none
  | some p => if (getX l p).2.2 = true then some (getX l p).2.1 else none
def rV (l : List UInt8) (s : St) : Vl := (rT l s, rN l (sT l s))
def sV (l : List UInt8) (s : St) : St := sN l (sT l s)
/-- So many parts, one behind the other. -/
def sL (n : St → St) : Nat → St → St
  | 0, s => s
  | k + 1, s => n (sL n k s)
def rL {α : Type} (r : St → α) (n : St → St) : Nat → St → List α
  | 0, _ => []
  | k + 1, s => rL r n k s ++ [r (sL n k s)]
theorem rL_len {α : Type} (r : St → α) (n : St → St) (s : St) : ∀ k, (rL r n k s).length = k
  | 0 => rfl
  | k + 1 => by simp [rL, rL_len r n s k]
theorem sL_none (n : St → St) (hn : n none = none) : ∀ k, sL n k none = none
  | 0 => rfl
  | k + 1 => by simp [sL, sL_none n hn k, hn]
theorem sL_more (n : St → St) (hn : n none = none) (s : St) (k : Nat) (h : sL n k s = none) : ∀ m, k ≤ m → sL n m s = none
  | 0, hm => by have : k = 0 := by omega
                subst this; exact h
  | m + 1, hm => by
    by_cases e : k = m + 1
    · subst e; exact h
    · simp [sL, sL_more n hn s k h m (by omega), hn]
/-- A count of parts that the landed code takes. -/
def cI (l : List UInt8) (most : Int) (s : St) : Int := if inB (rN l s) 0 most = true then rN l s else 0
def sC (l : List UInt8) (most : Int) (s : St) : St := if inB (rN l s) 0 most = true then sN l s else none
def y1 (l : List UInt8) : St := sN l (some 0)
def y2 (l : List UInt8) : St := sN l (y1 l)
def y3 (l : List UInt8) : St := sN l (y2 l)
def y4 (l : List UInt8) : St := sT l (y3 l)
def y5 (l : List UInt8) : St := sN l (y4 l)
def y6 (l : List UInt8) : St := sN l (y5 l)
def y7 (l : List UInt8) : St := sS l (y6 l)
def y8 (l : List UInt8) : St := sN l (y7 l)
def y9 (l : List UInt8) : St := sS l (y8 l)
def y10 (l : List UInt8) : St := sL (sN l) (rS l (y8 l)).length (y9 l)
def i11 (l : List UInt8) : St := sC l 4 (y10 l)
def i12 (l : List UInt8) : St := sL (sX l) (cI l 4 (y10 l)).toNat (i11 l)
def i13 (l : List UInt8) : St := sN l (i12 l)
def i14 (l : List UInt8) : St := sC l 12 (i13 l)
def i15 (l : List UInt8) : St := sL (sV l) (cI l 12 (i13 l)).toNat (i14 l)
def i16 (l : List UInt8) : St := sT l (i15 l)
/-- What the landed code reads. -/
def bI (l : List UInt8) : Bk := ⟨rN l (some 0), rN l (y1 l), rN l (y2 l), rT l (y3 l), rN l (y4 l), rN l (y5 l), rS l (y6 l), rN l (y7 l), rS l (y8 l), rL (rN l) (sN l) (rS l (y8 l)).length (y9 l), rL (rX l) (sX l) (cI l 4 (y10 l)).toNat (i11 l), decide (rN l (i12 l) = 1), rL (rV l) (sV l) (cI l 12 (i13 l)).toNat (i14 l), rT l (i15 l)⟩
def bk0 : Bk := ⟨0, 0, 0, ⟨#[]⟩, 0, 0, [], 0, [], [], [], false, [], ⟨#[]⟩⟩
def gI (l : List UInt8) : Bk × Bool := if ((i16 l).isSome && decide (blP (bI l) = l)) = true then (bI l, true) else (bk0, false)
/-- How many rounds the model's loops go at most. -/
def few (n : Int) (c : Nat) : Nat := min n.toNat c
def j11 (l : List UInt8) : St := sN l (y10 l)
def j12 (l : List UInt8) : St := sL (sX l) (few (rN l (y10 l)) 5) (j11 l)
def j13 (l : List UInt8) : St := sN l (j12 l)
def j14 (l : List UInt8) : St := sN l (j13 l)
def j15 (l : List UInt8) : St := sL (sV l) (few (rN l (j13 l)) 13) (j14 l)
def j16 (l : List UInt8) : St := sT l (j15 l)
/-- What the model reads. -/
def bS (l : List UInt8) : Bk := ⟨rN l (some 0), rN l (y1 l), rN l (y2 l), rT l (y3 l), rN l (y4 l), rN l (y5 l), rS l (y6 l), rN l (y7 l), rS l (y8 l), rL (rN l) (sN l) (rS l (y8 l)).length (y9 l), rL (rX l) (sX l) (few (rN l (y10 l)) 5) (j11 l), decide (rN l (j12 l) = 1), rL (rV l) (sV l) (few (rN l (j13 l)) 13) (j14 l), rT l (j15 l)⟩
def gS (l : List UInt8) : Bk × Bool := if ((j16 l).isSome && (blB (bS l) && decide (blP (bS l) = l))) = true then (bS l, true) else (bk0, false)

/-- A reader stands ahead of t. -/
def AtS (l : List UInt8) (s : St) (t : List UInt8) : Prop := ∃ pre, l = pre ++ t ∧ s = some (pre.length : Int)
theorem rt_num {l : List UInt8} {s : St} {n : Int} {t : List UInt8} (h : AtS l s (numB n ++ t)) (hn : -1000000000 ≤ n ∧ n ≤ 1000000000) : rN l s = n ∧ AtS l (sN l s) t := by
  obtain ⟨pre, e, rfl⟩ := h
  have h1 := getN_at5 l pre t n pre.length e rfl hn
  refine ⟨?_, pre ++ numB n, by rw [e, List.append_assoc], ?_⟩
  · show (getN l pre.length).1 = n
    rw [h1]
  · show (if (getN l pre.length).2.2 = true then some (getN l pre.length).2.1 else none) = _
    rw [h1]; rfl
theorem rt_text {l : List UInt8} {s : St} {x : ByteArray} {t : List UInt8} (h : AtS l s (textB x ++ t)) (hx : x.size ≤ 1000000000) : rT l s = x ∧ AtS l (sT l s) t := by
  obtain ⟨pre, e, rfl⟩ := h
  have h1 := getT_at5 l pre t x pre.length e rfl hx
  refine ⟨?_, pre ++ textB x, by rw [e, List.append_assoc], ?_⟩
  · show (⟨(getT l pre.length).1.toArray⟩ : ByteArray) = x
    rw [h1]
  · show (if (getT l pre.length).2.2 = true then some (getT l pre.length).2.1 else none) = _
    rw [h1]; rfl
theorem rt_names {l : List UInt8} {s : St} {ls : List ByteArray} {t : List UInt8} (h : AtS l s (namesB ls ++ t)) (hn : ls.length ≤ 100) (hs : ∀ x ∈ ls, x.size ≤ 1000000000) : rS l s = ls ∧ AtS l (sS l s) t := by
  obtain ⟨pre, e, rfl⟩ := h
  have e' : l = pre ++ (numB (ls.length : Int) ++ (textsB ls ++ t)) := by rw [e]; unfold namesB; simp only [List.append_assoc]
  have hg := getN_put pre (textsB ls ++ t) (ls.length : Int)
  rw [clamp_small _ (by omega)] at hg
  have hL := getL_put ls (pre ++ numB (ls.length : Int)) t [] hs
  rw [List.append_assoc, List.nil_append] at hL
  have e3 : (pre.length : Int) + (numB (ls.length : Int)).length = ((pre ++ numB (ls.length : Int)).length : Int) := by simp
  rw [e3] at hg
  have h1 := getNs_some (pre ++ (numB (ls.length : Int) ++ (textsB ls ++ t))) (pre.length : Int) _ _ ls.length ls hg hn hL
  rw [← e'] at h1
  refine ⟨?_, pre ++ namesB ls, by rw [e, List.append_assoc], ?_⟩
  · show (getNs l pre.length).1 = ls
    rw [h1]
  · show (if (getNs l pre.length).2.2 = true then some (getNs l pre.length).2.1 else none) = _
    rw [h1]
    unfold namesB
    simp only [if_true, List.length_append, Option.some.injEq]
    omega
theorem rt_tx {l : List UInt8} {s : St} {x : Tx5} {t : List UInt8} (h : AtS l s (txP x ++ t)) (hok : txB x = true) : rX l s = x ∧ AtS l (sX l s) t := by
  obtain ⟨pre, e, rfl⟩ := h
  have hsm := tx_small hok
  obtain ⟨k, f, to, am, no⟩ := x
  simp only at hsm
  obtain ⟨hf, ht, hk, ha, hn⟩ := hsm
  have e' : l = pre ++ (numB k ++ (textB f ++ (textB to ++ (numB am ++ (numB no ++ t))))) := by rw [e]; unfold txP; simp only [List.append_assoc]
  have e1 := getN_at5 l pre _ k pre.length e' rfl (by omega)
  have e2 := getT_at5 l (pre ++ numB k) (textB to ++ (numB am ++ (numB no ++ t))) f _ (by rw [e']; simp) rfl (by omega)
  have e3 := getT_at5 l (pre ++ numB k ++ textB f) (numB am ++ (numB no ++ t)) to _ (by rw [e']; simp) rfl (by omega)
  have e4 := getN_at5 l (pre ++ numB k ++ textB f ++ textB to) (numB no ++ t) am _ (by rw [e']; simp) rfl (by omega)
  have e5 := getN_at5 l (pre ++ numB k ++ textB f ++ textB to ++ numB am) t no _ (by rw [e']; simp) rfl (by omega)
  have h1 := getX_is e1 e2 e3 e4 e5
  rw [back_bytes5, back_bytes5, hok] at h1
  simp only [Bool.and_self, if_true] at h1
  refine ⟨?_, pre ++ txP (k, f, to, am, no), by rw [e, List.append_assoc], ?_⟩
  · show (getX l pre.length).1 = _
    rw [h1]
  · show (if (getX l pre.length).2.2 = true then some (getX l pre.length).2.1 else none) = _
    rw [h1]
    unfold txP
    simp only [if_true, List.length_append, Option.some.injEq]
    omega
theorem rt_list {α : Type} (r : St → α) (n : St → St) (f : α → List UInt8) (l : List UInt8) (xs : List α) (t : List UInt8) (hs : ∀ s x t', x ∈ xs → AtS l s (f x ++ t') → r s = x ∧ AtS l (n s) t') (s : St) (h : AtS l s (xs.flatMap f ++ t)) : ∀ k, k ≤ xs.length → rL r n k s = xs.take k ∧ AtS l (sL n k s) ((xs.drop k).flatMap f ++ t)
  | 0, _ => ⟨by simp [rL], by simpa [sL] using h⟩
  | k + 1, hk => by
    obtain ⟨h1, h2⟩ := rt_list r n f l xs t hs s h k (by omega)
    have hlt : k < xs.length := by omega
    rw [List.drop_eq_getElem_cons hlt, List.flatMap_cons, List.append_assoc] at h2
    obtain ⟨h3, h4⟩ := hs _ _ _ (List.getElem_mem hlt) h2
    refine ⟨?_, h4⟩
    show rL r n k s ++ [r (sL n k s)] = _
    rw [h1, h3, List.take_succ_eq_append_getElem hlt]
theorem rt_all {α : Type} (r : St → α) (n : St → St) (f : α → List UInt8) (l : List UInt8) (xs : List α) (t : List UInt8) (hs : ∀ s x t', x ∈ xs → AtS l s (f x ++ t') → r s = x ∧ AtS l (n s) t') (s : St) (h : AtS l s (xs.flatMap f ++ t)) : rL r n xs.length s = xs ∧ AtS l (sL n xs.length s) t := by
  have := rt_list r n f l xs t hs s h xs.length (Nat.le_refl _)
  rw [List.take_of_length_le (Nat.le_refl _), List.drop_of_length_le (Nat.le_refl _)] at this
  simpa using this
/-- What lies behind the Highs. -/
def tailB (x : Bk) : List UInt8 := numB (x.ts.length : Int) ++ (x.ts.flatMap txP ++ (numB (if x.en = true then 1 else 0) ++ (numB (x.nx.length : Int) ++ (x.nx.flatMap (fun p => textB p.1 ++ numB p.2) ++ (textB x.rt ++ [])))))
theorem blP_right (x : Bk) (h : blB x = true) : blP x = numB x.id ++ (numB x.ep ++ (numB x.rd ++ (textB x.md ++ (numB x.qr ++ (numB x.qb ++ (namesB x.qw ++ (numB x.tr ++ (namesB x.tw ++ (x.th.flatMap numB ++ tailB x))))))))) := by
  unfold blP
  rw [if_pos h]
  simp [n9P, e9P, x9P, t9P, q9P, h9P, hisP, tailB]
theorem names_sz {ls : List ByteArray} (h : tot ls ≤ 160) : ∀ x ∈ ls, x.size ≤ 1000000000 := by
  have hm : ∀ (ls : List ByteArray) (x : ByteArray), x ∈ ls → x.size ≤ tot ls := by
    intro ls
    induction ls with
    | nil => intro x hx; cases hx
    | cons a t ih =>
      intro x hx
      simp only [tot, List.map_cons, List.sum_cons]
      rcases List.mem_cons.1 hx with rfl | hx
      · omega
      · have := ih x hx
        simp only [tot] at this
        omega
  intro x hx
  have := hm ls x hx
  omega
structure Head (x : Bk) (l : List UInt8) : Prop where
  id : rN l (some 0) = x.id
  ep : rN l (y1 l) = x.ep
  rd : rN l (y2 l) = x.rd
  md : rT l (y3 l) = x.md
  qr : rN l (y4 l) = x.qr
  qb : rN l (y5 l) = x.qb
  qw : rS l (y6 l) = x.qw
  tr : rN l (y7 l) = x.tr
  tw : rS l (y8 l) = x.tw
  th : rL (rN l) (sN l) (rS l (y8 l)).length (y9 l) = x.th
  at_ : AtS l (y10 l) (tailB x)
theorem bl_th {x : Bk} (h : blB x = true) : x.th.length = x.tw.length := by
  unfold blB at h
  simp only [Bool.and_eq_true, decide_eq_true_eq] at h
  obtain ⟨h1, h2, h3, h4, h5, h6, h7, h8, h9⟩ := h
  unfold t9B noneB at h6
  simp only [Bool.or_eq_true, Bool.and_eq_true, decide_eq_true_eq] at h6
  rcases h6 with h6 | h6
  · omega
  · exact h6.2.2.1
theorem rt_head {x : Bk} {l : List UInt8} (hb : blB x = true) (hl : blP x = l) : Head x l := by
  have hk := bl_put hb
  have b1 := hk.id
  have b2 := hk.ep
  have b3 := hk.rd
  have b4 := hk.md
  have b5 := hk.qr
  have b6 := hk.qb
  have b7 := hk.qw
  have b8 := hk.tr
  have b9 := hk.tw
  have h0 : AtS l (some 0) (numB x.id ++ (numB x.ep ++ (numB x.rd ++ (textB x.md ++ (numB x.qr ++ (numB x.qb ++ (namesB x.qw ++ (numB x.tr ++ (namesB x.tw ++ (x.th.flatMap numB ++ tailB x)))))))))) := ⟨[], by rw [← hl, blP_right x hb]; rfl, rfl⟩
  obtain ⟨e1, h1⟩ := rt_num h0 (by omega)
  obtain ⟨e2, h2⟩ := rt_num h1 (by omega)
  obtain ⟨e3, h3⟩ := rt_num h2 (by omega)
  obtain ⟨e4, h4⟩ := rt_text h3 (by omega)
  obtain ⟨e5, h5⟩ := rt_num h4 (by omega)
  obtain ⟨e6, h6⟩ := rt_num h5 (by omega)
  obtain ⟨e7, h7⟩ := rt_names h6 (by omega) (names_sz b7.2)
  obtain ⟨e8, h8⟩ := rt_num h7 (by omega)
  obtain ⟨e9, h9⟩ := rt_names h8 (by omega) (names_sz b9.2)
  obtain ⟨e10, h10⟩ := rt_all (rN l) (sN l) numB l x.th (tailB x) (fun s y t' hy hat => rt_num hat (by have := hk.hb y hy; omega)) _ h9
  have ht : (rS l (y8 l)).length = x.th.length := by rw [show rS l (y8 l) = x.tw from e9, bl_th hb]
  exact ⟨e1, e2, e3, e4, e5, e6, e7, e8, e9, by rw [ht]; exact e10, by unfold y10; rw [ht]; exact h10⟩
theorem bl_tx {x : Bk} (h : blB x = true) : ∀ t ∈ x.ts, txB t = true := by
  unfold blB at h
  simp only [Bool.and_eq_true, decide_eq_true_eq] at h
  have h8 := h.2.2.2.2.2.2.2.1
  rwa [List.all_eq_true] at h8
theorem en_val (b : Bool) : decide ((if b = true then (1 : Int) else 0) = 1) = b := by cases b <;> rfl
theorem rt_vals {l : List UInt8} {x : Bk} (hk : PutK x) (s : St) (t : List UInt8) (h : AtS l s (x.nx.flatMap (fun p => textB p.1 ++ numB p.2) ++ t)) : rL (rV l) (sV l) x.nx.length s = x.nx ∧ AtS l (sL (sV l) x.nx.length s) t :=
  rt_all (rV l) (sV l) (fun p : Vl => textB p.1 ++ numB p.2) l x.nx t (fun s p t' hp hat => by
    have hb := hk.nb p hp
    rw [List.append_assoc] at hat
    obtain ⟨e1, h1⟩ := rt_text hat (by omega)
    obtain ⟨e2, h2⟩ := rt_num h1 (by omega)
    exact ⟨by unfold rV; rw [e1, e2], h2⟩) s h
/-- What was put comes back: by the landed code's reader. -/
theorem gI_put {x : Bk} {l : List UInt8} (hb : blB x = true) (hl : blP x = l) : gI l = (x, true) := by
  have hk := bl_put hb
  have b1 := hk.ts
  have b2 := hk.nx
  have b3 := hk.rt
  obtain ⟨e1, e2, e3, e4, e5, e6, e7, e8, e9, e10, h10⟩ := rt_head hb hl
  obtain ⟨f1, g1⟩ := rt_num h10 (by omega)
  have c1 : cI l 4 (y10 l) = (x.ts.length : Int) := by
    unfold cI inB; rw [f1, if_pos (by simp; omega)]
  have s1 : i11 l = sN l (y10 l) := by
    unfold i11 sC inB; rw [f1, if_pos (by simp; omega)]
  obtain ⟨f2, g2⟩ := rt_all (rX l) (sX l) txP l x.ts _ (fun s t t' ht hat => rt_tx hat (bl_tx hb t ht)) _ g1
  have s2 : i12 l = sL (sX l) x.ts.length (sN l (y10 l)) := by unfold i12; rw [c1, s1, Int.toNat_natCast]
  obtain ⟨f3, g3⟩ := rt_num g2 (by cases x.en <;> simp)
  obtain ⟨f4, g4⟩ := rt_num g3 (by omega)
  have s3 : i13 l = sN l (sL (sX l) x.ts.length (sN l (y10 l))) := by unfold i13; rw [s2]
  have c2 : cI l 12 (i13 l) = (x.nx.length : Int) := by
    unfold cI inB; rw [s3, f4, if_pos (by simp; omega)]
  have s4 : i14 l = sN l (i13 l) := by
    unfold i14 sC inB; rw [s3, f4, if_pos (by simp; omega)]
  rw [← s3] at g4
  obtain ⟨f5, g5⟩ := rt_vals hk _ _ g4
  have s5 : i15 l = sL (sV l) x.nx.length (sN l (i13 l)) := by unfold i15; rw [c2, s4, Int.toNat_natCast]
  obtain ⟨f6, g6⟩ := rt_text g5 (by omega)
  have hB : bI l = x := by
    unfold bI
    rw [e1, e2, e3, e4, e5, e6, e7, e8, e10, e9, c1, s1, Int.toNat_natCast, f2, s2, f3, en_val, c2, s4, Int.toNat_natCast, f5, s5, f6]
  obtain ⟨pre, -, hs⟩ := g6
  have hsome : (i16 l).isSome = true := by unfold i16; rw [s5, hs]; rfl
  unfold gI
  rw [hsome, hB, hl, decide_eq_true rfl]
  rfl
/-- .. and by the model's. -/
theorem gS_put {x : Bk} {l : List UInt8} (hb : blB x = true) (hl : blP x = l) : gS l = (x, true) := by
  have hk := bl_put hb
  have b1 := hk.ts
  have b2 := hk.nx
  have b3 := hk.rt
  obtain ⟨e1, e2, e3, e4, e5, e6, e7, e8, e9, e10, h10⟩ := rt_head hb hl
  obtain ⟨f1, g1⟩ := rt_num h10 (by omega)
  have c1 : few (rN l (y10 l)) 5 = x.ts.length := by unfold few; rw [f1, Int.toNat_natCast]; omega
  obtain ⟨f2, g2⟩ := rt_all (rX l) (sX l) txP l x.ts _ (fun s t t' ht hat => rt_tx hat (bl_tx hb t ht)) _ g1
  have s2 : j12 l = sL (sX l) x.ts.length (sN l (y10 l)) := by unfold j12 j11; rw [c1]
  obtain ⟨f3, g3⟩ := rt_num g2 (by cases x.en <;> simp)
  obtain ⟨f4, g4⟩ := rt_num g3 (by omega)
  have s3 : j13 l = sN l (sL (sX l) x.ts.length (sN l (y10 l))) := by unfold j13; rw [s2]
  have c2 : few (rN l (j13 l)) 13 = x.nx.length := by unfold few; rw [s3, f4, Int.toNat_natCast]; omega
  rw [← s3] at g4
  obtain ⟨f5, g5⟩ := rt_vals hk _ _ g4
  have s5 : j15 l = sL (sV l) x.nx.length (sN l (j13 l)) := by unfold j15 j14; rw [c2]
  obtain ⟨f6, g6⟩ := rt_text g5 (by omega)
  have hB : bS l = x := by
    unfold bS
    have s1 : j11 l = sN l (y10 l) := rfl
    have s4 : j14 l = sN l (j13 l) := rfl
    rw [e1, e2, e3, e4, e5, e6, e7, e8, e10, e9, c1, s1, f2, s2, f3, en_val, c2, s4, f5, s5, f6]
  obtain ⟨pre, -, hs⟩ := g6
  have hsome : (j16 l).isSome = true := by unfold j16; rw [s5, hs]; rfl
  unfold gS
  rw [hsome, hB, hb, hl, decide_eq_true rfl]
  rfl
theorem sC_none (l : List UInt8) (m : Int) : sC l m none = none := by unfold sC; split <;> rfl
theorem no_bytes : (i16 []).isSome = false := by
  have e1 : y1 [] = none := by
    show (if (getN [] 0).2.2 = true then some (getN [] 0).2.1 else none) = none
    have : getN [] 0 = (0, 0, false) := by unfold getN; simp
    rw [this]; rfl
  have e2 : y2 [] = none := by unfold y2; rw [e1]; rfl
  have e3 : y3 [] = none := by unfold y3; rw [e2]; rfl
  have e4 : y4 [] = none := by unfold y4; rw [e3]; rfl
  have e5 : y5 [] = none := by unfold y5; rw [e4]; rfl
  have e6 : y6 [] = none := by unfold y6; rw [e5]; rfl
  have e7 : y7 [] = none := by unfold y7; rw [e6]; rfl
  have e8 : y8 [] = none := by unfold y8; rw [e7]; rfl
  have e9 : y9 [] = none := by unfold y9; rw [e8]; rfl
  have e10 : y10 [] = none := by unfold y10; rw [e9]; exact sL_none _ rfl _
  have e11 : i11 [] = none := by unfold i11; rw [e10]; exact sC_none _ _
  have e12 : i12 [] = none := by unfold i12; rw [e11]; exact sL_none _ rfl _
  have e13 : i13 [] = none := by unfold i13; rw [e12]; rfl
  have e14 : i14 [] = none := by unfold i14; rw [e13]; exact sC_none _ _
  have e15 : i15 [] = none := by unfold i15; rw [e14]; exact sL_none _ rfl _
  have e16 : i16 [] = none := by unfold i16; rw [e15]; rfl
  rw [e16]; rfl
/-- Both answer alike. -/
theorem g_same (l : List UInt8) : gI l = gS l := by
  by_cases h1 : ((i16 l).isSome && decide (blP (bI l) = l)) = true
  · have h := h1
    simp only [Bool.and_eq_true, decide_eq_true_eq] at h
    have hb : blB (bI l) = true := by
      by_cases hb : blB (bI l) = true
      · exact hb
      · have e : blP (bI l) = [] := by unfold blP; rw [if_neg hb]
        have h2 := h.2
        rw [e] at h2
        rw [← h2, no_bytes] at h
        exact absurd h.1 (by simp)
    rw [gS_put hb h.2]
    unfold gI
    rw [if_pos h1]
  · by_cases h2 : ((j16 l).isSome && (blB (bS l) && decide (blP (bS l) = l))) = true
    · have h := h2
      simp only [Bool.and_eq_true, decide_eq_true_eq] at h
      rw [gI_put h.2.1 h.2.2]
      unfold gS
      rw [if_pos h2]
    · unfold gI gS
      rw [if_neg h1, if_neg h2]
/-- What is answered as a block is right, and has these bytes. -/
theorem gI_right {l : List UInt8} (h : (gI l).2 = true) : blB (gI l).1 = true ∧ blP (gI l).1 = l := by
  rw [g_same] at h ⊢
  unfold gS at h ⊢
  split at h
  · rename_i h2
    rw [if_pos h2]
    simp only [Bool.and_eq_true, decide_eq_true_eq] at h2
    exact h2.2
  · exact absurd h (by simp)
end Go.Proofs.YtcmmdkabocfnfaaGreatDoor

namespace Go.Proofs.YtcmmdkabocfnfaaGreatDoor
open Go.RowKit
set_option linter.unusedVariables false

theorem Blk.kept {W W' : World} {row : Option Nat} {B : Nat} {t : TypeId} {cs : List Value} (h : Blk W B t cs) (hg : W.grownBy W' row) (hne : some B ≠ row) : Blk W' B t cs := (hg.block B h.lt hne).trans h
theorem grown_two5 (w : World) (d g : Nat) (a b : Value) : w.grownBy (((w.drewN d).setCell ⟨g, 1, none⟩ a).setCell ⟨g, 2, none⟩ b) (some g) :=
  ⟨rfl, rfl, rfl, by simp, fun k _ hk => by
    have hne : k ≠ g := fun e => hk (by simp [e])
    rw [heap_setCell_other _ ⟨g, 2, none⟩ k _ hne, heap_setCell_other _ ⟨g, 1, none⟩ k _ hne]
    rfl⟩
theorem below_drewN5 (w : World) (d : Nat) : Below w.heap.size w (w.drewN d) := ⟨rfl, rfl, rfl, Nat.le_refl _, fun _ _ => rfl⟩
theorem blk_two5 {W : World} {B : Nat} {t : TypeId} {a0 a1 a2 : Value} (h : Blk W B t [a0, a1, a2]) (y1 y2 : Value) : Blk ((W.setCell ⟨B, 1, none⟩ y1).setCell ⟨B, 2, none⟩ y2) B t [a0, y1, y2] := by
  have e1 : Blk (W.setCell ⟨B, 1, none⟩ y1) B t [a0, y1, a2] := heap_setCell_same W B 1 #[a0, a1, a2] t y1 h
  exact heap_setCell_same _ B 2 #[a0, y1, a2] t y2 e1
/-- A reader at block B: the bytes v, the place p, whether all was there. -/
def Rdr (W : World) (B : Nat) (v : Value) (p : Int) (ok : Bool) : Prop := Blk W B 101 [v, .int .i64 p, .bool ok]

set_option maxRecDepth 20000 in
theorem readerAt_any (v : Value) (n c : Nat) (a : Option Addr) (p : Int) (w : World) (hv : v = .slice a n c) :
    Calls Tryz.prog 79 #[v, .int .i64 p] w fun e w' => e = .returned (.agg #[v, .int .i64 p, .bool true]) ∧ Below w.heap.size w w' := by
  subst hv
  go_enter Tryz.func79, Tryz.ntmps79
  go_wp2
  refine bodyPost_ret (v := .agg #[.slice a n c, .int .i64 p, .bool true]) (by simp [results, Tryz.f79, go_sem]) rfl ?_
  exact ⟨rfl, (Below.refl _ w).alloc (Nat.le_refl _) _⟩
set_option maxRecDepth 20000 in
set_option maxHeartbeats 1000000 in
theorem readNum_any (v : Value) (l : List UInt8) (p : Int) (ok : Bool) (B : Nat) (W : World) (hr : RdB W v l) (hk : Rdr W B v p ok) (hl : l.length ≤ 4000000) (hp1 : -9223372036854775808 ≤ p) (hp2 : p ≤ 9223372036854775807) :
    Calls Tryz.prog 121 #[.pointer (some ⟨B, 0, none⟩)] W fun e W' => e = .returned (.int .i64 (if ok = true then (getN l p).1 else 0)) ∧ Rdr W' B v (if ok = true then (getN l p).2.1 else p) (ok && (getN l p).2.2) ∧ W.grownBy W' (some B) := by
  have C := hide (fun W' h => implGetNum_any v l p W' h hl hp1 hp2)
  obtain ⟨n, x, o, h1⟩ : ∃ n x o, getN l p = (n, x, o) := ⟨_, _, _, rfl⟩
  rw [h1] at C ⊢
  simp only [tri] at C ⊢
  obtain ⟨a, cap, rfl⟩ := hr.shape
  have c0 := hk.cell 0
  have c1 := hk.cell 1
  have c2 := hk.cell 2
  simp only [List.getElem?_cons_zero, List.getElem?_cons_succ] at c0 c1 c2
  have f1 := hk.frozen 1
  have f2 := hk.frozen 2
  have HK := hide hk
  clear h1 hk
  cases ok
  · rw [if_neg (by simp), if_neg (by simp), Bool.false_and]
    clear C f1 f2 c1
    go_enter Tryz.func121, Tryz.ntmps121
    go_wp2
    go_ret
    exact ⟨rfl, HK.out, World.grownBy.refl _ _⟩
  · rw [if_pos rfl, if_pos rfl, Bool.true_and]
    have HC : Hid (∀ d : Nat, Calls Tryz.prog 140 #[.slice a l.length cap, .int .i64 p] (W.drewN d) fun e w' => e = .returned (.tuple #[.int .i64 n, .int .i64 x, .bool o]) ∧ w' = W.drewN d) := hide (fun d => C.out _ (hr.below (below_drewN5 W d) (Nat.le_refl _)))
    clear C hr
    go_enter Tryz.func121, Tryz.ntmps121
    go_wp2
    go_quiet ((go_at_call 140; exact Calls.quiet_of_same (HC.out _)))
    go_wp2
    go_ret
    exact ⟨rfl, blk_two5 HK.out _ _, grown_two5 _ _ _ _ _⟩
set_option maxRecDepth 20000 in
set_option maxHeartbeats 1000000 in
theorem readText_any (v : Value) (l : List UInt8) (p : Int) (ok : Bool) (B : Nat) (W : World) (hr : RdB W v l) (hk : Rdr W B v p ok) (hl : l.length ≤ 4000000) (hp1 : -9223372036854775808 ≤ p) (hp2 : p ≤ 9223372036854775807) :
    Calls Tryz.prog 122 #[.pointer (some ⟨B, 0, none⟩)] W fun e W' => e = .returned (.string ⟨(if ok = true then (getT l p).1 else []).toArray⟩) ∧ Rdr W' B v (if ok = true then (getT l p).2.1 else p) (ok && (getT l p).2.2) ∧ W.grownBy W' (some B) := by
  have C := hide (fun W' h => implGetText_any v l p W' h hl hp1 hp2)
  obtain ⟨n, x, o, h1⟩ : ∃ n x o, getT l p = (n, x, o) := ⟨_, _, _, rfl⟩
  rw [h1] at C ⊢
  simp only [trs] at C ⊢
  obtain ⟨a, cap, rfl⟩ := hr.shape
  have c0 := hk.cell 0
  have c1 := hk.cell 1
  have c2 := hk.cell 2
  simp only [List.getElem?_cons_zero, List.getElem?_cons_succ] at c0 c1 c2
  have f1 := hk.frozen 1
  have f2 := hk.frozen 2
  have HK := hide hk
  clear h1 hk
  cases ok
  · rw [if_neg (by simp), if_neg (by simp), Bool.false_and]
    clear C f1 f2 c1
    go_enter Tryz.func122, Tryz.ntmps122
    go_wp2
    go_ret
    exact ⟨rfl, HK.out, World.grownBy.refl _ _⟩
  · rw [if_pos rfl, if_pos rfl, Bool.true_and]
    have HC : Hid (∀ d : Nat, Calls Tryz.prog 141 #[.slice a l.length cap, .int .i64 p] (W.drewN d) fun e w' => e = .returned (.tuple #[.string ⟨n.toArray⟩, .int .i64 x, .bool o]) ∧ w' = W.drewN d) := hide (fun d => C.out _ (hr.below (below_drewN5 W d) (Nat.le_refl _)))
    clear C hr
    go_enter Tryz.func122, Tryz.ntmps122
    go_wp2
    go_quiet ((go_at_call 141; exact Calls.quiet_of_same (HC.out _)))
    go_wp2
    go_ret
    exact ⟨rfl, blk_two5 HK.out _ _, grown_two5 _ _ _ _ _⟩
end Go.Proofs.YtcmmdkabocfnfaaGreatDoor

namespace Go.Proofs.YtcmmdkabocfnfaaGreatDoor
open Go.RowKit
set_option linter.unusedVariables false

/-- What the reader comes to: a part that is not there ends it. -/
theorem getX_run {l : List UInt8} {p k p1 P2 P3 P4 P5 X4 X5 : Int} {o1 O2 O3 O4 O5 : Bool} {X2 X3 : List UInt8} (h1 : getN l p = (k, p1, o1))
    (hX2 : (if o1 = true then (getT l p1).1 else []) = X2) (hP2 : (if o1 = true then (getT l p1).2.1 else p1) = P2) (hO2 : (o1 && (getT l p1).2.2) = O2)
    (hX3 : (if O2 = true then (getT l P2).1 else []) = X3) (hP3 : (if O2 = true then (getT l P2).2.1 else P2) = P3) (hO3 : (O2 && (getT l P2).2.2) = O3)
    (hX4 : (if O3 = true then (getN l P3).1 else 0) = X4) (hP4 : (if O3 = true then (getN l P3).2.1 else P3) = P4) (hO4 : (O3 && (getN l P3).2.2) = O4)
    (hX5 : (if O4 = true then (getN l P4).1 else 0) = X5) (hP5 : (if O4 = true then (getN l P4).2.1 else P4) = P5) (hO5 : (O4 && (getN l P4).2.2) = O5) :
    getX l p = if O5 = true then (if txB (k, ⟨X2.toArray⟩, ⟨X3.toArray⟩, X4, X5) = true then ((k, ⟨X2.toArray⟩, ⟨X3.toArray⟩, X4, X5), P5, true) else (tx0, 0, false)) else (tx0, 0, false) := by
  obtain ⟨f, p2, o2, h2⟩ : ∃ x y z, getT l p1 = (x, y, z) := ⟨_, _, _, rfl⟩
  obtain ⟨to, p3, o3, h3⟩ : ∃ x y z, getT l p2 = (x, y, z) := ⟨_, _, _, rfl⟩
  obtain ⟨am, p4, o4, h4⟩ : ∃ x y z, getN l p3 = (x, y, z) := ⟨_, _, _, rfl⟩
  obtain ⟨no, p5, o5, h5⟩ : ∃ x y z, getN l p4 = (x, y, z) := ⟨_, _, _, rfl⟩
  rw [getX_is h1 h2 h3 h4 h5]
  cases o1
  · simp only [Bool.false_and] at hO2
    subst hO2
    simp only [Bool.false_and] at hO3
    subst hO3
    simp only [Bool.false_and] at hO4
    subst hO4
    simp only [Bool.false_and] at hO5
    subst hO5
    simp
  · rw [if_pos rfl, h2] at hX2 hP2
    rw [Bool.true_and, h2] at hO2
    simp only at hX2 hP2 hO2
    subst hX2 hP2 hO2
    cases o2
    · simp only [Bool.false_and] at hO3
      subst hO3
      simp only [Bool.false_and] at hO4
      subst hO4
      simp only [Bool.false_and] at hO5
      subst hO5
      simp
    · rw [if_pos rfl, h3] at hX3 hP3
      rw [Bool.true_and, h3] at hO3
      simp only at hX3 hP3 hO3
      subst hX3 hP3 hO3
      cases o3
      · simp only [Bool.false_and] at hO4
        subst hO4
        simp only [Bool.false_and] at hO5
        subst hO5
        simp
      · rw [if_pos rfl, h4] at hX4 hP4
        rw [Bool.true_and, h4] at hO4
        simp only at hX4 hP4 hO4
        subst hX4 hP4 hO4
        cases o4
        · simp only [Bool.false_and] at hO5
          subst hO5
          simp
        · rw [if_pos rfl, h5] at hX5 hP5
          rw [Bool.true_and, h5] at hO5
          simp only at hX5 hP5 hO5
          subst hX5 hP5 hO5
          simp
theorem stepT_bd (l : List UInt8) (p : Int) (o : Bool) (h : 0 ≤ p ∧ p ≤ l.length) : 0 ≤ (if o = true then (getT l p).2.1 else p) ∧ (if o = true then (getT l p).2.1 else p) ≤ l.length := by
  split
  · exact getT_bd5 l p
  · exact h
theorem stepN_bd (l : List UInt8) (p : Int) (o : Bool) (h : 0 ≤ p ∧ p ≤ l.length) : 0 ≤ (if o = true then (getN l p).2.1 else p) ∧ (if o = true then (getN l p).2.1 else p) ≤ l.length := by
  split
  · exact (getN_bd l p).2.2
  · exact h
theorem stepX_len (l : List UInt8) (p : Int) (o : Bool) : (if o = true then (getT l p).1 else []).length ≤ l.length := by
  split
  · exact getT_len5 l p
  · simp

def z5 : List Value := [.int .i64 0, .string { data := #[] }, .string { data := #[] }, .int .i64 0, .int .i64 0]
/-- Half way: the reader at B, the order at T, the answer at R, the bytes as they were. -/
structure Sg (w : World) (v : Value) (l : List UInt8) (R B T : Nat) (W : World) (cs : List Value) (p : Int) (ok : Bool) : Prop where
  rdr : Rdr W B v p ok
  tx : Blk W T 52 cs
  res : Blk W R 52 z5
  bel : Below w.heap.size w W
theorem blk_other1 {W : World} {B b j : Nat} {t : TypeId} {cs : List Value} {y : Value} (h : Blk W B t cs) (hne : B ≠ b) : Blk (W.setCell ⟨b, j, none⟩ y) B t cs := by
  unfold Blk
  rw [heap_setCell_other _ ⟨b, j, none⟩ B _ hne]
  exact h
theorem Sg.step {w : World} {v : Value} {l : List UInt8} {R B T : Nat} {W W' : World} {cs cs' : List Value} {p p' : Int} {ok ok' : Bool} (h : Sg w v l R B T W cs p ok) (hB : w.heap.size ≤ B) (hT : w.heap.size ≤ T) (h1 : B ≠ T) (h2 : R ≠ B) (h3 : R ≠ T)
    (hk : Rdr W' B v p' ok') (hg : W.grownBy W' (some B)) (j : Nat) (x : Value) (hc : cs.toArray.setIfInBounds j x = cs'.toArray) : Sg w v l R B T (W'.setCell ⟨T, j, none⟩ x) cs' p' ok' := by
  refine ⟨blk_other1 hk h1, ?_, blk_other1 (h.res.kept hg (fun e => h2 (by injection e))) h3, ?_⟩
  · have e := heap_setCell_same W' T j cs.toArray 52 x (h.tx.kept hg (fun e => h1 (by injection e with e; exact e.symm)))
    unfold Blk
    rw [e, hc]
  · exact (h.bel.grown hg h.bel.size (fun k hk => by cases hk; exact hB)).setCell (p := ⟨T, j, none⟩) hT x
end Go.Proofs.YtcmmdkabocfnfaaGreatDoor
