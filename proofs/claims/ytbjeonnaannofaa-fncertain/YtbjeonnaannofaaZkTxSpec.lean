/- Trees of blocks, plainly. Where a block stands, by the model. The model's orders: which are right, which is less. -/
import Derived.Test.YtbjeonnaannofaaZkBkVal
import Derived.Test.YtbjeonnaannofaaZkKsCopy
import Derived.Test.YtbjeonnaannofaaZkTxVal
namespace Go.Proofs.Ytbjeonnaannofaa
open Go.RowKit
set_option linter.unusedVariables false

/-- Whether the i-th of the blocks l may stand there. -/
def okP (l : List Bk) (i : Nat) (h : i < l.length) : Prop :=
  blB l[i] = true ∧ l[i].ep = (l[0]'(by omega)).ep ∧ (0 < i → (l[i - 1]'(by omega)).id < l[i].id) ∧
    (rootB l[i].qr l[i].qb l[i].qw = true ∨ ∃ k, ∃ hk : k < i, (l[k]'(by omega)).id = l[i].qb ∧ (l[k]'(by omega)).rd = l[i].qr)
def treeP (l : List Bk) : Prop := l.length ≤ 400 ∧ ∀ i (h : i < l.length), okP l i h
def okD (l : List Bk) (i : Nat) (h : i < l.length) : Decidable (okP l i h) := by unfold okP; exact inferInstance
def treeD (l : List Bk) : Decidable (treeP l) := @instDecidableAnd _ _ _ (@Nat.decidableBallLT l.length (okP l) (okD l))
/-- Whether the blocks l are a tree. -/
def treeB (l : List Bk) : Bool := @decide (treeP l) (treeD l)
theorem treeB_yes {l : List Bk} (h : treeP l) : treeB l = true := by unfold treeB; exact @decide_eq_true _ (treeD l) h
theorem treeB_no {l : List Bk} (h : ¬ treeP l) : treeB l = false := by unfold treeB; exact @decide_eq_false _ (treeD l) h
theorem treeP_of {l : List Bk} (h : treeB l = true) : treeP l := by unfold treeB at h; exact @of_decide_eq_true _ (treeD l) h
theorem tree_not {l : List Bk} {i : Nat} (hi : i < l.length) (h : ¬ okP l i hi) : treeB l = false := treeB_no (fun t => h (t.2 i hi))
theorem tree_big {l : List Bk} (h : 400 < l.length) : treeB l = false := treeB_no (fun t => by have := t.1; omega)
/-- The first n of l ascend. -/
def AscP (l : List Bk) (n : Nat) : Prop := ∀ a b (ha : a < l.length) (hb : b < l.length), a < b → b < n → l[a].id < l[b].id
theorem asc_of {l : List Bk} {n : Nat} (h : ∀ i (hi : i < l.length), i < n → okP l i hi) : AscP l n := by
  intro a b ha hb hab hbn
  induction b with
  | zero => omega
  | succ b ih =>
    have hk := (h (b + 1) hb hbn).2.2.1 (by omega)
    simp only [Nat.add_sub_cancel] at hk
    by_cases e : a = b
    · subst e; exact hk
    · have := ih (by omega) (by omega) (by omega)
      omega
theorem AscP.one {l : List Bk} {n : Nat} (h : AscP l n) {a b : Nat} (ha : a < l.length) (hb : b < l.length) (han : a < n) (hbn : b < n) (e : l[a].id = l[b].id) : a = b := by
  by_cases h1 : a < b
  · have := h a b ha hb h1 hbn; omega
  · by_cases h2 : b < a
    · have := h b a hb ha h2 han; omega
    · omega
/-- The place r of the first block of l whose number is id; -1. -/
def AtR (l : List Bk) (id r : Int) : Prop :=
  (r = -1 ∧ ∀ j (h : j < l.length), l[j].id ≠ id) ∨ ∃ j, ∃ h : j < l.length, r = (j : Int) ∧ l[j].id = id ∧ ∀ i (h2 : i < l.length), i < j → l[i].id ≠ id
theorem AtR.one {l : List Bk} {id r s : Int} (h : AtR l id r) (k : AtR l id s) : r = s := by
  rcases h with ⟨rfl, h⟩ | ⟨i, hi, rfl, e, h⟩ <;> rcases k with ⟨rfl, k⟩ | ⟨j, hj, rfl, f, k⟩
  · rfl
  · exact absurd f (h j hj)
  · exact absurd e (k i hi)
  · by_cases h1 : i < j
    · exact absurd e (k i hi h1)
    · by_cases h2 : j < i
      · exact absurd f (h j hj h2)
      · omega
/-- The place of the first that has the Id, or -1. -/
def atI : List Bk → Int → Int
  | [], _ => -1
  | b :: l, id => if b.id = id then 0 else if atI l id = -1 then -1 else atI l id + 1
theorem atI_is (l : List Bk) (id : Int) : AtR l id (atI l id) := by
  induction l with
  | nil => exact .inl ⟨rfl, fun j h => by simp at h⟩
  | cons b l ih =>
    unfold atI
    by_cases e : b.id = id
    · rw [if_pos e]; exact .inr ⟨0, by simp, rfl, e, fun i _ h => by omega⟩
    · rw [if_neg e]
      obtain ⟨h1, h⟩ | ⟨j, hj, h1, f, h⟩ := ih
      · rw [h1, if_pos rfl]
        refine .inl ⟨rfl, fun j hj => ?_⟩
        cases j with
        | zero => exact e
        | succ j => exact h j (by simpa using hj)
      · rw [h1, if_neg (by omega)]
        refine .inr ⟨j + 1, by simpa using hj, by omega, f, fun i hi hij => ?_⟩
        cases i with
        | zero => exact e
        | succ i => exact h i (by simpa using hi) (by omega)
theorem atI_eq {l : List Bk} {id r : Int} (h : AtR l id r) : atI l id = r := (atI_is l id).one h
theorem atI_asc {l : List Bk} (h : AscP l l.length) {j : Nat} (hj : j < l.length) : atI l l[j].id = (j : Int) :=
  atI_eq (.inr ⟨j, hj, rfl, rfl, fun i hi hij e => by have := h i j hi hj hij hj; omega⟩)
/-- What stands where, where the i-th is right, is found: the block that it comes behind. -/
theorem ok_by {l : List Bk} {i : Nat} (hi : i < l.length) (hasc : AscP l i) (hB : blB l[i] = true) (hE : l[i].ep = (l[0]'(by omega)).ep) (hP : 0 < i → (l[i - 1]'(by omega)).id < l[i].id)
    (hn : rootB l[i].qr l[i].qb l[i].qw = false) {r : Int} (hr : AtR (l.take i) l[i].qb r) : okP l i hi ↔ ∃ k, ∃ hk : k < i, r = (k : Int) ∧ (l[k]'(by omega)).rd = l[i].qr := by
  constructor
  · rintro ⟨_, _, _, h | ⟨k, hk, e, f⟩⟩
    · rw [hn] at h; cases h
    · rcases hr with ⟨rfl, h⟩ | ⟨j, hj, rfl, g, h⟩
      · exact absurd (by rw [List.getElem_take]; exact e) (h k (by simp; omega))
      · have hj2 : j < i := by simp at hj; omega
        have : j = k := hasc.one (by omega) (by omega) hj2 hk (by rw [e]; simpa using g)
        subst this
        exact ⟨j, hj2, rfl, f⟩
  · rintro ⟨k, hk, rfl, f⟩
    refine ⟨hB, hE, hP, .inr ⟨k, hk, ?_, f⟩⟩
    rcases hr with ⟨h, _⟩ | ⟨j, hj, e, g, _⟩
    · omega
    · obtain rfl : k = j := by omega
      simpa using g
end Go.Proofs.Ytbjeonnaannofaa

namespace Go.Proofs.Ytbjeonnaannofaa
open Go.RowKit
set_option linter.unusedVariables false

theorem RdKs.take {w : World} {a : Option Addr} {cap : Nat} {l : List Bk} (h : RdKs w (.slice a l.length cap) l) (k : Nat) (hk : k ≤ l.length) : RdKs w (.slice a k cap) (l.take k) := by
  rcases h with ⟨a', cap', e, rfl, hn⟩ | ⟨b, off, cap', h0, e, h1, h2, h3, h4⟩
  · simp only [Value.slice.injEq] at e
    obtain ⟨rfl, -, rfl⟩ := e
    obtain rfl : k = 0 := by simpa using hk
    exact .inl ⟨_, _, rfl, rfl, hn⟩
  · simp only [Value.slice.injEq] at e
    obtain ⟨rfl, -, rfl⟩ := e
    by_cases hz : k = 0
    · subst hz; exact .inl ⟨_, _, rfl, by simp, fun h => by cases h⟩
    · have hl : (l.take k).length = k := by simp; omega
      refine .inr ⟨b, off, cap, ?_, by rw [hl], by omega, h2, h3, fun i hi => ?_⟩
      · intro e; rw [e] at hl; simp at hl; omega
      · rw [hl] at hi
        obtain ⟨bv, p, q⟩ := h4 i (by omega)
        exact ⟨bv, by simpa using p, by simpa using q⟩
set_option maxRecDepth 20000 in
set_option maxHeartbeats 1000000 in
theorem specAt_any (v : Value) (l : List Bk) (id : Int) (w : World) (hr : RdKs w v l) (hl : l.length ≤ 4000000) :
    Calls Try.prog 51 #[v, .int .i64 id] w fun e w' => e = .returned (.int .i64 (atI l id)) ∧ w' = w := by
  rcases hr with ⟨a, cap, rfl, rfl, -⟩ | ⟨b, off, cap, h0, rfl, h1, h2, h3, h4⟩
  · have HX := hide (atI_eq (l := []) (id := id) (.inl ⟨rfl, fun j h => by simp at h⟩))
    go_enter Try.func51, Try.ntmps51
    go_wp2
    refine wp_loop_rounds 1 ?_
    rw [rounds_succ]
    go_wp2
    go_ret
    exact ⟨ret_int HX.out.symm, rfl⟩
  · have H4 := hide h4
    clear h4 h0
    go_enter Try.func51, Try.ntmps51
    go_wp2
    go_loopw [5] (fun i wr => ∃ k : Nat, k ≤ l.length ∧ i = .int .i64 k ∧ (∀ j (h : j < l.length), j < k → l[j].id ≠ id) ∧ wr = w) (fun i _ => l.length - (intOf i).toNat)
    case atStart => exact ⟨0, Nat.zero_le _, rfl, fun j _ h => by omega, rfl⟩
    case round =>
      obtain ⟨k, hk, rfl, hno, rfl⟩ := hrel
      have Hno := hide hno
      clear hno
      by_cases hlt : k < l.length
      · obtain ⟨lv, hat, -⟩ := H4.out k hlt
        have c0 := hat.cells.1
        clear hat
        have hli : (k : Int) < (l.length : Int) := by omega
        by_cases he : l[k].id = id
        · have HX := hide (atI_eq (l := l) (id := id) (.inr ⟨k, hlt, rfl, he, Hno.out⟩))
          rw [he] at c0
          clear he
          go_wp2
          go_ret
          exact ⟨ret_int HX.out.symm, rfl⟩
        · have HY : Hid (∀ j (h : j < l.length), j < k + 1 → l[j].id ≠ id) := hide (fun j h hj => by
            by_cases e : j = k
            · subst e; exact he
            · exact Hno.out j h (by omega))
          generalize l[k].id = d at c0 he
          go_wp2
          go_roundw
          case rel => exact ⟨k + 1, by omega, by go_num, HY.out, by first | trivial | rfl⟩
          case measure => simp [intOf]; omega
      · have HX := hide (atI_eq (l := l) (id := id) (.inl ⟨rfl, fun j h => Hno.out j h (by omega)⟩))
        go_wp2
        go_ret
        exact ⟨ret_int HX.out.symm, rfl⟩
set_option maxRecDepth 20000 in
set_option maxHeartbeats 1000000 in
theorem firstOf_any (l : List Bk) (a : Option Addr) (cap : Nat) (id : Int) (w : World) (hr : RdKs w (.slice a l.length cap) l) (hl : l.length ≤ 4000000) :
    Calls Try.prog 40 #[.slice a l.length cap, .int .i64 id] w fun e w' => ((atI l id < 0 ∧ e = .returned (.pointer none)) ∨ ∃ k b off, atI l id = ((k : Nat) : Int) ∧ k < l.length ∧ a = some ⟨b, off, none⟩ ∧ e = .returned (.pointer (some ⟨b, off + k * 14, none⟩))) ∧ w' = w := by
  by_cases h0 : l.length = 0
  · have e : l = [] := List.length_eq_zero_iff.1 h0
    subst e
    have HX : Hid (atI [] id < 0) := hide (by rw [atI_eq (l := []) (id := id) (.inl ⟨rfl, fun j h => by simp at h⟩)]; omega)
    clear hr h0
    go_enter Try.func40, Try.ntmps40
    go_wp2
    refine wp_loop_rounds 1 ?_
    rw [rounds_succ]
    go_wp2
    go_ret
    exact ⟨.inl ⟨HX.out, rfl⟩, rfl⟩
  · obtain ⟨b, off, rfl, h3, hcell⟩ : ∃ b off, a = some ⟨b, off, none⟩ ∧ b < w.heap.size ∧ ∀ i (h : i < l.length), ∃ bv, BkAt w b (off + i * 14) l[i] bv ∧ RdK w l[i] bv := by
      rcases hr with ⟨a', cap', e, rfl, hn⟩ | ⟨b, off, cap', h0, e, h1, h2, h3, h4⟩
      · simp at h0
      · simp only [Value.slice.injEq] at e
        exact ⟨b, off, e.1, h3, h4⟩
    have H4 := hide hcell
    clear hcell h0 hr
    go_enter Try.func40, Try.ntmps40
    go_wp2
    go_loopw [8] (fun i wr => ∃ k : Nat, k ≤ l.length ∧ i = .int .i64 k ∧ (∀ j (h : j < l.length), j < k → l[j].id ≠ id) ∧ wr = w) (fun i _ => l.length - (intOf i).toNat)
    case atStart => exact ⟨0, Nat.zero_le _, rfl, fun j _ h => by omega, rfl⟩
    case round =>
      obtain ⟨k, hk, rfl, hno, rfl⟩ := hrel
      have Hno := hide hno
      clear hno
      by_cases hlt : k < l.length
      · obtain ⟨lv, hat, -⟩ := H4.out k hlt
        have c0 := hat.cells.1
        clear hat
        have hli : (k : Int) < (l.length : Int) := by omega
        by_cases he : l[k].id = id
        · have HX := hide (atI_eq (l := l) (id := id) (.inr ⟨k, hlt, rfl, he, Hno.out⟩))
          rw [he] at c0
          clear he
          go_wp2
          go_ret
          exact ⟨.inr ⟨k, b, off, HX.out, hlt, rfl, rfl⟩, rfl⟩
        · have HY : Hid (∀ j (h : j < l.length), j < k + 1 → l[j].id ≠ id) := hide (fun j h hj => by
            by_cases e : j = k
            · subst e; exact he
            · exact Hno.out j h (by omega))
          generalize l[k].id = d at c0 he
          go_wp2
          go_roundw
          case rel => exact ⟨k + 1, by omega, by go_num, HY.out, by first | trivial | rfl⟩
          case measure => simp [intOf]; omega
      · have HX : Hid (atI l id < 0) := hide (by rw [atI_eq (l := l) (id := id) (.inl ⟨rfl, fun j h => Hno.out j h (by omega)⟩)]; omega)
        go_wp2
        go_ret
        exact ⟨.inl ⟨HX.out, rfl⟩, rfl⟩
end Go.Proofs.Ytbjeonnaannofaa

namespace Go.Proofs.Ytbjeonnaannofaa
open Go.RowKit
set_option linter.unusedVariables false

theorem toList_inj5 {t : ByteArray} (h : t.toList = []) : t = ByteArray.empty := by
  rw [ByteArray.toList_eq] at h
  exact ByteArray.ext (Array.toList_inj.1 h)
set_option maxRecDepth 20000 in
set_option maxHeartbeats 2000000 in
theorem specTxOk_any (t : Tx5) (w : World) (hf : t.2.1.size ≤ maxLen) (ht : t.2.2.1.size ≤ maxLen) :
    Calls Try.prog 110 #[txV t] w fun e w' => e = .returned (.bool (txB t)) ∧ Below w.heap.size w w' := by
  obtain ⟨k, f, tO, am, no⟩ := t
  simp only [txV] at *
  obtain ⟨w0, hw0⟩ : ∃ w0, w.alloc (.cells #[.int .i64 k, .string f, .string tO, .int .i64 am, .int .i64 no] 94) = w0 := ⟨_, rfl⟩
  have HB : Hid (Below w.heap.size w w0) := hide (by rw [← hw0]; exact (Below.refl _ w).alloc (Nat.le_refl _) _)
  have hk : w0.heap[w.heap.size]? = some (.cells #[.int .i64 k, .string f, .string tO, .int .i64 am, .int .i64 no] 94 (0, 0)) := by rw [← hw0]; exact heap_alloc_new w _
  have k0 : w0.cell? ⟨w.heap.size, 0, none⟩ = some (.int .i64 k) := by simp [World.cell?, hk]
  have k1 : w0.cell? ⟨w.heap.size, 1, none⟩ = some (.string f) := by simp [World.cell?, hk]
  have k2 : w0.cell? ⟨w.heap.size, 2, none⟩ = some (.string tO) := by simp [World.cell?, hk]
  have k3 : w0.cell? ⟨w.heap.size, 3, none⟩ = some (.int .i64 am) := by simp [World.cell?, hk]
  have k4 : w0.cell? ⟨w.heap.size, 4, none⟩ = some (.int .i64 no) := by simp [World.cell?, hk]
  clear hk
  have Hx : Hid (txB (k, f, tO, am, no) = (nmB f && (inB am 1 1000000 && (inB no 0 10000 && (if k = 1 then nmB tO else (inB k 2 3 && decide (tO = ByteArray.empty))))))) := hide rfl
  generalize txB (k, f, tO, am, no) = X at Hx
  cases e0 : nmB f
  · rw [e0, Bool.false_and] at Hx
    go_enter Try.func110, Try.ntmps110
    go_wp2_with (first
      | (go_at_call 107; refine (specNameOk_any _ _ (by assumption)).mono ?_; rintro e w0 ⟨rfl, rfl⟩)
      | (go_at_call 106; refine (l1In_any _ _ _ _).mono ?_; rintro e w0 ⟨rfl, rfl⟩))
    go_ret
    exact ⟨ret_bool Hx.out.symm, HB.out⟩
  · cases e1 : inB am 1 1000000
    · rw [e0, e1, Bool.true_and, Bool.false_and] at Hx
      go_enter Try.func110, Try.ntmps110
      go_wp2_with (first
        | (go_at_call 107; refine (specNameOk_any _ _ (by assumption)).mono ?_; rintro e w0 ⟨rfl, rfl⟩)
        | (go_at_call 106; refine (l1In_any _ _ _ _).mono ?_; rintro e w0 ⟨rfl, rfl⟩))
      go_ret
      exact ⟨ret_bool Hx.out.symm, HB.out⟩
    · cases e2 : inB no 0 10000
      · rw [e0, e1, e2, Bool.true_and, Bool.true_and, Bool.false_and] at Hx
        go_enter Try.func110, Try.ntmps110
        go_wp2_with (first
          | (go_at_call 107; refine (specNameOk_any _ _ (by assumption)).mono ?_; rintro e w0 ⟨rfl, rfl⟩)
          | (go_at_call 106; refine (l1In_any _ _ _ _).mono ?_; rintro e w0 ⟨rfl, rfl⟩))
        go_ret
        exact ⟨ret_bool Hx.out.symm, HB.out⟩
      · rw [e0, e1, e2, Bool.true_and, Bool.true_and, Bool.true_and] at Hx
        by_cases hk1 : k = 1
        · rw [if_pos hk1] at Hx
          subst hk1
          go_enter Try.func110, Try.ntmps110
          go_wp2_with (first
            | (go_at_call 107; refine (specNameOk_any _ _ (by assumption)).mono ?_; rintro e w0 ⟨rfl, rfl⟩)
            | (go_at_call 106; refine (l1In_any _ _ _ _).mono ?_; rintro e w0 ⟨rfl, rfl⟩))
          go_ret
          exact ⟨ret_bool Hx.out.symm, HB.out⟩
        · rw [if_neg hk1] at Hx
          have hkb : (k == 1) = false := by rw [beq_eq_false_iff_ne]; exact hk1
          clear hk1
          cases e3 : inB k 2 3
          · rw [e3, Bool.false_and] at Hx
            go_enter Try.func110, Try.ntmps110
            go_wp2_with (first
              | (go_at_call 107; refine (specNameOk_any _ _ (by assumption)).mono ?_; rintro e w0 ⟨rfl, rfl⟩)
              | (go_at_call 106; refine (l1In_any _ _ _ _).mono ?_; rintro e w0 ⟨rfl, rfl⟩))
            go_ret
            exact ⟨ret_bool Hx.out.symm, HB.out⟩
          · by_cases e4 : tO = ByteArray.empty
            · rw [e3, decide_eq_true e4, Bool.true_and] at Hx
              subst e4
              go_enter Try.func110, Try.ntmps110
              go_wp2_with (first
                | (go_at_call 107; refine (specNameOk_any _ _ (by assumption)).mono ?_; rintro e w0 ⟨rfl, rfl⟩)
                | (go_at_call 106; refine (l1In_any _ _ _ _).mono ?_; rintro e w0 ⟨rfl, rfl⟩))
              go_ret
              exact ⟨ret_bool Hx.out.symm, HB.out⟩
            · rw [e3, decide_eq_false e4, Bool.true_and] at Hx
              have hne : tO.toList.isEmpty = false := by
                cases h : tO.toList.isEmpty
                · rfl
                · exact absurd (toList_inj5 (List.isEmpty_iff.1 h)) e4
              clear e4
              go_enter Try.func110, Try.ntmps110
              go_wp2_with (first
                | (go_at_call 107; refine (specNameOk_any _ _ (by assumption)).mono ?_; rintro e w0 ⟨rfl, rfl⟩)
                | (go_at_call 106; refine (l1In_any _ _ _ _).mono ?_; rintro e w0 ⟨rfl, rfl⟩))
              go_ret
              exact ⟨ret_bool Hx.out.symm, HB.out⟩
end Go.Proofs.Ytbjeonnaannofaa
