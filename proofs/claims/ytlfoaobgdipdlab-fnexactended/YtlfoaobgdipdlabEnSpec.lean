/- Whether an epoch has ended at a block of a tree: plainly, and by the model. -/
import Derived.Test.YtlfoaobgdipdlabTrChS
namespace Go.Proofs.Ytlfoaobgdipdlab
open Go.RowKit
set_option linter.unusedVariables false

/-- Whether the i-th is an End. -/
def enAt (l : List Bk) (i : Nat) : Bool := (l[i]?.map (·.en)).getD false
theorem enAt_eq {l : List Bk} {i : Nat} (h : i < l.length) : enAt l i = l[i].en := by simp [enAt, h]
/-- The places of a chain, where the list is a tree. -/
def chT (l : List Bk) (id : Int) : List Nat := if treeB l = true then chA l id else []
/-- What Ended answers. -/
def enB (l : List Bk) (id : Int) : Bool := (chT l id).any (enAt l)
theorem chT_co (l : List Bk) (id : Int) : coA l id = (chT l id).map (idAt l) := by
  unfold coA chT
  split <;> simp
theorem chT_lt (l : List Bk) (id : Int) : ∀ x ∈ chT l id, x < l.length := by
  intro x hx
  unfold chT at hx
  split at hx
  · rename_i h
    exact chA_lt (treeP_of h) id x hx
  · simp at hx
theorem chT_len (l : List Bk) (id : Int) : (chT l id).length ≤ l.length := by
  unfold chT
  split
  · rename_i h
    exact chA_len (treeP_of h) id
  · simp
theorem chT_at (l : List Bk) (id : Int) : ∀ x ∈ chT l id, atI l (idAt l x) = (x : Int) := by
  intro x hx
  have hlt := chT_lt l id x hx
  unfold chT at hx
  split at hx
  · rename_i h
    rw [idAt_eq hlt]
    exact atI_asc (tree_asc (treeP_of h)) hlt
  · simp at hx
theorem any_yes {C : List Nat} {f : Nat → Bool} {k : Nat} (hk : k < C.length) (h : f C[k] = true) : C.any f = true := by
  rw [List.any_eq_true]
  exact ⟨C[k], List.getElem_mem hk, h⟩
theorem any_no {C : List Nat} {f : Nat → Bool} (h : ∀ j (hj : j < C.length), f C[j] = false) : C.any f = false := by
  rw [List.any_eq_false]
  intro x hx
  obtain ⟨j, hj, rfl⟩ := List.mem_iff_getElem.1 hx
  simp [h j hj]
theorem no_next {C : List Nat} {f : Nat → Bool} {k : Nat} (hk : k < C.length) (hno : ∀ j (hj : j < C.length), j < k → f C[j] = false) (h : f C[k] = false) : ∀ j (hj : j < C.length), j < k + 1 → f C[j] = false := by
  intro j hj hjk
  by_cases e : j = k
  · subst e; exact h
  · exact hno j hj (by omega)
set_option maxRecDepth 20000 in
set_option maxHeartbeats 2000000 in
theorem specEndedC_any (v : Value) (l : List Bk) (id : Int) (w : World) (hr : RdKs w v l) (hl : l.length ≤ 4000000) (ht : treeP l) :
    Calls Try.prog 51 #[v, .int .i64 id] w fun e w' => e = .returned (.bool ((chA l id).any (enAt l))) ∧ Below w.heap.size w w' := by
  obtain ⟨a, cap, rfl⟩ := hr.shape
  have Hr := hide hr
  have HC := hide (specChain_any _ l id w hr hl ht)
  have hcl := chA_len ht id
  have Hclt := hide (chA_lt ht id)
  clear hr ht
  generalize chA l id = C at HC hcl Hclt ⊢
  obtain ⟨X, hX⟩ : ∃ X, C.any (enAt l) = X := ⟨_, rfl⟩
  rw [hX]
  have HXa := hide hX
  clear hX
  go_enter Try.func51, Try.ntmps51
  go_wp2_with fail
  refine HC.out.mono ?_
  rintro e w3 ⟨cv, rfl, oc, hb3⟩
  obtain ⟨ca, cc, rfl⟩ := oc.rd.shape
  have hlc : (C.map ofN).length = C.length := by simp
  rw [hlc] at oc ⊢
  have Hoc := hide oc.rd
  clear oc hlc HC
  go_wp2
  go_loopw [6] (fun iv wr => ∃ k : Nat, k ≤ C.length ∧ iv = .int .i64 (k : Int) ∧ (∀ j (h : j < C.length), j < k → enAt l C[j] = false) ∧ wr = w3) (fun iv _ => C.length - (intOf iv).toNat)
  case atStart => exact ⟨0, Nat.zero_le _, rfl, fun j _ h => by omega, rfl⟩
  case round =>
    obtain ⟨k, hk, rfl, hno, rfl⟩ := hrel
    have Hno := hide hno
    clear hno
    by_cases hlt : k < C.length
    · obtain ⟨b2, off2, rfl, h32, cc0⟩ := RdI.cellI Hoc.out (by simp) (k := k) (by simpa using hlt)
      rw [List.getElem_map] at cc0
      have hCk := Hclt.out C[k] (List.getElem_mem hlt)
      obtain ⟨b, off, rfl, h3, hcell⟩ := Hr.out.parts9 (by omega)
      obtain ⟨lv, hat, -⟩ := hcell C[k] hCk
      have c11 := (hat.below hb3 h3).cells.2.2.2.2.2.2.2.2.2.2.2.1
      have HE := hide (enAt_eq hCk)
      have HY := hide (fun h => any_yes (f := enAt l) hlt h)
      have HN := hide (fun h => no_next (f := enAt l) hlt Hno.out h)
      generalize l[C[k]].en = d at c11 HE
      have hki : (k : Int) < (C.length : Int) := by omega
      have hk0 : (0 : Int) ≤ (k : Int) := by omega
      generalize hj : C[k] = j at cc0 c11 hCk HE HY HN
      simp only [ofN] at cc0
      have hji : (j : Int) < (l.length : Int) := by omega
      have hj0 : (0 : Int) ≤ (j : Int) := by omega
      clear hj hat hcell Hno
      cases d
      · go_wp2
        go_roundw
        case rel => exact ⟨k + 1, by omega, by go_num, HN.out HE.out, by first | trivial | rfl⟩
        case measure => simp [intOf]; omega
      · go_wp2
        go_ret
        exact ⟨ret_bool (by rw [← HXa.out, HY.out HE.out]), hb3⟩
    · have HZ : Hid (X = false) := hide (by rw [← HXa.out]; exact any_no (fun j hj => Hno.out j hj (by omega)))
      go_wp2
      go_ret
      exact ⟨ret_bool HZ.out.symm, hb3⟩
set_option maxRecDepth 20000 in
set_option maxHeartbeats 2000000 in
theorem specEnded_any (v : Value) (l : List Bk) (id : Int) (w : World) (hr : RdKs w v l) (hl : l.length ≤ 4000000) (hf : ∀ b ∈ l, FewK b) (hbd : ∀ b ∈ l, -9223372036854775808 ≤ b.tr ∧ b.tr ≤ 9223372036854775807) :
    Calls Try.prog 16 #[v, .int .i64 id] w fun e w' => e = .returned (.bool (enB l id)) ∧ Below w.heap.size w w' := by
  obtain ⟨a, cap, rfl⟩ := hr.shape
  have HT := hide (specTreeOk_any _ l w hr hl hf hbd)
  have HC := hide (fun (ht : treeP l) V (hV : Below w.heap.size w V) => specEndedC_any _ l id V (hr.below hV (Nat.le_refl _)) hl ht)
  have HX : Hid (enB l id = (if treeB l = true then chA l id else []).any (enAt l)) := hide rfl
  generalize enB l id = X at HX ⊢
  clear hr hf hbd
  go_enter Try.func16, Try.ntmps16
  go_wp2_with fail
  refine HT.out.mono ?_
  rintro e w2 ⟨rfl, hb2⟩
  cases htb : treeB l
  · rw [htb, if_neg (by simp)] at HX
    clear htb HC HT
    go_wp2
    go_ret
    exact ⟨ret_bool HX.out.symm, hb2⟩
  · rw [htb, if_pos rfl] at HX
    have HC2 := hide (HC.out (treeP_of htb) w2 hb2)
    rw [← HX.out] at HC2
    clear htb HC HT HX
    go_wp2_with fail
    refine HC2.out.mono ?_
    rintro e w3 ⟨rfl, hb3⟩
    have HB3 := hide (hb2.trans (hb3.mono hb2.size))
    clear hb3 HC2
    go_wp2
    go_ret
    exact ⟨rfl, HB3.out⟩
end Go.Proofs.Ytlfoaobgdipdlab
