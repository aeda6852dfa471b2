/- Whether an epoch has ended at a block of a tree: plainly, and by the model. The ledger at a place of a tree: plainly, and by the model. -/
import Derived.Test.YtggkonpboahdeaaGreatDoorZlTrChS
import Derived.Test.YtggkonpboahdeaaGreatDoorZlLgAllS
import Derived.Deep.RegionLaw
namespace Go.Proofs.YtggkonpboahdeaaGreatDoor
open Go.RowKit
set_option linter.unusedVariables false

/-- Whether the i-th is an End. -/
def enAt (l : List Bk) (i : Nat) : Bool := (l[i]?.map (·.en)).getD false
theorem enAt_eq {l : List Bk} {i : Nat} (h : i < l.length) : enAt l i = l[i].en := by simp [enAt, h]
/-- The places of a chain, where the list is a tree. -/
def chT (l : List Bk) (id : Int) : List Nat := if treeB l = true then chA l id else []
/-- What Ended answers. -/
def enB (l : List Bk) (id : Int) : Bool := (chT l id).any (enAt l)
theorem chT_co (l : List Bk) (id : Int) : coA l id = (chT l id).map (idAt l) := by
  unfold coA chT
  split <;> simp
theorem chT_lt (l : List Bk) (id : Int) : ∀ x ∈ chT l id, x < l.length := by
  intro x hx
  unfold chT at hx
  split at hx
  · rename_i h
    exact chA_lt (treeP_of h) id x hx
  · simp at hx
theorem chT_len (l : List Bk) (id : Int) : (chT l id).length ≤ l.length := by
  unfold chT
  split
  · rename_i h
    exact chA_len (treeP_of h) id
  · simp
theorem chT_at (l : List Bk) (id : Int) : ∀ x ∈ chT l id, atI l (idAt l x) = (x : Int) := by
  intro x hx
  have hlt := chT_lt l id x hx
  unfold chT at hx
  split at hx
  · rename_i h
    rw [idAt_eq hlt]
    exact atI_asc (tree_asc (treeP_of h)) hlt
  · simp at hx
theorem any_yes {C : List Nat} {f : Nat → Bool} {k : Nat} (hk : k < C.length) (h : f C[k] = true) : C.any f = true := by
  rw [List.any_eq_true]
  exact ⟨C[k], List.getElem_mem hk, h⟩
theorem any_no {C : List Nat} {f : Nat → Bool} (h : ∀ j (hj : j < C.length), f C[j] = false) : C.any f = false := by
  rw [List.any_eq_false]
  intro x hx
  obtain ⟨j, hj, rfl⟩ := List.mem_iff_getElem.1 hx
  simp [h j hj]
theorem no_next {C : List Nat} {f : Nat → Bool} {k : Nat} (hk : k < C.length) (hno : ∀ j (hj : j < C.length), j < k → f C[j] = false) (h : f C[k] = false) : ∀ j (hj : j < C.length), j < k + 1 → f C[j] = false := by
  intro j hj hjk
  by_cases e : j = k
  · subst e; exact h
  · exact hno j hj (by omega)
end Go.Proofs.YtggkonpboahdeaaGreatDoor

namespace Go.Proofs.YtggkonpboahdeaaGreatDoor
open Go.RowKit
set_option linter.unusedVariables false

/-- The orders of the i-th block. -/
def tsAt (l : List Bk) (i : Nat) : List Tx5 := (l[i]?.map (·.ts)).getD []
theorem tsAt_eq {l : List Bk} {i : Nat} (h : i < l.length) : tsAt l i = l[i].ts := by simp [tsAt, h]
/-- The accounts behind the blocks of these places. -/
def foL (e : Int) (z : List Ac) (l : List Bk) (C : List Nat) : List Ac := C.foldl (fun P i => (alA e P (tsAt l i)).1) z
theorem foL_snoc (e : Int) (z : List Ac) (l : List Bk) (C : List Nat) (k : Nat) (h : k < C.length) : foL e z l (C.take (k + 1)) = (alA e (foL e z l (C.take k)) (tsAt l C[k])).1 := by
  rw [List.take_succ_eq_append_getElem h]
  unfold foL
  rw [List.foldl_append]
  rfl
theorem foL_few {e : Int} (l : List Bk) : ∀ (C : List Nat) (z : List Ac), z.length ≤ 3999999 → (∀ a ∈ z, a.1.size ≤ maxLen ∧ a.2.2.2.2.length ≤ 3999999) →
    (foL e z l C).length ≤ 3999999 ∧ ∀ a ∈ foL e z l C, a.1.size ≤ maxLen ∧ a.2.2.2.2.length ≤ 3999999
  | [], z, h1, h2 => ⟨h1, h2⟩
  | i :: C, z, h1, h2 => by
    have h := alA_few (e := e) (tsAt l i) h1 h2
    exact foL_few l C _ h.1 h.2
theorem foL_is (e : Int) (l : List Bk) : ∀ (C : List Nat) (z : List Ac), foL e z l C = z ∨ acsB (foL e z l C) = true
  | [], z => .inl rfl
  | i :: C, z => by
    rcases foL_is e l C (alA e z (tsAt l i)).1 with h | h
    · rcases alS_is e (tsAt l i) (z, 0) with h1 | h1
      · exact .inl (h.trans h1)
      · refine .inr ?_
        show acsB (foL e (alA e z (tsAt l i)).1 l C) = true
        rw [h]; exact h1
    · exact .inr h
/-- What LedgerAt answers: the accounts, and whether the place is there. -/
def laA (e : Int) (z : List Ac) (l : List Bk) (id : Int) : List Ac × Bool :=
  if id = -1 then (z, true) else if (treeB l && decide (0 ≤ atI l id)) = true then (foL e z l (chA l id), true) else (z, false)
theorem chT_pos (l : List Bk) (id : Int) : decide (0 < (chT l id).length) = (treeB l && decide (0 ≤ atI l id)) := by
  unfold chT
  cases htb : treeB l
  · simp
  · rw [if_pos rfl, Bool.true_and]
    by_cases h : atI l id < 0
    · rw [chA_none h]
      have : ¬ 0 ≤ atI l id := by omega
      simp [this]
    · have h2 : 0 ≤ atI l id := by omega
      rw [chA, if_neg h, decide_eq_true h2, decide_eq_true]
      rw [List.length_reverse]
      exact up_pos _
/-- What LedgerAt answers elsewhere than at the root. -/
theorem laA_ch {e : Int} {z : List Ac} {l : List Bk} {id : Int} (h : id ≠ -1) : laA e z l id = (foL e z l (chT l id), decide (0 < (chT l id).length)) := by
  have hp := chT_pos l id
  unfold laA
  rw [if_neg h, ← hp]
  by_cases h0 : 0 < (chT l id).length
  · rw [decide_eq_true h0, if_pos rfl]
    rw [decide_eq_true h0] at hp
    have ht : treeB l = true := by
      cases htb : treeB l
      · rw [htb] at hp; simp at hp
      · rfl
    have e1 : chT l id = chA l id := by unfold chT; rw [if_pos ht]
    rw [e1]
  · rw [decide_eq_false h0, if_neg (by simp)]
    have e1 : chT l id = [] := List.length_eq_zero_iff.1 (by omega)
    rw [e1]; rfl
theorem laA_few {e : Int} {z : List Ac} (l : List Bk) (id : Int) (h1 : z.length ≤ 3999999) (h2 : ∀ a ∈ z, a.1.size ≤ maxLen ∧ a.2.2.2.2.length ≤ 3999999) :
    (laA e z l id).1.length ≤ 3999999 ∧ ∀ a ∈ (laA e z l id).1, a.1.size ≤ maxLen ∧ a.2.2.2.2.length ≤ 3999999 := by
  unfold laA
  split
  · exact ⟨h1, h2⟩
  · split
    · exact foL_few l _ z h1 h2
    · exact ⟨h1, h2⟩
theorem laA_is (e : Int) (z : List Ac) (l : List Bk) (id : Int) : (laA e z l id).1 = z ∨ acsB (laA e z l id).1 = true := by
  unfold laA
  split
  · exact .inl rfl
  · split
    · exact foL_is e l _ z
    · exact .inl rfl
set_option maxRecDepth 20000 in
set_option maxHeartbeats 4000000 in
theorem specL11At_any (e : Int) (v vl : Value) (z : List Ac) (l : List Bk) (id : Int) (w : World) (hr : RdA w v z) (hrl : RdKs w vl l) (hz : z.length ≤ 3999999) (hall : ∀ a ∈ z, a.1.size ≤ maxLen ∧ a.2.2.2.2.length ≤ 3999999) (hl : l.length ≤ 4000000) (hf : ∀ b ∈ l, FewK b) (ht : treeP l) :
    Calls Tryz.prog 20 #[lgV e v, vl, .int .i64 id] w fun en w' => ∃ v', en = .returned (lgV e v') ∧ OwnA w.heap.size w' v' (foL e z l (chA l id)) ∧ Below w.heap.size w w' := by
  obtain ⟨av, cv, rfl⟩ := hr.shape
  have hall2 : ∀ a ∈ z, a.2.2.2.2.length ≤ 4000000 := fun a ha => by have := hall a ha; omega
  have Hfew := hide (fun k C => foL_few (e := e) l (List.take k C) z hz hall)
  simp only [lgV] at *
  obtain ⟨w2, hw2⟩ : ∃ w2, (w.alloc (.cells #[.int .i64 e, .slice av z.length cv] 30)).alloc (.cells #[.int .i64 0, .slice none 0 0] 30) = w2 := ⟨_, rfl⟩
  have hs2 : w2.heap.size = w.heap.size + 2 := by rw [← hw2]; simp
  have hb2 : Below w.heap.size w w2 := by rw [← hw2]; exact ((Below.refl _ w).alloc (Nat.le_refl _) _).alloc (by simp) _
  have kA : Blk w2 w.heap.size 30 [.int .i64 e, .slice av z.length cv] := by
    rw [← hw2]
    exact (Blk.new w 30 [.int .i64 e, .slice av z.length cv]).below ((Below.refl (w.heap.size + 1) _).alloc (by simp) _) (by omega)
  have kR : Blk w2 (w.heap.size + 1) 30 [.int .i64 0, .slice none 0 0] := by
    rw [← hw2]
    have h := Blk.new (w.alloc (.cells #[.int .i64 e, .slice av z.length cv] 30)) 30 [.int .i64 0, .slice none 0 0]
    simp only [World.size_alloc] at h
    exact h
  have HC := hide (specL6Copy_any e (.slice av z.length cv) z w2 (hr.below hb2 (Nat.le_refl _)) (by omega) hall2)
  simp only [lgV] at HC
  have Hf := hide hf
  have Hb2 := hide hb2
  have KR := hide kR
  have c0 := kA.cell 0
  have c1 := kA.cell 1
  simp only [List.getElem?_cons_zero, List.getElem?_cons_succ] at c0 c1
  obtain ⟨al, cl, rfl⟩ := hrl.shape
  have Hrl := hide hrl
  have HCh := hide (fun V (hV : Below w.heap.size w V) => specChain_any (.slice al l.length cl) l id V (hrl.below hV (Nat.le_refl _)) hl ht)
  have hcl := chA_len ht id
  have Hclt := hide (chA_lt ht id)
  clear ht
  generalize chA l id = C at HCh hcl Hclt ⊢
  clear hr hrl hf hall hall2 hb2 kA kR
  go_enter Tryz.func20, Tryz.ntmps20
  go_wp2_with fail
  refine HC.out.mono ?_
  rintro en w3 ⟨v3, rfl, o3, hb3⟩
  obtain ⟨a3, c3, rfl⟩ := o3.rd.shape
  obtain ⟨w4, hw4⟩ : ∃ w4, w3.alloc (.cells #[.int .i64 e, .slice a3 z.length c3] 30) = w4 := ⟨_, rfl⟩
  have b4 : Below w3.heap.size w3 w4 := by rw [← hw4]; exact (Below.refl _ w3).alloc (Nat.le_refl _) _
  have k4 : Blk w4 w3.heap.size 30 [.int .i64 e, .slice a3 z.length c3] := by rw [← hw4]; exact Blk.new w3 _ _
  have s4 : w4.heap.size = w3.heap.size + 1 := by rw [← hw4]; simp
  have x4 := o3.ox.below b4 (Nat.le_refl _)
  have hB4 := hb3.trans (b4.mono hb3.size)
  have hz3 := hb3.size
  clear o3 hb3 b4 c0 c1 hw2 HC
  go_wp2_with fail
  refine (HCh.out w4 (Hb2.out.trans (hB4.mono Hb2.out.size))).mono ?_
  rintro en w5 ⟨cv5, rfl, oc, hb5⟩
  obtain ⟨ca, cc, rfl⟩ := oc.rd.shape
  have hlc : (C.map ofN).length = C.length := by simp
  rw [hlc] at oc ⊢
  have Hoc := hide oc
  have K5 := hide (k4.below hb5 k4.lt)
  have X5 := hide (x4.below hb5 (Nat.le_refl _))
  have B5 := hide (hB4.trans (hb5.mono hB4.size))
  have hz5 := hb5.size
  clear oc hlc HCh k4 x4 hB4 hb5
  go_wp2
  go_loopw [9] (fun iv wr => ∃ (i : Nat) (a : Option Addr) (c base hi : Nat), i ≤ C.length ∧ iv = .int .i64 (i : Int) ∧ Blk wr w3.heap.size 30 [.int .i64 e, .slice a (foL e z l (C.take i)).length c] ∧ OwnX base hi wr (.slice a (foL e z l (C.take i)).length c) (foL e z l (C.take i)) ∧ w2.heap.size ≤ base ∧ (w3.heap.size < base ∨ hi ≤ w3.heap.size) ∧ Below w2.heap.size w2 wr ∧ OwnI w4.heap.size wr (.slice ca C.length cc) (C.map ofN)) (fun iv _ => C.length - (intOf iv).toNat)
  case atStart => exact ⟨0, a3, c3, w2.heap.size, w3.heap.size, by omega, rfl, K5.out, X5.out, Nat.le_refl _, .inr (Nat.le_refl _), B5.out, Hoc.out⟩
  case round =>
    obtain ⟨i, a, c, base, hi, hi1, rfl, kO, x, hbase, hdis, hb, hoc⟩ := hrel
    clear K5 X5 B5 hw4 Hoc
    have hwr := hb.size
    have hO := kO.lt
    have hBw := Hb2.out.trans (hb.mono Hb2.out.size)
    have few := Hfew.out i C
    by_cases hlt : i < C.length
    · have Hsn := hide (foL_snoc e z l C i hlt)
      have hCk := Hclt.out C[i] (List.getElem_mem hlt)
      obtain ⟨b2, off2, rfl, h32, cc0⟩ := RdI.cellI hoc.rd (by simp) (k := i) (by simpa using hlt)
      rw [List.getElem_map] at cc0
      obtain ⟨b, off, rfl, h3, hcell⟩ := Hrl.out.parts9 (by omega)
      obtain ⟨lv, hat, hrk⟩ := hcell C[i] hCk
      have hfk := Hf.out l[C[i]] (List.getElem_mem hCk)
      have ct := (hat.below hBw h3).cells.2.2.2.2.2.2.2.2.2.2.1
      have hrt := hrk.t
      obtain ⟨ta, tc, hte⟩ := hrt.shape
      rw [hte] at ct hrt
      rw [tsAt_eq hCk] at Hsn
      generalize foL e z l (C.take i) = P at kO x few Hsn
      have HAl : Hid (∀ V, Below wr.heap.size wr V → Calls Tryz.prog 44 #[.agg #[.int .i64 e, .slice a P.length c], .slice ta l[C[i]].ts.length tc] V fun en w' => ∃ v', en = .returned (.tuple #[.agg #[.int .i64 e, v'], .int .i64 ((alA e P l[C[i]].ts).2 : Int)]) ∧ OwnA V.heap.size w' v' (alA e P l[C[i]].ts).1 ∧ Below wr.heap.size wr w' ∧ wr.heap.size ≤ V.heap.size) := hide (fun V hV => (specAll_any e (.slice a P.length c) (.slice ta l[C[i]].ts.length tc) P l[C[i]].ts V (x.rd.below hV (Nat.le_refl _)) (hrt.below (hBw.trans (hV.mono hBw.size)) (Nat.le_refl _)) few.1 few.2 hfk.t hfk.ts).mono (fun en w' ⟨v', h1, h2, h3⟩ => ⟨v', h1, h2, hV.trans (h3.mono hV.size), hV.size⟩))
      have d0 := kO.cell 0
      have d1 := kO.cell 1
      simp only [List.getElem?_cons_zero, List.getElem?_cons_succ] at d0 d1
      have KO := hide kO
      have Hb := hide hb
      have Hoc := hide hoc
      have hki : (i : Int) < (C.length : Int) := by omega
      have hk0 : (0 : Int) ≤ (i : Int) := by omega
      generalize l[C[i]].ts = ts at HAl ct Hsn hrt
      generalize C[i] = j at cc0 ct hCk
      simp only [ofN] at cc0
      generalize hAA : alA e P ts = AA at HAl Hsn
      obtain ⟨A, nA⟩ := AA
      simp only at HAl Hsn
      have hji : (j : Int) < (l.length : Int) := by omega
      have hj0 : (0 : Int) ≤ (j : Int) := by omega
      clear hAA hat hrk hcell hfk hte hrt kO x few hb hoc hBw
      go_upto_region 6 with fail
      go_region_law ((go_simp; go_at_call 44; refine (HAl.out _ (by first | exact Below.refl _ _ | exact (Below.refl _ _).drew)).mono ?_; rintro en wA ⟨vA, rfl, oA, bA, zA⟩; have hsh := oA.rd.shape; obtain ⟨aA, cA, hvA⟩ := hsh; subst hvA; have kA := KO.out.below bA KO.out.lt; have q0 := kA.cell 0; have q1 := kA.cell 1; have f0 := kA.frozen 0; have f1 := kA.frozen 1; simp only [List.getElem?_cons_zero, List.getElem?_cons_succ] at q0 q1))
      all_goals
        have kN := (kA.set 0 (.int .i64 e)).set 1 (.slice aA A.length cA)
        have oN := (oA.older (g := w3.heap.size) (by omega) 0 (.int .i64 e)).older (g := w3.heap.size) (by omega) 1 (.slice aA A.length cA)
        have bN := ((Hb.out.trans (bA.mono hwr)).setCell (p := ⟨w3.heap.size, 0, none⟩) (show w2.heap.size ≤ w3.heap.size by omega) (.int .i64 e)).setCell (p := ⟨w3.heap.size, 1, none⟩) (show w2.heap.size ≤ w3.heap.size by omega) (.slice aA A.length cA)
        have hne : ∀ k, (Value.slice (some ⟨b2, off2, none⟩) C.length cc).ownBlock = some k → k ≠ w3.heap.size := fun k hk => by have := Hoc.out.ge k hk; omega
        have cN := row_set (row_set (Hoc.out.below bA (Nat.le_refl _)) w3.heap.size 0 (.int .i64 e) hne) w3.heap.size 1 (.slice aA A.length cA) hne
        simp only [List.set_cons_zero, List.set_cons_succ] at kN
        have KN := hide kN
        have XN := hide oN.ox
        have BN := hide bN
        have CN := hide cN
        clear kA kN oA oN bA bN cN hne
        go_wp2
        go_roundw
        case rel => exact ⟨i + 1, aA, cA, _, _, by omega, by go_num, by rw [Hsn.out]; exact KN.out, by rw [Hsn.out]; exact XN.out, by omega, .inl (by omega), BN.out, CN.out⟩
        case measure => simp [intOf]; omega
    · obtain rfl : i = C.length := by omega
      rw [List.take_length] at kO x
      have d0 := kO.cell 0
      have d1 := kO.cell 1
      simp only [List.getElem?_cons_zero, List.getElem?_cons_succ] at d0 d1
      have kR := KR.out.below hb KR.out.lt
      have r0 := kR.cell 0
      have r1 := kR.cell 1
      have g0 := kR.frozen 0
      have g1 := kR.frozen 1
      simp only [List.getElem?_cons_zero, List.getElem?_cons_succ] at r0 r1
      have HBx := hide ((hBw.setCell (p := ⟨w.heap.size + 1, 0, none⟩) (show w.heap.size ≤ w.heap.size + 1 by omega) (.int .i64 e)).setCell (p := ⟨w.heap.size + 1, 1, none⟩) (show w.heap.size ≤ w.heap.size + 1 by omega) (.slice a (foL e z l C).length c))
      have HOx := hide (((x.own.older (g := w.heap.size + 1) (by omega) 0 (.int .i64 e)).older (g := w.heap.size + 1) (by omega) 1 (.slice a (foL e z l C).length c)).mono (show w.heap.size ≤ _ by omega))
      clear kO x kR hb hBw few hoc
      obtain ⟨P, hP⟩ : ∃ P, foL e z l C = P := ⟨_, rfl⟩
      rw [hP] at d1 HBx HOx
      have HPe := hide hP
      clear hP
      go_wp2
      refine bodyPost_ret (v := .agg #[.int .i64 e, .slice a P.length c]) (by simp [results, Tryz.f20, go_sem, r0, r1]) rfl ?_
      exact ⟨_, rfl, by rw [HPe.out]; exact HOx.out, HBx.out⟩
set_option maxRecDepth 20000 in
set_option maxHeartbeats 4000000 in
theorem specLedgerAt_any (e : Int) (v vl : Value) (z : List Ac) (l : List Bk) (id : Int) (w : World) (hr : RdA w v z) (hrl : RdKs w vl l) (hz : z.length ≤ 3999999) (hall : ∀ a ∈ z, a.1.size ≤ maxLen ∧ a.2.2.2.2.length ≤ 3999999) (hl : l.length ≤ 4000000) (hf : ∀ b ∈ l, FewK b) (hbd : ∀ b ∈ l, -9223372036854775808 ≤ b.tr ∧ b.tr ≤ 9223372036854775807) :
    Calls Tryz.prog 6 #[lgV e v, vl, .int .i64 id] w fun en w' => ∃ v', en = .returned (.tuple #[lgV e v', .bool (laA e z l id).2]) ∧ OwnA w.heap.size w' v' (laA e z l id).1 ∧ Below w.heap.size w w' := by
  obtain ⟨av, cv, rfl⟩ := hr.shape
  obtain ⟨al, cl, rfl⟩ := hrl.shape
  have hall2 : ∀ a ∈ z, a.2.2.2.2.length ≤ 4000000 := fun a ha => by have := hall a ha; omega
  obtain ⟨w2, hw2⟩ : ∃ w2, (w.alloc (.cells #[.int .i64 e, .slice av z.length cv] 30)).alloc (.cells #[.int .i64 0, .slice none 0 0] 30) = w2 := ⟨_, rfl⟩
  have hs2 : w2.heap.size = w.heap.size + 2 := by rw [← hw2]; simp
  have hb2 : Below w.heap.size w w2 := by rw [← hw2]; exact ((Below.refl _ w).alloc (Nat.le_refl _) _).alloc (by simp) _
  have kA : Blk w2 w.heap.size 30 [.int .i64 e, .slice av z.length cv] := by
    rw [← hw2]
    exact (Blk.new w 30 [.int .i64 e, .slice av z.length cv]).below ((Below.refl (w.heap.size + 1) _).alloc (by simp) _) (by omega)
  have kR : Blk w2 (w.heap.size + 1) 30 [.int .i64 0, .slice none 0 0] := by
    rw [← hw2]
    have h := Blk.new (w.alloc (.cells #[.int .i64 e, .slice av z.length cv] 30)) 30 [.int .i64 0, .slice none 0 0]
    simp only [World.size_alloc] at h
    exact h
  have HC := hide (fun V (hV : Below w.heap.size w V) => specL6Copy_any e (.slice av z.length cv) z V (hr.below hV (Nat.le_refl _)) (by omega) hall2)
  have HT := hide (fun V (hV : Below w.heap.size w V) => specTreeOk_any (.slice al l.length cl) l V (hrl.below hV (Nat.le_refl _)) hl hf hbd)
  have HA := hide (fun V (hV : Below w.heap.size w V) => specAt_any (.slice al l.length cl) l id V (hrl.below hV (Nat.le_refl _)) hl)
  have HL := hide (fun ht V (hV : Below w.heap.size w V) => specL11At_any e (.slice av z.length cv) (.slice al l.length cl) z l id V (hr.below hV (Nat.le_refl _)) (hrl.below hV (Nat.le_refl _)) hz hall hl hf ht)
  have HP : Hid (∀ (P : List Ac) (q : Bool), laA e z l id = (P, q) → ∀ v' w', OwnA w.heap.size w' v' P → Below w.heap.size w w' → ∃ v'', (Ending.returned (.tuple #[.agg #[.int .i64 e, v'], .bool q]) = .returned (.tuple #[.agg #[.int .i64 e, v''], .bool (laA e z l id).2])) ∧ OwnA w.heap.size w' v'' (laA e z l id).1 ∧ Below w.heap.size w w') := hide (fun P q h v' w' ho hb => ⟨v', by rw [h], by rw [h]; exact ho, hb⟩)
  simp only [lgV] at HC HL ⊢
  have KR := hide kR
  have KA := hide kA
  have Hb2 := hide hb2
  have c0 := kA.cell 0
  have c1 := kA.cell 1
  simp only [List.getElem?_cons_zero, List.getElem?_cons_succ] at c0 c1
  clear hr hrl hall hall2 hf hbd hb2 kA kR
  by_cases hid : id = -1
  · subst hid
    go_enter Tryz.func6, Tryz.ntmps6
    go_wp2_with fail
    refine (HC.out w2 Hb2.out).mono ?_
    rintro en w3 ⟨v3, rfl, o3, hb3⟩
    have hB3 := Hb2.out.trans (hb3.mono Hb2.out.size)
    have kR3 := KR.out.below hb3 KR.out.lt
    clear c0 c1
    have r0 := kR3.cell 0
    have r1 := kR3.cell 1
    have g0 := kR3.frozen 0
    have g1 := kR3.frozen 1
    simp only [List.getElem?_cons_zero, List.getElem?_cons_succ] at r0 r1
    obtain ⟨aN, cN, hvN⟩ := o3.rd.shape
    subst hvN
    have HBx := hide ((hB3.setCell (p := ⟨w.heap.size + 1, 0, none⟩) (show w.heap.size ≤ w.heap.size + 1 by omega) (.int .i64 e)).setCell (p := ⟨w.heap.size + 1, 1, none⟩) (show w.heap.size ≤ w.heap.size + 1 by omega) (.slice aN z.length cN))
    have HOx := hide (((o3.older (g := w.heap.size + 1) (by omega) 0 (.int .i64 e)).older (g := w.heap.size + 1) (by omega) 1 (.slice aN z.length cN)).mono (show w.heap.size ≤ _ by omega))
    have HE := hide (show laA e z l (-1) = (z, true) from by unfold laA; rw [if_pos rfl])
    clear o3
    go_wp2
    refine bodyPost_ret (v := .tuple #[.agg #[.int .i64 e, .slice aN z.length cN], .bool (true)]) (by simp [results, Tryz.f6, go_sem, r0, r1]) rfl ?_
    exact HP.out z (true) HE.out _ _ HOx.out HBx.out
  · have hq : (id == -1) = false := by rw [beq_eq_false_iff_ne]; exact hid
    have Hid1 := hide hid
    clear hid
    go_enter Tryz.func6, Tryz.ntmps6
    go_wp2_with fail
    refine (HT.out w2 Hb2.out).mono ?_
    rintro en w3 ⟨rfl, hb3⟩
    have hB3 := Hb2.out.trans (hb3.mono Hb2.out.size)
    have kR3 := KR.out.below hb3 KR.out.lt
    have kA3 := KA.out.below hb3 KA.out.lt
    have s3 := hb3.size
    clear c0 c1 HT
    have c0 := kA3.cell 0
    have c1 := kA3.cell 1
    simp only [List.getElem?_cons_zero, List.getElem?_cons_succ] at c0 c1
    cases htb : treeB l
    · have HF : Hid (laA e z l id = (z, false)) := hide (by unfold laA; rw [if_neg Hid1.out, htb, if_neg (by simp)])
      clear htb HA HL
      go_wp2_with fail
      refine (HC.out w3 hB3).mono ?_
      rintro en w4 ⟨v4, rfl, o4, hb4⟩
      have hB4 := hB3.trans (hb4.mono hB3.size)
      have kR4 := kR3.below hb4 kR3.lt
      clear c0 c1
      have r0 := kR4.cell 0
      have r1 := kR4.cell 1
      have g0 := kR4.frozen 0
      have g1 := kR4.frozen 1
      simp only [List.getElem?_cons_zero, List.getElem?_cons_succ] at r0 r1
      obtain ⟨aN, cN, hvN⟩ := o4.rd.shape
      subst hvN
      have HBx := hide ((hB4.setCell (p := ⟨w.heap.size + 1, 0, none⟩) (show w.heap.size ≤ w.heap.size + 1 by omega) (.int .i64 e)).setCell (p := ⟨w.heap.size + 1, 1, none⟩) (show w.heap.size ≤ w.heap.size + 1 by omega) (.slice aN z.length cN))
      have HOx := hide (((o4.older (g := w.heap.size + 1) (by omega) 0 (.int .i64 e)).older (g := w.heap.size + 1) (by omega) 1 (.slice aN z.length cN)).mono (show w.heap.size ≤ _ by omega))
      have HE := hide (show laA e z l id = (z, false) from HF.out)
      clear o4
      go_wp2
      refine bodyPost_ret (v := .tuple #[.agg #[.int .i64 e, .slice aN z.length cN], .bool (false)]) (by simp [results, Tryz.f6, go_sem, r0, r1]) rfl ?_
      exact HP.out z (false) HE.out _ _ HOx.out HBx.out
    · have ht := treeP_of htb
      have HLt := hide (HL.out ht)
      have HF : Hid (laA e z l id = (if 0 ≤ atI l id then (foL e z l (chA l id), true) else (z, false))) := hide (by
        unfold laA
        rw [if_neg Hid1.out, htb, Bool.true_and]
        by_cases h : 0 ≤ atI l id
        · rw [decide_eq_true h, if_pos rfl, if_pos h]
        · rw [decide_eq_false h, if_neg (by simp), if_neg h])
      clear htb HL
      go_wp2_with fail
      refine (HA.out w3 hB3).mono ?_
      rintro en w4 ⟨rfl, rfl⟩
      by_cases hat : atI l id < 0
      · rw [if_neg (by omega)] at HF
        clear HLt HA
        go_wp2_with fail
        refine (HC.out w4 hB3).mono ?_
        rintro en w5 ⟨v5, rfl, o5, hb5⟩
        have hB5 := hB3.trans (hb5.mono hB3.size)
        have kR5 := kR3.below hb5 kR3.lt
        clear c0 c1
        have r0 := kR5.cell 0
        have r1 := kR5.cell 1
        have g0 := kR5.frozen 0
        have g1 := kR5.frozen 1
        simp only [List.getElem?_cons_zero, List.getElem?_cons_succ] at r0 r1
        obtain ⟨aN, cN, hvN⟩ := o5.rd.shape
        subst hvN
        have HBx := hide ((hB5.setCell (p := ⟨w.heap.size + 1, 0, none⟩) (show w.heap.size ≤ w.heap.size + 1 by omega) (.int .i64 e)).setCell (p := ⟨w.heap.size + 1, 1, none⟩) (show w.heap.size ≤ w.heap.size + 1 by omega) (.slice aN z.length cN))
        have HOx := hide (((o5.older (g := w.heap.size + 1) (by omega) 0 (.int .i64 e)).older (g := w.heap.size + 1) (by omega) 1 (.slice aN z.length cN)).mono (show w.heap.size ≤ _ by omega))
        have HE := hide (show laA e z l id = (z, false) from HF.out)
        clear o5
        go_wp2
        refine bodyPost_ret (v := .tuple #[.agg #[.int .i64 e, .slice aN z.length cN], .bool (false)]) (by simp [results, Tryz.f6, go_sem, r0, r1]) rfl ?_
        exact HP.out z (false) HE.out _ _ HOx.out HBx.out
      · rw [if_pos (by omega)] at HF
        clear HA HC
        go_wp2_with fail
        refine (HLt.out w4 hB3).mono ?_
        rintro en w5 ⟨v5, rfl, o5, hb5⟩
        have hB5 := hB3.trans (hb5.mono hB3.size)
        have kR5 := kR3.below hb5 kR3.lt
        clear c0 c1 HLt
        have r0 := kR5.cell 0
        have r1 := kR5.cell 1
        have g0 := kR5.frozen 0
        have g1 := kR5.frozen 1
        simp only [List.getElem?_cons_zero, List.getElem?_cons_succ] at r0 r1
        obtain ⟨aN, cN, hvN⟩ := o5.rd.shape
        subst hvN
        have HBx := hide ((hB5.setCell (p := ⟨w.heap.size + 1, 0, none⟩) (show w.heap.size ≤ w.heap.size + 1 by omega) (.int .i64 e)).setCell (p := ⟨w.heap.size + 1, 1, none⟩) (show w.heap.size ≤ w.heap.size + 1 by omega) (.slice aN (foL e z l (chA l id)).length cN))
        have HOx := hide (((o5.older (g := w.heap.size + 1) (by omega) 0 (.int .i64 e)).older (g := w.heap.size + 1) (by omega) 1 (.slice aN (foL e z l (chA l id)).length cN)).mono (show w.heap.size ≤ _ by omega))
        have HE := hide (show laA e z l id = ((foL e z l (chA l id)), true) from HF.out)
        clear o5
        generalize (foL e z l (chA l id)) = PP at HBx HOx HE ⊢
        go_wp2
        refine bodyPost_ret (v := .tuple #[.agg #[.int .i64 e, .slice aN PP.length cN], .bool (true)]) (by simp [results, Tryz.f6, go_sem, r0, r1]) rfl ?_
        exact HP.out PP (true) HE.out _ _ HOx.out HBx.out
end Go.Proofs.YtggkonpboahdeaaGreatDoor
