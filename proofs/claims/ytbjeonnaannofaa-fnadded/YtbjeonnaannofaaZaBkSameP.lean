/- Chains in a tree, and what extends what, by the landed code. Rows that are the same: of texts, numbers, orders and those who vote; the model's and the landed code's. Which blocks are the same, plainly. -/
import Derived.Test.YtbjeonnaannofaaZaTrImpl
import Derived.Test.YtbjeonnaannofaaZaKsApp
import Derived.Test.YtbjeonnaannofaaZaIntApp
import Derived.Test.YtbjeonnaannofaaZaBkVal
namespace Go.Proofs.Ytbjeonnaannofaa
open Go.RowKit
set_option linter.unusedVariables false

/-- What a limb's pointer tO the one that it comes behind says of its chain. -/
theorem lim_next {base : Nat} {w : World} {v : Value} {l : List Bk} {Bs : List Nat} (ht : treeP l) (h : Limbs base w v l l.length Bs) {i : Nat} (hi : i < Bs.length) (hil : i < l.length) :
    ∃ bv p, Blk w Bs[i] 120 (limC l[i] bv p) ∧ ((p = .pointer none ∧ upN l i = [i]) ∨ ∃ j, ∃ hj : j < Bs.length, p = ptr Bs[j] ∧ upN l i = i :: upN l j) := by
  obtain ⟨bv, p, k, _, r⟩ := h.at_ i hi hil
  refine ⟨bv, p, k, ?_⟩
  rcases r with ⟨r, rfl⟩ | ⟨j, hj, e, rfl⟩
  · refine .inl ⟨rfl, up_root ht hil ?_⟩
    rw [root_qb r]
    exact at_low ht (by omega)
  · refine .inr ⟨j, by omega, rfl, up_step ht hil hj ?_⟩
    rw [← e]
    exact atI_asc (tree_asc ht) (by omega)
/-- Where a limb points tO: nowhere, or tO the i-th; R is its chain upwards. -/
def PtA (l : List Bk) (Bs : List Nat) (x : Value) (R : List Nat) : Prop := (x = .pointer none ∧ R = []) ∨ ∃ i, ∃ h : i < Bs.length, x = ptr Bs[i] ∧ R = upN l i
set_option maxRecDepth 20000 in
set_option maxHeartbeats 2000000 in
theorem chain_any (l : List Bk) (Bs : List Nat) (tv x : Value) (C : List Nat) (base : Nat) (w : World) (ht : treeP l) (hlm : Limbs base w tv l l.length Bs) (hx : PtA l Bs x C) (hC : C.length ≤ 1000000) :
    Calls Try.prog 39 #[x] w fun e w' => ∃ v, e = .returned v ∧ OwnI w.heap.size w' v (C.reverse.map (idAt l)) ∧ Below w.heap.size w w' := by
  have Hlm := hide hlm
  have Hx := hide hx
  have Ht := hide ht
  have o1 := own_nilI w w.heap.size (Nat.le_refl _)
  have b1 : Below w.heap.size w (w.alloc (.cells #[] 3)) := (Below.refl _ w).alloc (Nat.le_refl _) _
  clear hlm hx ht
  go_enter Try.func39, Try.ntmps39
  go_wp2
  go_loopw [0, 3] (fun xv ov wr => ∃ (D R : List Nat), C = D ++ R ∧ PtA l Bs xv R ∧ slen ov = D.length ∧ OwnI w.heap.size wr ov (D.map (idAt l)) ∧ Below w.heap.size w wr) (fun _ ov _ => C.length - slen ov)
  case atStart => exact ⟨[], C, rfl, Hx.out, rfl, o1, b1⟩
  case round =>
    clear o1 b1
    obtain ⟨D, R, hC2, hp, hs, ho, hb⟩ := hrel
    obtain ⟨oa, oc, rfl⟩ := ho.rd.shape
    have Ho := hide ho
    have HC2 := hide hC2
    have hln : (D.map (idAt l)).length = D.length := by simp
    rw [hln] at Ho ⊢
    clear ho hs hC2 hln
    rcases hp with ⟨rfl, hR⟩ | ⟨i, hi, rfl, hR⟩
    · have HD : Hid (C = D) := hide (by rw [HC2.out, hR, List.append_nil])
      have HRv := hide (reverseI_any (.slice oa D.length oc) (D.map (idAt l)) w.heap.size wr Ho.out (by have := hC; have := HD.out; subst this; simp; omega))
      clear hR
      go_wp2_with fail
      refine HRv.out.mono ?_
      rintro e w2 ⟨rfl, ho2, hg2⟩
      have HO2 : Hid (OwnI w.heap.size w2 (.slice oa D.length oc) (C.reverse.map (idAt l))) := hide (by rw [HD.out, List.map_reverse]; exact ho2)
      have HB2 := hide (hb.grown hg2 hb.size (fun k hk => (Ho.out.ge k hk)))
      clear ho2 hg2
      go_wp2
      go_ret
      exact ⟨_, rfl, HO2.out, HB2.out⟩
    · have hil : i < l.length := by have := Hlm.out.len; omega
      obtain ⟨bv, p, kk, hnx⟩ := lim_next Ht.out Hlm.out hi hil
      have HK := hide (fun V (hV : Below w.heap.size w V) => kk.below hV kk.lt)
      have hnn : 0 < R.length := by rw [hR]; exact up_pos i
      have hDR : D.length + R.length = C.length := by rw [HC2.out]; simp
      have hlt : D.length + 1 ≤ C.length := by omega
      have HDn : Hid (∀ R2, R = i :: R2 → C = (D ++ [i]) ++ R2 ∧ (D ++ [i]).map (idAt l) = D.map (idAt l) ++ [l[i].id]) := hide (fun R2 h => ⟨by rw [HC2.out, h]; simp, by simp [idAt_eq hil]⟩)
      have Hnx : Hid (∃ R2, R = i :: R2 ∧ PtA l Bs p R2) := hide (by
        rcases hnx with ⟨rfl, e⟩ | ⟨j, hj, rfl, e⟩
        · exact ⟨[], by rw [hR, e], .inl ⟨rfl, rfl⟩⟩
        · exact ⟨upN l j, by rw [hR, e], .inr ⟨j, hj, rfl, rfl⟩⟩)
      have Hc : Hid (∀ V, Below w.heap.size w V → V.cell? ⟨Bs[i], 0, none⟩ = some (.int .i64 l[i].id) ∧ V.cell? ⟨Bs[i], 15, none⟩ = some p) := hide (fun V hV => ⟨by rw [(kk.below hV kk.lt).cell 0]; rfl, by rw [(kk.below hV kk.lt).cell 15]; rfl⟩)
      clear hnx hR kk HC2 hDR hnn HK
      generalize l[i].id = d at HDn Hc
      simp only [ptr]
      generalize Bs[i] = B at Hc
      obtain ⟨c0, c15⟩ := Hc.out wr hb
      obtain ⟨w4, hw4⟩ : ∃ x, wr.alloc (.cells #[.int .i64 d] 3) = x := ⟨_, rfl⟩
      have b4 : Below wr.heap.size wr w4 := by rw [← hw4]; exact (Below.refl _ wr).alloc (Nat.le_refl _) _
      have k4 : Blk w4 wr.heap.size 3 [.int .i64 d] := by rw [← hw4]; exact Blk.new wr _ _
      have HB4 := hide (hb.trans (b4.mono hb.size))
      have HO4 := hide (Ho.out.below b4 (Nat.le_refl _))
      have HR4 := hide (rd_oneI k4)
      clear b4 k4 Ho
      go_wp2_with (at_builtin; (try rw [hw4]); refine app_ownIs w4 rfl _ _ rfl w.heap.size (.slice oa D.length oc) _ (D.map (idAt l)) [d] rfl rfl HO4.out HR4.out (by simp; omega) HB4.out.size ?_; intro v5 w5 ho5 hg5 hb5 hl5; have c9 := (Hc.out w5 (HB4.out.trans hb5)).2)
      obtain ⟨R2, hR2, hpt⟩ := Hnx.out
      obtain ⟨e1, e2⟩ := HDn.out R2 hR2
      have HO5 : Hid (OwnI w.heap.size w5 v5 ((D ++ [i]).map (idAt l))) := hide (by rw [e2]; exact ho5)
      have HS5 : Hid (slen v5 = D.length + 1) := hide (by
        obtain ⟨a9, c9, e9⟩ := ho5.rd.shape
        rw [e9]; simp [slen])
      have E1 := hide e1
      clear e1 e2 ho5
      go_roundw
      case rel => exact ⟨D ++ [i], R2, E1.out, hpt, by rw [HS5.out]; simp, HO5.out, HB4.out.trans hb5⟩
      case measure => rw [HS5.out]; simp [slen]; omega
/-- What is found in a whole tree. -/
theorem lm_at {l : List Bk} (ht : treeP l) {Bs : List Nat} (hl : Bs.length = l.length) {y : Int} {x : Value} (h : LmP Bs ((l.take l.length).map (·.id)) y x) :
    (x = .pointer none ∧ atI l y = -1) ∨ ∃ i, ∃ hi : i < Bs.length, x = ptr Bs[i] ∧ atI l y = (i : Int) := by
  rcases h with ⟨rfl, h⟩ | ⟨p, h1, h2, e, rfl⟩
  · refine .inl ⟨rfl, atI_eq (.inl ⟨rfl, fun j hj e => h j (by simp; exact hj) ?_⟩)⟩
    rw [ids_at (Nat.le_refl _)]; exact e
  · rw [ids_at (Nat.le_refl _)] at e
    refine .inr ⟨p, h1, rfl, ?_⟩
    rw [← e]
    exact atI_asc (tree_asc ht) (by omega)
theorem lm_chain {l : List Bk} (ht : treeP l) {Bs : List Nat} (hl : Bs.length = l.length) {y : Int} {x : Value} (h : LmP Bs ((l.take l.length).map (·.id)) y x) : ∃ C, PtA l Bs x C ∧ C.reverse = chA l y := by
  rcases lm_at ht hl h with ⟨rfl, e⟩ | ⟨i, hi, rfl, e⟩
  · exact ⟨[], .inl ⟨rfl, rfl⟩, by rw [chA_none (by omega)]; rfl⟩
  · exact ⟨upN l i, .inr ⟨i, hi, rfl, rfl⟩, by rw [chA, e, if_neg (by omega), Int.toNat_natCast]⟩
set_option maxRecDepth 20000 in
set_option maxHeartbeats 2000000 in
theorem implChainOf_any (v : Value) (l : List Bk) (id : Int) (w : World) (hr : RdKs w v l) (hl : l.length ≤ 4000000) (hf : ∀ b ∈ l, FewK b) (hbd : ∀ b ∈ l, -9223372036854775808 ≤ b.tr ∧ b.tr ≤ 9223372036854775807) :
    Calls Try.prog 11 #[v, .int .i64 id] w fun e w' => ∃ x, e = .returned x ∧ OwnI w.heap.size w' x (coA l id) ∧ Below w.heap.size w w' := by
  have HT := hide (treeOf_any v l w hr hl hf hbd)
  clear hr hf hbd
  go_enter Try.func11, Try.ntmps11
  go_wp2_with fail
  refine HT.out.mono ?_
  rintro e w1 ⟨ta, tn, tc, rfl, hlm, hb1⟩
  obtain ⟨w2, hw2⟩ : ∃ x, w1.alloc (.cells #[.slice ta tn tc] 72) = x := ⟨_, rfl⟩
  have b2 : Below w1.heap.size w1 w2 := by rw [← hw2]; exact (Below.refl _ w1).alloc (Nat.le_refl _) _
  have k2 : Blk w2 w1.heap.size 72 [.slice ta tn tc] := by rw [← hw2]; exact Blk.new w1 _ _
  have hB2 := hb1.trans (b2.mono hb1.size)
  have x0 := k2.cell 0
  simp only [List.getElem?_cons_zero] at x0
  cases htb : treeB l
  · have HX : Hid (coA l id = []) := hide (by rw [coA, htb, if_neg (by simp)])
    have HO := hide (own_nilI w2 w.heap.size hB2.size)
    have HB := hide (hB2.alloc (o := .cells #[] 3) hB2.size)
    clear hlm htb HT b2 k2
    go_wp2
    go_ret
    exact ⟨_, rfl, by rw [HX.out]; exact HO.out, HB.out⟩
  · have ht := treeP_of htb
    have HX : Hid (coA l id = (chA l id).map (idAt l)) := hide (by rw [coA, htb, if_pos rfl])
    obtain ⟨Bs, lm⟩ := hlm htb
    have lm2 := lm.below b2 (Nat.le_refl _)
    have HA := hide (treeAt_any (.slice ta tn tc) Bs ((l.take l.length).map (·.id)) id w2 (fun U hU => (lm2.below hU (Nat.le_refl _)).rdP) (ids_asc (Nat.le_refl _) (tree_asc ht)) (by have := lm.len; have := ht.1; omega))
    have Hlm := hide lm2
    have Ht := hide ht
    have HB2 := hide hB2
    clear hlm htb HT b2 k2 lm lm2 ht hB2
    go_wp2_with fail
    refine HA.out.mono ?_
    rintro e w3 ⟨x, rfl, hx, hb3⟩
    obtain ⟨C, hp, hC⟩ := lm_chain Ht.out Hlm.out.len hx
    have hCl := chA_len Ht.out id
    have hl4 := Ht.out.1
    have HC := hide (chain_any l Bs (.slice ta tn tc) x C w.heap.size w3 Ht.out (Hlm.out.below hb3 (Nat.le_refl _)) hp (by rw [← hC] at hCl; simp at hCl; omega))
    have HE : Hid (C.reverse.map (idAt l) = coA l id) := hide (by rw [HX.out, hC])
    have HB3 := hide (HB2.out.trans (hb3.mono HB2.out.size))
    clear hp hC hCl hl4 hx hb3 HA
    go_wp2_with fail
    refine HC.out.mono ?_
    rintro e w4 ⟨v4, rfl, ho4, hb4⟩
    have HO4 : Hid (OwnI w.heap.size w4 v4 (coA l id)) := hide (by rw [← HE.out]; exact ho4.mono HB3.out.size)
    have HB4 := hide (HB3.out.trans (hb4.mono HB3.out.size))
    clear ho4 hb4
    go_wp2
    go_ret
    exact ⟨_, rfl, HO4.out, HB4.out⟩
set_option maxRecDepth 20000 in
set_option maxHeartbeats 2000000 in
theorem implExtends_any (v : Value) (l : List Bk) (a b : Int) (w : World) (hr : RdKs w v l) (hl : l.length ≤ 4000000) (hf : ∀ b ∈ l, FewK b) (hbd : ∀ b ∈ l, -9223372036854775808 ≤ b.tr ∧ b.tr ≤ 9223372036854775807) :
    Calls Try.prog 13 #[v, .int .i64 a, .int .i64 b] w fun e w' => e = .returned (.bool (exB l a b)) ∧ Below w.heap.size w w' := by
  have HT := hide (treeOf_any v l w hr hl hf hbd)
  have HX : Hid (exB l a b = (treeB l && (if a = -1 then (decide (b = -1) || decide (0 ≤ atI l b)) else ((chA l b).map (idAt l)).any (fun x => decide (x = a))))) := hide rfl
  generalize exB l a b = X at HX ⊢
  clear hr hf hbd
  go_enter Try.func13, Try.ntmps13
  go_wp2_with fail
  refine HT.out.mono ?_
  rintro e w1 ⟨ta, tn, tc, rfl, hlm, hb1⟩
  obtain ⟨w2, hw2⟩ : ∃ x, w1.alloc (.cells #[.slice ta tn tc] 72) = x := ⟨_, rfl⟩
  have b2 : Below w1.heap.size w1 w2 := by rw [← hw2]; exact (Below.refl _ w1).alloc (Nat.le_refl _) _
  have k2 : Blk w2 w1.heap.size 72 [.slice ta tn tc] := by rw [← hw2]; exact Blk.new w1 _ _
  have hB2 := hb1.trans (b2.mono hb1.size)
  have x0 := k2.cell 0
  simp only [List.getElem?_cons_zero] at x0
  cases htb : treeB l
  · rw [htb, Bool.false_and] at HX
    clear hlm htb HT b2 k2
    go_wp2
    go_ret
    exact ⟨ret_bool HX.out.symm, hB2⟩
  · rw [htb, Bool.true_and] at HX
    have ht := treeP_of htb
    obtain ⟨Bs, lm⟩ := hlm htb
    have lm2 := lm.below b2 (Nat.le_refl _)
    have HA := hide (treeAt_any (.slice ta tn tc) Bs ((l.take l.length).map (·.id)) b w2 (fun U hU => (lm2.below hU (Nat.le_refl _)).rdP) (ids_asc (Nat.le_refl _) (tree_asc ht)) (by have := lm.len; have := ht.1; omega))
    have Hlm := hide lm2
    have Ht := hide ht
    have HB2 := hide hB2
    clear hlm htb HT b2 k2 lm lm2 ht hB2
    by_cases ha : a = -1
    · rw [if_pos ha] at HX
      subst ha
      by_cases hb : b = -1
      · subst hb
        rw [show (decide ((-1 : Int) = -1)) = true from by simp, Bool.true_or] at HX
        clear HA
        go_wp2
        go_ret
        exact ⟨ret_bool HX.out.symm, HB2.out⟩
      · have hbe : (b == -1) = false := by rw [beq_eq_false_iff_ne]; exact hb
        rw [show decide (b = -1) = false from by simp [hb], Bool.false_or] at HX
        clear hb
        go_wp2_with fail
        refine HA.out.mono ?_
        rintro e w3 ⟨x, rfl, hx, hb3⟩
        have HB3 := hide (HB2.out.trans (hb3.mono HB2.out.size))
        rcases lm_at Ht.out Hlm.out.len hx with ⟨rfl, e⟩ | ⟨i, hi, rfl, e⟩
        · rw [e] at HX
          clear hx hb3 HA
          go_wp2
          go_ret
          exact ⟨ret_bool (by rw [HX.out]; rfl), HB3.out⟩
        · rw [e] at HX
          have HX2 : Hid (X = true) := hide (by rw [HX.out]; simp)
          clear hx hb3 HA HX
          simp only [ptr]
          go_wp2
          go_ret
          exact ⟨ret_bool HX2.out.symm, HB3.out⟩
    · rw [if_neg ha] at HX
      have hae : (a == -1) = false := by rw [beq_eq_false_iff_ne]; exact ha
      clear ha
      go_wp2_with fail
      refine HA.out.mono ?_
      rintro e w3 ⟨x, rfl, hx, hb3⟩
      obtain ⟨C, hp, hC⟩ := lm_chain Ht.out Hlm.out.len hx
      have hCl := chA_len Ht.out b
      have hl4 := Ht.out.1
      have HC := hide (chain_any l Bs (.slice ta tn tc) x C w.heap.size w3 Ht.out (Hlm.out.below hb3 (Nat.le_refl _)) hp (by rw [← hC] at hCl; simp at hCl; omega))
      rw [hC] at HC
      have HB3 := hide (HB2.out.trans (hb3.mono HB2.out.size))
      clear hp hC hx hb3 HA
      generalize hI : (chA l b).map (idAt l) = I at HC HX
      have hIl : I.length ≤ 400 := by rw [← hI]; simp; omega
      clear hI hCl hl4
      go_wp2_with fail
      refine HC.out.mono ?_
      rintro e w4 ⟨v4, rfl, ho4, hb4⟩
      have HCo := hide (containsI_any v4 I a w4 ho4.rd (by omega))
      have HB4 := hide (HB3.out.trans (hb4.mono HB3.out.size))
      clear ho4 hb4
      go_wp2_with fail
      refine HCo.out.mono ?_
      rintro e w4 ⟨rfl, rfl⟩
      go_wp2
      go_ret
      exact ⟨ret_bool HX.out.symm, HB4.out⟩
end Go.Proofs.Ytbjeonnaannofaa

namespace Go.Proofs.Ytbjeonnaannofaa
open Go.RowKit
set_option linter.unusedVariables false

set_option maxRecDepth 20000 in
set_option maxHeartbeats 1000000 in
theorem equalS_any (v1 v2 : Value) (l1 l2 : List ByteArray) (w : World) (hr1 : RdS w v1 l1) (hr2 : RdS w v2 l2) (hl1 : l1.length ≤ 4000000) (hl2 : l2.length ≤ 4000000) :
    Calls Try.prog 112 #[v1, v2] w fun e w' => e = .returned (.bool (decide (l1 = l2))) ∧ Sm w w' := by
  by_cases hne : l1.length = l2.length
  · rcases hr1 with ⟨a, cap, rfl, rfl, -⟩ | ⟨b, off, cap, h0, rfl, h1, h2, h3, h4⟩
    · have e2 : l2 = [] := List.length_eq_zero_iff.1 (by simpa using hne.symm)
      subst e2
      obtain ⟨a2, cap2, rfl⟩ := hr2.shape
      clear hr2
      go_enter Try.func112, Try.ntmps112
      go_wp2
      refine wp_loop_rounds 1 ?_
      rw [rounds_succ]
      go_wp2
      go_ret
      exact ⟨rfl, Sm.refl _⟩
    · rcases hr2 with ⟨a2, cap2, rfl, rfl, -⟩ | ⟨b2, off2, cap2, g0, rfl, g1, g2, g3, g4⟩
      · exact absurd (List.length_eq_zero_iff.1 (by simpa using hne)) h0
      · have Hne := hide hne
        have hlen : ((l1.length : Int) != (l2.length : Int)) = false := by rw [hne]; simp
        have hle : l1.length ≤ l2.length := by omega
        have hge : l2.length ≤ l1.length := by omega
        have H4 := hide h4
        have G4 := hide g4
        clear hne h4 g4
        go_enter Try.func112, Try.ntmps112
        go_wp2
        go_loopw [13] (fun i wr => ∃ k : Nat, k ≤ l1.length ∧ i = .int .i64 k ∧ l1.take k = l2.take k ∧ Sm w wr) (fun i _ => l1.length - (intOf i).toNat)
        case atStart => exact ⟨0, Nat.zero_le _, rfl, rfl, Sm.refl _⟩
        case round =>
          obtain ⟨k, hk, rfl, ht, hs⟩ := hrel
          have Ht := hide ht
          clear ht
          by_cases hlt : k < l1.length
          · have hlt2 : k < l2.length := by omega
            have hc1 : wr.cell? ⟨b, off + k, none⟩ = some (.string l1[k]) := (hs.cell _).trans (H4.out k hlt)
            have hc2 : wr.cell? ⟨b2, off2 + k, none⟩ = some (.string l2[k]) := (hs.cell _).trans (G4.out k hlt2)
            have hli : (k : Int) < (l1.length : Int) := by omega
            have hli2 : (k : Int) < (l2.length : Int) := by omega
            by_cases he : l1[k] = l2[k]
            · have Hnx := hide (take_eq_snoc hlt hlt2 Ht.out he)
              rw [← he] at hc2
              clear he
              generalize l1[k] = s1 at hc1 hc2
              go_wp2
              go_quiet (fail)
              go_wp2
              go_roundw
              case rel => exact ⟨k + 1, by omega, by go_num, Hnx.out, hs.drewN _⟩
              case measure => simp [intOf]; omega
            · have hf : Hid (decide (l1 = l2) = false) := hide (by rw [decide_eq_false]; intro e; subst e; exact he rfl)
              have hq := bytes_ne he
              clear he
              generalize l1[k] = s1 at hc1 hq
              generalize l2[k] = s2 at hc2 hq
              go_wp2
              go_quiet (fail)
              go_wp2
              go_ret
              exact ⟨ret_bool hf.out.symm, hs.drewN _⟩
          · have hf : Hid (decide (l1 = l2) = true) := hide (by
              rw [decide_eq_true]
              have := Ht.out
              rwa [List.take_of_length_le (by omega), List.take_of_length_le (by omega)] at this)
            go_wp2
            go_ret
            exact ⟨ret_bool hf.out.symm, hs⟩
  · obtain ⟨a, cap, rfl⟩ := hr1.shape
    obtain ⟨a2, cap2, rfl⟩ := hr2.shape
    clear hr1 hr2
    have hlen : ((l1.length : Int) != (l2.length : Int)) = true := by rw [bne_iff_ne]; omega
    have hf : Hid (decide (l1 = l2) = false) := hide (by rw [decide_eq_false]; intro e; subst e; exact hne rfl)
    clear hne
    go_enter Try.func112, Try.ntmps112
    go_wp2
    go_ret
    exact ⟨ret_bool hf.out.symm, Sm.refl _⟩
set_option maxRecDepth 20000 in
set_option maxHeartbeats 1000000 in
theorem equalI_any (v1 v2 : Value) (l1 l2 : List Int) (w : World) (hr1 : RdI w v1 l1) (hr2 : RdI w v2 l2) (hl1 : l1.length ≤ 4000000) (hl2 : l2.length ≤ 4000000) :
    Calls Try.prog 113 #[v1, v2] w fun e w' => e = .returned (.bool (decide (l1 = l2))) ∧ Sm w w' := by
  by_cases hne : l1.length = l2.length
  · rcases hr1 with ⟨a, cap, rfl, rfl, -⟩ | ⟨b, off, cap, h0, rfl, h1, h2, h3, h4⟩
    · have e2 : l2 = [] := List.length_eq_zero_iff.1 (by simpa using hne.symm)
      subst e2
      obtain ⟨a2, cap2, rfl⟩ := hr2.shape
      clear hr2
      go_enter Try.func113, Try.ntmps113
      go_wp2
      refine wp_loop_rounds 1 ?_
      rw [rounds_succ]
      go_wp2
      go_ret
      exact ⟨rfl, Sm.refl _⟩
    · rcases hr2 with ⟨a2, cap2, rfl, rfl, -⟩ | ⟨b2, off2, cap2, g0, rfl, g1, g2, g3, g4⟩
      · exact absurd (List.length_eq_zero_iff.1 (by simpa using hne)) h0
      · have Hne := hide hne
        have hlen : ((l1.length : Int) != (l2.length : Int)) = false := by rw [hne]; simp
        have hle : l1.length ≤ l2.length := by omega
        have hge : l2.length ≤ l1.length := by omega
        have H4 := hide h4
        have G4 := hide g4
        clear hne h4 g4
        go_enter Try.func113, Try.ntmps113
        go_wp2
        go_loopw [13] (fun i wr => ∃ k : Nat, k ≤ l1.length ∧ i = .int .i64 k ∧ l1.take k = l2.take k ∧ Sm w wr) (fun i _ => l1.length - (intOf i).toNat)
        case atStart => exact ⟨0, Nat.zero_le _, rfl, rfl, Sm.refl _⟩
        case round =>
          obtain ⟨k, hk, rfl, ht, hs⟩ := hrel
          have Ht := hide ht
          clear ht
          by_cases hlt : k < l1.length
          · have hlt2 : k < l2.length := by omega
            have hc1 : wr.cell? ⟨b, off + k, none⟩ = some (.int .i64 l1[k]) := (hs.cell _).trans (H4.out k hlt)
            have hc2 : wr.cell? ⟨b2, off2 + k, none⟩ = some (.int .i64 l2[k]) := (hs.cell _).trans (G4.out k hlt2)
            have hli : (k : Int) < (l1.length : Int) := by omega
            have hli2 : (k : Int) < (l2.length : Int) := by omega
            by_cases he : l1[k] = l2[k]
            · have Hnx := hide (take_eq_snoc hlt hlt2 Ht.out he)
              rw [← he] at hc2
              clear he
              generalize l1[k] = s1 at hc1 hc2
              go_wp2
              go_quiet (fail)
              go_wp2
              go_roundw
              case rel => exact ⟨k + 1, by omega, by go_num, Hnx.out, hs.drewN _⟩
              case measure => simp [intOf]; omega
            · have hf : Hid (decide (l1 = l2) = false) := hide (by rw [decide_eq_false]; intro e; subst e; exact he rfl)
              have hq := int_ne he
              clear he
              generalize l1[k] = s1 at hc1 hq
              generalize l2[k] = s2 at hc2 hq
              go_wp2
              go_quiet (fail)
              go_wp2
              go_ret
              exact ⟨ret_bool hf.out.symm, hs.drewN _⟩
          · have hf : Hid (decide (l1 = l2) = true) := hide (by
              rw [decide_eq_true]
              have := Ht.out
              rwa [List.take_of_length_le (by omega), List.take_of_length_le (by omega)] at this)
            go_wp2
            go_ret
            exact ⟨ret_bool hf.out.symm, hs⟩
  · obtain ⟨a, cap, rfl⟩ := hr1.shape
    obtain ⟨a2, cap2, rfl⟩ := hr2.shape
    clear hr1 hr2
    have hlen : ((l1.length : Int) != (l2.length : Int)) = true := by rw [bne_iff_ne]; omega
    have hf : Hid (decide (l1 = l2) = false) := hide (by rw [decide_eq_false]; intro e; subst e; exact hne rfl)
    clear hne
    go_enter Try.func113, Try.ntmps113
    go_wp2
    go_ret
    exact ⟨ret_bool hf.out.symm, Sm.refl _⟩
set_option maxRecDepth 20000 in
set_option maxHeartbeats 2000000 in
theorem equalT_any (v1 v2 : Value) (l1 l2 : List Tx5) (w : World) (hr1 : RdT w v1 l1) (hr2 : RdT w v2 l2) (hl1 : l1.length ≤ 4000000) (hl2 : l2.length ≤ 4000000) :
    Calls Try.prog 58 #[v1, v2] w fun e w' => e = .returned (.bool (decide (l1 = l2))) ∧ Sm w w' := by
  by_cases hne : l1.length = l2.length
  · rcases hr1 with ⟨a, cap, rfl, rfl, -⟩ | ⟨b, off, cap, h0, rfl, h1, h2, h3, h4⟩
    · have e2 : l2 = [] := List.length_eq_zero_iff.1 (by simpa using hne.symm)
      subst e2
      obtain ⟨a2, cap2, rfl⟩ := hr2.shape
      clear hr2
      go_enter Try.func58, Try.ntmps58
      go_wp2
      refine wp_loop_rounds 1 ?_
      rw [rounds_succ]
      go_wp2
      go_ret
      exact ⟨rfl, Sm.refl _⟩
    · rcases hr2 with ⟨a2, cap2, rfl, rfl, -⟩ | ⟨b2, off2, cap2, g0, rfl, g1, g2, g3, g4⟩
      · exact absurd (List.length_eq_zero_iff.1 (by simpa using hne)) h0
      · have hlen : ((l1.length : Int) != (l2.length : Int)) = false := by rw [hne]; simp
        have hle : l1.length ≤ l2.length := by omega
        have hge : l2.length ≤ l1.length := by omega
        have H4 := hide h4
        have G4 := hide g4
        clear hne h4 g4
        go_enter Try.func58, Try.ntmps58
        go_wp2
        go_loopw [13] (fun i wr => ∃ k : Nat, k ≤ l1.length ∧ i = .int .i64 k ∧ l1.take k = l2.take k ∧ Sm w wr) (fun i _ => l1.length - (intOf i).toNat)
        case atStart => exact ⟨0, Nat.zero_le _, rfl, rfl, Sm.refl _⟩
        case round =>
          obtain ⟨k, hk, rfl, ht, hs⟩ := hrel
          have Ht := hide ht
          clear ht
          by_cases hlt : k < l1.length
          · have hlt2 : k < l2.length := by omega
            obtain ⟨c0, c1, c2, c3, c4⟩ := H4.out k hlt
            obtain ⟨d0, d1, d2, d3, d4⟩ := G4.out k hlt2
            replace c0 := (hs.cell ⟨b, off + k * 5, none⟩).trans c0
            replace d0 := (hs.cell ⟨b2, off2 + k * 5, none⟩).trans d0
            replace c1 := (hs.cell ⟨b, off + k * 5 + 1, none⟩).trans c1
            replace d1 := (hs.cell ⟨b2, off2 + k * 5 + 1, none⟩).trans d1
            replace c2 := (hs.cell ⟨b, off + k * 5 + 2, none⟩).trans c2
            replace d2 := (hs.cell ⟨b2, off2 + k * 5 + 2, none⟩).trans d2
            replace c3 := (hs.cell ⟨b, off + k * 5 + 3, none⟩).trans c3
            replace d3 := (hs.cell ⟨b2, off2 + k * 5 + 3, none⟩).trans d3
            replace c4 := (hs.cell ⟨b, off + k * 5 + 4, none⟩).trans c4
            replace d4 := (hs.cell ⟨b2, off2 + k * 5 + 4, none⟩).trans d4
            have hli : (k : Int) < (l1.length : Int) := by omega
            have hli2 : (k : Int) < (l2.length : Int) := by omega
            have Hnx : Hid (l1[k] = l2[k] → l1.take (k + 1) = l2.take (k + 1)) := hide (fun he => take_eq_snoc hlt hlt2 Ht.out he)
            have Hno : Hid (l1[k] ≠ l2[k] → decide (l1 = l2) = false) := hide (fun he => by rw [decide_eq_false]; intro e; subst e; exact he rfl)
            generalize l1[k] = p at c0 c1 c2 c3 c4 Hnx Hno
            generalize l2[k] = q at d0 d1 d2 d3 d4 Hnx Hno
            obtain ⟨x0, x1, x2, x3, x4⟩ := p
            obtain ⟨y0, y1, y2, y3, y4⟩ := q
            simp only at c0 d0 c1 d1 c2 d2 c3 d3 c4 d4
            by_cases e0 : x0 = y0
            · subst e0
              by_cases e1 : x1 = y1
              · subst e1
                by_cases e2 : x2 = y2
                · subst e2
                  by_cases e3 : x3 = y3
                  · subst e3
                    by_cases e4 : x4 = y4
                    · subst e4
                      have Hn2 := hide (Hnx.out rfl)
                      clear Hno Hnx
                      go_wp2
                      go_quiet (fail)
                      go_wp2
                      go_roundw
                      case rel => exact ⟨k + 1, by omega, by go_num, Hn2.out, hs.drewN _⟩
                      case measure => simp [intOf]; omega
                    · have Hno := hide (Hno.out (by intro h; simp only [Prod.mk.injEq] at h; exact e4 h.2.2.2.2))
                      have hq := int_ne e4
                      have hq2 : (x4 == y4) = false := by rw [beq_eq_false_iff_ne]; exact e4
                      clear e4 Hnx
                      go_wp2
                      go_quiet (fail)
                      go_wp2
                      go_ret
                      exact ⟨ret_bool Hno.out.symm, hs.drewN _⟩
                  · have Hno := hide (Hno.out (by intro h; simp only [Prod.mk.injEq] at h; exact e3 h.2.2.2.1))
                    have hq := int_ne e3
                    have hq2 : (x3 == y3) = false := by rw [beq_eq_false_iff_ne]; exact e3
                    clear e3 Hnx
                    go_wp2
                    go_quiet (fail)
                    go_wp2
                    go_ret
                    exact ⟨ret_bool Hno.out.symm, hs.drewN _⟩
                · have Hno := hide (Hno.out (by intro h; simp only [Prod.mk.injEq] at h; exact e2 h.2.2.1))
                  have hq := bytes_ne e2
                  clear e2 Hnx
                  go_wp2
                  go_quiet (fail)
                  go_wp2
                  go_ret
                  exact ⟨ret_bool Hno.out.symm, hs.drewN _⟩
              · have Hno := hide (Hno.out (by intro h; simp only [Prod.mk.injEq] at h; exact e1 h.2.1))
                have hq := bytes_ne e1
                clear e1 Hnx
                go_wp2
                go_quiet (fail)
                go_wp2
                go_ret
                exact ⟨ret_bool Hno.out.symm, hs.drewN _⟩
            · have Hno := hide (Hno.out (by intro h; simp only [Prod.mk.injEq] at h; exact e0 h.1))
              have hq := int_ne e0
              have hq2 : (x0 == y0) = false := by rw [beq_eq_false_iff_ne]; exact e0
              clear e0 Hnx
              go_wp2
              go_quiet (fail)
              go_wp2
              go_ret
              exact ⟨ret_bool Hno.out.symm, hs.drewN _⟩
          · have hf : Hid (decide (l1 = l2) = true) := hide (by
              rw [decide_eq_true]
              have := Ht.out
              rwa [List.take_of_length_le (by omega), List.take_of_length_le (by omega)] at this)
            go_wp2
            go_ret
            exact ⟨ret_bool hf.out.symm, hs⟩
  · obtain ⟨a, cap, rfl⟩ := hr1.shape
    obtain ⟨a2, cap2, rfl⟩ := hr2.shape
    clear hr1 hr2
    have hlen : ((l1.length : Int) != (l2.length : Int)) = true := by rw [bne_iff_ne]; omega
    have hf : Hid (decide (l1 = l2) = false) := hide (by rw [decide_eq_false]; intro e; subst e; exact hne rfl)
    clear hne
    go_enter Try.func58, Try.ntmps58
    go_wp2
    go_ret
    exact ⟨ret_bool hf.out.symm, Sm.refl _⟩
set_option maxRecDepth 20000 in
set_option maxHeartbeats 2000000 in
theorem equalV_any (v1 v2 : Value) (l1 l2 : List Vl) (w : World) (hr1 : RdV w v1 l1) (hr2 : RdV w v2 l2) (hl1 : l1.length ≤ 4000000) (hl2 : l2.length ≤ 4000000) :
    Calls Try.prog 59 #[v1, v2] w fun e w' => e = .returned (.bool (decide (l1 = l2))) ∧ Sm w w' := by
  by_cases hne : l1.length = l2.length
  · rcases hr1 with ⟨a, cap, rfl, rfl, -⟩ | ⟨b, off, cap, h0, rfl, h1, h2, h3, h4⟩
    · have e2 : l2 = [] := List.length_eq_zero_iff.1 (by simpa using hne.symm)
      subst e2
      obtain ⟨a2, cap2, rfl⟩ := hr2.shape
      clear hr2
      go_enter Try.func59, Try.ntmps59
      go_wp2
      refine wp_loop_rounds 1 ?_
      rw [rounds_succ]
      go_wp2
      go_ret
      exact ⟨rfl, Sm.refl _⟩
    · rcases hr2 with ⟨a2, cap2, rfl, rfl, -⟩ | ⟨b2, off2, cap2, g0, rfl, g1, g2, g3, g4⟩
      · exact absurd (List.length_eq_zero_iff.1 (by simpa using hne)) h0
      · have hlen : ((l1.length : Int) != (l2.length : Int)) = false := by rw [hne]; simp
        have hle : l1.length ≤ l2.length := by omega
        have hge : l2.length ≤ l1.length := by omega
        have H4 := hide h4
        have G4 := hide g4
        clear hne h4 g4
        go_enter Try.func59, Try.ntmps59
        go_wp2
        go_loopw [13] (fun i wr => ∃ k : Nat, k ≤ l1.length ∧ i = .int .i64 k ∧ l1.take k = l2.take k ∧ Sm w wr) (fun i _ => l1.length - (intOf i).toNat)
        case atStart => exact ⟨0, Nat.zero_le _, rfl, rfl, Sm.refl _⟩
        case round =>
          obtain ⟨k, hk, rfl, ht, hs⟩ := hrel
          have Ht := hide ht
          clear ht
          by_cases hlt : k < l1.length
          · have hlt2 : k < l2.length := by omega
            obtain ⟨c0, c1⟩ := H4.out k hlt
            obtain ⟨d0, d1⟩ := G4.out k hlt2
            replace c0 := (hs.cell ⟨b, off + k * 2, none⟩).trans c0
            replace d0 := (hs.cell ⟨b2, off2 + k * 2, none⟩).trans d0
            replace c1 := (hs.cell ⟨b, off + k * 2 + 1, none⟩).trans c1
            replace d1 := (hs.cell ⟨b2, off2 + k * 2 + 1, none⟩).trans d1
            have hli : (k : Int) < (l1.length : Int) := by omega
            have hli2 : (k : Int) < (l2.length : Int) := by omega
            have Hnx : Hid (l1[k] = l2[k] → l1.take (k + 1) = l2.take (k + 1)) := hide (fun he => take_eq_snoc hlt hlt2 Ht.out he)
            have Hno : Hid (l1[k] ≠ l2[k] → decide (l1 = l2) = false) := hide (fun he => by rw [decide_eq_false]; intro e; subst e; exact he rfl)
            generalize l1[k] = p at c0 c1 Hnx Hno
            generalize l2[k] = q at d0 d1 Hnx Hno
            obtain ⟨x0, x1⟩ := p
            obtain ⟨y0, y1⟩ := q
            simp only at c0 d0 c1 d1
            by_cases e0 : x0 = y0
            · subst e0
              by_cases e1 : x1 = y1
              · subst e1
                have Hn2 := hide (Hnx.out rfl)
                clear Hno Hnx
                go_wp2
                go_quiet (fail)
                go_wp2
                go_roundw
                case rel => exact ⟨k + 1, by omega, by go_num, Hn2.out, hs.drewN _⟩
                case measure => simp [intOf]; omega
              · have Hno := hide (Hno.out (by intro h; simp only [Prod.mk.injEq] at h; exact e1 h.2))
                have hq := int_ne e1
                have hq2 : (x1 == y1) = false := by rw [beq_eq_false_iff_ne]; exact e1
                clear e1 Hnx
                go_wp2
                go_quiet (fail)
                go_wp2
                go_ret
                exact ⟨ret_bool Hno.out.symm, hs.drewN _⟩
            · have Hno := hide (Hno.out (by intro h; simp only [Prod.mk.injEq] at h; exact e0 h.1))
              have hq := bytes_ne e0
              clear e0 Hnx
              go_wp2
              go_quiet (fail)
              go_wp2
              go_ret
              exact ⟨ret_bool Hno.out.symm, hs.drewN _⟩
          · have hf : Hid (decide (l1 = l2) = true) := hide (by
              rw [decide_eq_true]
              have := Ht.out
              rwa [List.take_of_length_le (by omega), List.take_of_length_le (by omega)] at this)
            go_wp2
            go_ret
            exact ⟨ret_bool hf.out.symm, hs⟩
  · obtain ⟨a, cap, rfl⟩ := hr1.shape
    obtain ⟨a2, cap2, rfl⟩ := hr2.shape
    clear hr1 hr2
    have hlen : ((l1.length : Int) != (l2.length : Int)) = true := by rw [bne_iff_ne]; omega
    have hf : Hid (decide (l1 = l2) = false) := hide (by rw [decide_eq_false]; intro e; subst e; exact hne rfl)
    clear hne
    go_enter Try.func59, Try.ntmps59
    go_wp2
    go_ret
    exact ⟨ret_bool hf.out.symm, Sm.refl _⟩
end Go.Proofs.Ytbjeonnaannofaa

namespace Go.Proofs.Ytbjeonnaannofaa
open Go.RowKit
set_option linter.unusedVariables false

def sq9 (a b : Bk) : Bool := decide (a.qr = b.qr) && (decide (a.qb = b.qb) && decide (a.qw = b.qw))
def st9 (a b : Bk) : Bool := decide (a.tr = b.tr) && (decide (a.tw = b.tw) && decide (a.th = b.th))
/-- Whether two blocks are the same. -/
def sb9 (a b : Bk) : Bool := decide (a.id = b.id) && (decide (a.ep = b.ep) && (decide (a.rd = b.rd) && (decide (a.md = b.md) && (sq9 a b && (st9 a b && (decide (a.ts = b.ts) && (decide (a.en = b.en) && (decide (a.nx = b.nx) && decide (a.rt = b.rt)))))))))
theorem sb9_self (b : Bk) : sb9 b b = true := by simp [sb9, sq9, st9]
theorem int_bf {a b : Int} (h : a ≠ b) : (a == b) = false := by rw [beq_eq_false_iff_ne]; exact h
end Go.Proofs.Ytbjeonnaannofaa
