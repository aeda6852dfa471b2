/- The root of a ledger's accounts: the model's and the landed code's. -/
import Derived.Test.YtdelegamcebflaaDoorJoin8
import Derived.Test.YtdelegamcebflaaDoorJoin10
namespace Go.Proofs.YtdelegamcebflaaDoor
open Go.RowKit
set_option linter.unusedVariables false

def acT (a : Ac) : ByteArray := ⟨(acP a).toArray⟩
/-- A ledger's root. -/
def srB (e : Int) (l : List Ac) : ByteArray := if lgB e l = true then (if 64 < (l.map acT).length then ByteArray.empty else rootB (l.map acT)) else ByteArray.empty
/-- What is known of an account of a right ledger. -/
structure AcSmall (a : Ac) : Prop where
  nm : a.1.size ≤ 1000
  lv : a.2.2.2.2.length ≤ 1000
  b1 : -9223372036854775808 ≤ a.2.1 ∧ a.2.1 ≤ 9223372036854775807
  b2 : -9223372036854775808 ≤ a.2.2.1 ∧ a.2.2.1 ≤ 9223372036854775807
  b3 : -9223372036854775808 ≤ a.2.2.2.1 ∧ a.2.2.2.1 ≤ 9223372036854775807
  b4 : ∀ p ∈ a.2.2.2.2, (-9223372036854775808 ≤ p.1 ∧ p.1 ≤ 9223372036854775807) ∧ (-9223372036854775808 ≤ p.2 ∧ p.2 ≤ 9223372036854775807)
theorem lvs_small {l : List (Int × Int)} (h : lvsB l = true) : ∀ p ∈ l, (-9223372036854775808 ≤ p.1 ∧ p.1 ≤ 9223372036854775807) ∧ (-9223372036854775808 ≤ p.2 ∧ p.2 ≤ 9223372036854775807) := by
  intro p hp
  obtain ⟨j, hj, rfl⟩ := List.mem_iff_getElem.1 hp
  unfold lvsB at h
  rw [List.all_eq_true] at h
  have := h j (List.mem_range.2 hj)
  unfold lvAt at this
  rw [List.getD_eq_getElem?_getD, List.getElem?_eq_getElem hj] at this
  simp only [Bool.and_eq_true] at this
  have h1 := this.1
  have h2 := this.2.1
  unfold inB at h1 h2
  simp at h1 h2
  omega
theorem ac_small {a : Ac} (h : acB a = true) : AcSmall a := by
  unfold acB at h
  simp only [Bool.and_eq_true, decide_eq_true_eq] at h
  obtain ⟨h0, h1, h2, h3, h4, h5⟩ := h
  unfold nmB at h0
  simp only [Bool.and_eq_true] at h0
  have h6 := h0.2
  unfold inB at h1 h2 h3 h6
  simp only [decide_eq_true_eq] at h1 h2 h3 h6
  exact ⟨by omega, by omega, by omega, by omega, by omega, lvs_small h5⟩
theorem lg_small {e : Int} {l : List Ac} (h : lgB e l = true) : ∀ a ∈ l, AcSmall a := by
  intro a ha
  obtain ⟨j, hj, rfl⟩ := List.mem_iff_getElem.1 ha
  unfold lgB acsB at h
  simp only [Bool.and_eq_true, List.all_eq_true] at h
  have := h.2.1 j (List.mem_range.2 hj)
  unfold acAt at this
  rw [List.getD_eq_getElem?_getD, List.getElem?_eq_getElem hj, Bool.and_eq_true] at this
  exact ac_small this.1
theorem acT_size {a : Ac} (h : AcSmall a) : (acT a).size ≤ 1500000 := by
  have h1 := acHd_len a.1 a.2.1 a.2.2.1 a.2.2.2.1 (a.2.2.2.2.length : Int)
  have h2 := lvsP_len a.2.2.2.2
  have h3 := h.nm
  have h4 := h.lv
  have h5 : (acT a).size = (acP a).length := by simp [acT, ByteArray.size]
  rw [h5, acP, List.length_append]
  omega
theorem acT_all {l : List Ac} (h : ∀ a ∈ l, AcSmall a) : ∀ s ∈ l.map acT, s.size ≤ 1500000 := by
  intro s hs
  obtain ⟨a, ha, rfl⟩ := List.mem_map.1 hs
  exact acT_size (h a ha)
theorem acT_snoc (l : List Ac) (k : Nat) (h : k < l.length) : (l.take (k + 1)).map acT = (l.take k).map acT ++ [acT l[k]] := by
  rw [List.take_succ_eq_append_getElem h, List.map_append]; rfl
theorem RdA.at6 {w : World} {a : Option Addr} {cap i : Nat} {l : List Ac} (h : RdA w (.slice a l.length cap) l) (hi : i < l.length) :
    ∃ b off lv, a = some ⟨b, off, none⟩ ∧ l.length ≤ cap ∧ cap ≤ maxLen ∧ b < w.heap.size ∧ AcAt w b (off + i * 5) l[i] lv ∧ RdL w lv l[i].2.2.2.2 := by
  rcases h with ⟨a', cap', e, rfl, -⟩ | ⟨b, off, cap', h0, e, h1, h2, h3, h4⟩
  · simp at hi
  · simp only [Value.slice.injEq, true_and] at e
    obtain ⟨rfl, rfl⟩ := e
    obtain ⟨lv, q1, q2⟩ := h4 i hi
    exact ⟨b, off, lv, rfl, h1, h2, h3, q1, q2⟩
set_option maxRecDepth 20000 in
set_option maxHeartbeats 4000000 in
theorem implStateRoot_any (e : Int) (v : Value) (l : List Ac) (w : World) (hr : RdA w v l) (hl : l.length ≤ 4000000) (hall : ∀ a ∈ l, a.1.size ≤ maxLen ∧ a.2.2.2.2.length ≤ 4000000) (hgl : Gl w) :
    Calls Tryd.prog 6 #[lgV e v] w fun en w' => en = .returned (.string (srB e l)) ∧ Below w.heap.size w w' := by
  obtain ⟨a1, cv1, rfl⟩ := hr.shape
  simp only [lgV] at *
  obtain ⟨w2, hw2⟩ : ∃ w2, w.alloc (.cells #[.int .i64 e, .slice a1 l.length cv1] 26) = w2 := ⟨_, rfl⟩
  have hb2 : Below w.heap.size w w2 := by rw [← hw2]; exact (Below.refl _ w).alloc (Nat.le_refl _) _
  have k1 : Blk w2 w.heap.size 26 [.int .i64 e, .slice a1 l.length cv1] := by rw [← hw2]; exact Blk.new w _ _
  have HO := hide (implLedgerOk_any e _ l w2 (hr.below hb2 (Nat.le_refl _)) hl hall)
  unfold lgV at HO
  have c0 := k1.cell 0
  have c1 := k1.cell 1
  simp only [List.getElem?_cons_zero, List.getElem?_cons_succ] at c0 c1
  have Hr := hide hr
  have K1 := hide k1
  have Hb2 := hide hb2
  have Hgl := hide hgl
  clear hr k1 hb2 hall hgl
  have Hsm := hide (fun h => lg_small (e := e) (l := l) h)
  have HX : Hid (srB e l = if lgB e l = true then (if 64 < (l.map acT).length then ByteArray.empty else rootB (l.map acT)) else ByteArray.empty) := hide rfl
  cases hx : lgB e l
  · rw [hx, if_neg (by simp)] at HX
    rw [hx] at HO
    clear hx Hsm
    go_enter Tryd.func6, Tryd.ntmps6
    go_wp2_with fail
    refine HO.out.mono ?_
    rintro en w3 ⟨rfl, hb3⟩
    have HB := hide (Hb2.out.trans (hb3.mono Hb2.out.size))
    clear c0 c1 hb3 hw2
    go_wp2
    go_ret
    exact ⟨by rw [HX.out] <;> rfl, HB.out⟩
  · rw [hx, if_pos rfl] at HX
    rw [hx] at HO
    have hsm := Hsm.out hx
    clear hx Hsm
    go_enter Tryd.func6, Tryd.ntmps6
    go_wp2_with fail
    refine HO.out.mono ?_
    rintro en w3 ⟨rfl, hb3⟩
    have hs3 := hb3.size
    have k3 := K1.out.below hb3 K1.out.lt
    have Hb3 := hide hb3
    clear c0 c1 hb3 hw2
    have c0 := k3.cell 0
    have c1 := k3.cell 1
    simp only [List.getElem?_cons_zero, List.getElem?_cons_succ] at c0 c1
    have b4 := Hb3.out
    go_wp2
    go_loopw [3, 12] (fun tv iv wr => ∃ i : Nat, i ≤ l.length ∧ iv = .int .i64 (i : Int) ∧ OwnS w2.heap.size wr tv ((l.take i).map acT) ∧ Below w2.heap.size w2 wr) (fun _ iv _ => l.length - (intOf iv).toNat)
    case atStart => exact ⟨0, by omega, rfl, by rw [List.take_zero]; exact own_noneS _ _, b4⟩
    case round =>
      obtain ⟨i, hi, rfl, ho, hb⟩ := hrel
      clear k3 b4
      have hwr := hb.size
      have kr := K1.out.below hb K1.out.lt
      have c0 := kr.cell 0
      have c1 := kr.cell 1
      simp only [List.getElem?_cons_zero, List.getElem?_cons_succ] at c0 c1
      by_cases hlt : i < l.length
      · obtain ⟨b, off, lv, rfl, hc1, hc2, hbw, hA, hL⟩ := Hr.out.at6 hlt
        have hB := Hb2.out.trans (hb.mono Hb2.out.size)
        have hA' := hA.below hB hbw
        have hL' := hL.below hB (Nat.le_refl _)
        have sm := hsm l[i] (List.getElem_mem _)
        have Hsn := hide (acT_snoc l i hlt)
        have htl : ((l.take i).map acT).length ≤ 4000000 := by simp; omega
        have HT := hide (fun V (hv : Below wr.heap.size wr V) => implText_any l[i] lv V (hL'.below hv (Nat.le_refl _)) sm.nm sm.lv sm.b1 sm.b2 sm.b3 sm.b4)
        have HaT : Hid (acT l[i] = ⟨(acP l[i]).toArray⟩) := hide rfl
        generalize (l.take i).map acT = pre at ho Hsn htl
        generalize l[i] = A at hA' hL' sm HT Hsn HaT
        obtain ⟨An, Af, Ao, As, Al⟩ := A
        obtain ⟨q0, q1, q2, q3, q4⟩ := hA'
        simp only [acV] at q0 q1 q2 q3 q4 HT
        obtain ⟨av, cv, rfl⟩ := hL'.shape
        have hli : (i : Int) < (l.length : Int) := by omega
        have Ho := hide ho
        have Hb := hide hb
        clear hA hL hL' sm ho hb kr hB
        generalize acP (An, Af, Ao, As, Al) = R at HT HaT
        obtain ⟨w4, hw4⟩ : ∃ w4, wr.alloc (.cells #[.string An, .int .i64 Af, .int .i64 Ao, .int .i64 As, .slice av Al.length cv] 33) = w4 := ⟨_, rfl⟩
        have b4 : Below wr.heap.size wr w4 := by rw [← hw4]; exact (Below.refl _ wr).alloc (Nat.le_refl _) _
        have m4 : Blk w4 wr.heap.size 33 [.string An, .int .i64 Af, .int .i64 Ao, .int .i64 As, .slice av Al.length cv] := by rw [← hw4]; exact Blk.new wr _ _
        have x0 := m4.cell 0
        have x1 := m4.cell 1
        have x2 := m4.cell 2
        have x3 := m4.cell 3
        have x4 := m4.cell 4
        simp only [List.getElem?_cons_zero, List.getElem?_cons_succ] at x0 x1 x2 x3 x4
        have HT4 := hide (HT.out w4 b4)
        have hs4 := b4.size
        have Hb4 := hide b4
        clear m4 b4 HT
        go_wp2_with fail
        refine HT4.out.mono ?_
        rintro en w5 ⟨rfl, hb5⟩
        have o5 := (Ho.out.below Hb4.out (Nat.le_refl _)).below hb5 (Nat.le_refl _)
        have hs5 := hb5.size
        have Hb5 := hide ((Hb.out.trans (Hb4.out.mono hwr)).trans (hb5.mono (Nat.le_trans hwr hs4)))
        clear q0 q1 q2 q3 q4 c0 c1 hb5 x0 x1 x2 x3 x4 hw4
        rw [← HaT.out]
        generalize acT (An, Af, Ao, As, Al) = X at Hsn
        go_wp2_with (at_builtin; refine app_ownS _ rfl _ _ rfl w2.heap.size _ _ pre [X] rfl rfl (o5.alloc _) (rd6_one _ _ X (by simp) (c6_at rfl rfl)) (by simp; omega) (by first | omega | (simp; omega)) ?_; intro v1 w6 ho1 hb6)
        have HB := hide ((Hb5.out.alloc (by omega) (.cells #[.string X] 9)).trans hb6)
        go_roundw
        case rel => exact ⟨i + 1, by omega, by go_num, by rw [Hsn.out]; exact ho1, HB.out⟩
        case measure => simp [intOf]; omega
      · have ei : i = l.length := by omega
        subst ei
        rw [List.take_length] at ho
        have HR := hide (implRootOf_any (l.map acT) u3 wr (by simp; omega) ho.rd (acT_all hsm) (Hgl.out.below (Hb2.out.trans (hb.mono Hb2.out.size)) (Nat.le_refl _)))
        have HB := hide (Hb2.out.trans (hb.mono Hb2.out.size))
        generalize (if 64 < (l.map acT).length then ByteArray.empty else rootB (l.map acT)) = R at HX HR
        clear ho hb kr hsm
        go_wp2_with fail
        refine HR.out.mono ?_
        rintro en w9 ⟨rfl, hb9⟩
        have HB9 := hide (HB.out.trans (hb9.mono HB.out.size))
        clear hb9 c0 c1
        go_wp2
        go_ret
        exact ⟨by rw [HX.out] <;> rfl, HB9.out⟩
end Go.Proofs.YtdelegamcebflaaDoor
