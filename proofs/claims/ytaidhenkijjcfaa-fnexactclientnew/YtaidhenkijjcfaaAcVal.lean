/- An account by value: made, held against another, its size. -/
import Derived.Test.YtaidhenkijjcfaaAcEq
import Derived.Test.YtaidhenkijjcfaaStrs
namespace Go.Proofs.Ytaidhenkijjcfaa
open Go.RowKit
set_option linter.unusedVariables false

/-- An account: its name, what is free, how many orders, what is at stake, what leaves. -/
abbrev Ac := ByteArray × Int × Int × Int × List (Int × Int)
/-- Its value, its list of what leaves being lv. -/
def acV (a : Ac) (lv : Value) : Value := .agg #[.string a.1, .int .i64 a.2.1, .int .i64 a.2.2.1, .int .i64 a.2.2.2.1, lv]

set_option maxRecDepth 20000 in
set_option maxHeartbeats 1000000 in
theorem toAcct_any (a : Ac) (lv : Value) (w : World) (hr : RdL w lv a.2.2.2.2) (hl : a.2.2.2.2.length ≤ 4000000) :
    Calls Try.prog 27 #[acV a lv] w fun e w' => ∃ lv', e = .returned (acV a lv') ∧ OwnL w.heap.size w' lv' a.2.2.2.2 ∧ Below w.heap.size w w' := by
  obtain ⟨nm, fr, no, st, ls⟩ := a
  obtain ⟨av, cv, rfl⟩ := hr.shape
  have Hr := hide hr
  clear hr
  simp only [acV] at *
  go_enter Try.func27, Try.ntmps27
  have HB0 := hide ((((Below.refl _ w).alloc (Nat.le_refl _) (.cells #[.string nm, .int .i64 fr, .int .i64 no, .int .i64 st, .slice av ls.length cv] 50)).alloc (by simp) (.cells #[.string { data := #[] }, .int .i64 0, .int .i64 0, .int .i64 0, .slice none 0 0] 55)).alloc (by simp; omega) (.cells #[.string nm, .int .i64 fr, .int .i64 no, .int .i64 st, .slice none 0 0] 55))
  go_wp2_with fail
  refine (toLeaveS_any _ ls _ (Hr.out.below HB0.out (Nat.le_refl _)) hl).mono ?_
  rintro e w4 ⟨lv', rfl, ho4, hb4⟩
  have hk := (Blk.new ((w.alloc (.cells #[.string nm, .int .i64 fr, .int .i64 no, .int .i64 st, .slice av ls.length cv] 50)).alloc (.cells #[.string { data := #[] }, .int .i64 0, .int .i64 0, .int .i64 0, .slice none 0 0] 55)) 55 [.string nm, .int .i64 fr, .int .i64 no, .int .i64 st, .slice none 0 0]).below hb4 (by simp)
  simp only [World.size_alloc] at hk
  have c0 := hk.cell 0
  have c1 := hk.cell 1
  have c2 := hk.cell 2
  have c3 := hk.cell 3
  have c4 := hk.cell 4
  have f4 := hk.frozen 4
  simp only [List.getElem?_cons_zero, List.getElem?_cons_succ] at c0 c1 c2 c3 c4
  have hk1 := (Blk.below (Blk.new (w.alloc (.cells #[.string nm, .int .i64 fr, .int .i64 no, .int .i64 st, .slice av ls.length cv] 50)) 55 [.string { data := #[] }, .int .i64 0, .int .i64 0, .int .i64 0, .slice none 0 0]) ((Below.refl _ _).alloc (Nat.le_refl _) (.cells #[.string nm, .int .i64 fr, .int .i64 no, .int .i64 st, .slice none 0 0] 55)) (by simp)).below hb4 (by simp)
  simp only [World.size_alloc] at hk1
  have d0 := hk1.cell 0
  have d1 := hk1.cell 1
  have d2 := hk1.cell 2
  have d3 := hk1.cell 3
  have d4 := hk1.cell 4
  have g0 := hk1.frozen 0
  have g1 := hk1.frozen 1
  have g2 := hk1.frozen 2
  have g3 := hk1.frozen 3
  have g4 := hk1.frozen 4
  simp only [List.getElem?_cons_zero, List.getElem?_cons_succ] at d0 d1 d2 d3 d4
  have ho4' : OwnL w.heap.size w4 lv' ls := ho4.mono (by simp; omega)
  have ge4 := ho4.ge
  obtain ⟨av', cv', rfl⟩ := ho4.rd.shape
  have Ho := hide ho4'
  have Hb4 := hide (HB0.out.trans (hb4.mono (by simp; omega)))
  clear ho4 ho4' hb4 hk hk1 HB0
  go_wp2
  refine bodyPost_ret (v := .agg #[.string nm, .int .i64 fr, .int .i64 no, .int .i64 st, .slice av' ls.length cv']) (by simp [results, Try.f27, go_sem, d0, d1, d2, d3, d4]) rfl ?_
  have n1 : ∀ k, (Value.slice av' ls.length cv').ownBlock = some k → k ≠ w.heap.size + 1 := fun k hk => by have := ge4 k hk; simp at this; omega
  have n2 : ∀ k, (Value.slice av' ls.length cv').ownBlock = some k → k ≠ w.heap.size + 1 + 1 := fun k hk => by have := ge4 k hk; simp at this; omega
  refine ⟨_, rfl, row_set (row_set (row_set (row_set (row_set (row_set Ho.out _ _ _ n2) _ _ _ n1) _ _ _ n1) _ _ _ n1) _ _ _ n1) _ _ _ n1, ?_⟩
  exact (((((Hb4.out.setCell (p := ⟨w.heap.size + 1 + 1, 4, none⟩) (by show w.heap.size ≤ w.heap.size + 1 + 1; omega) _).setCell (p := ⟨w.heap.size + 1, 0, none⟩) (by show w.heap.size ≤ w.heap.size + 1; omega) _).setCell (p := ⟨w.heap.size + 1, 1, none⟩) (by show w.heap.size ≤ w.heap.size + 1; omega) _).setCell (p := ⟨w.heap.size + 1, 2, none⟩) (by show w.heap.size ≤ w.heap.size + 1; omega) _).setCell (p := ⟨w.heap.size + 1, 3, none⟩) (by show w.heap.size ≤ w.heap.size + 1; omega) _).setCell (p := ⟨w.heap.size + 1, 4, none⟩) (by show w.heap.size ≤ w.heap.size + 1; omega) _
set_option maxRecDepth 20000 in
set_option maxHeartbeats 1000000 in
theorem eqAcct_any (a b : Ac) (la lb : Value) (w : World) (hra : RdL w la a.2.2.2.2) (hrb : RdL w lb b.2.2.2.2) (hl1 : a.2.2.2.2.length ≤ 4000000) (hl2 : b.2.2.2.2.length ≤ 4000000) :
    Calls Try.prog 31 #[acV a la, acV b lb] w fun e w' => e = .returned (.bool (decide (a = b))) ∧ Below w.heap.size w w' := by
  obtain ⟨n1, f1, o1, s1, l1⟩ := a
  obtain ⟨n2, f2, o2, s2, l2⟩ := b
  obtain ⟨av, ac, rfl⟩ := hra.shape
  obtain ⟨bv, bc, rfl⟩ := hrb.shape
  have HB := hide (((Below.refl _ w).alloc (Nat.le_refl _) (.cells #[.string n1, .int .i64 f1, .int .i64 o1, .int .i64 s1, .slice av l1.length ac] 55)).alloc (by simp) (.cells #[.string n2, .int .i64 f2, .int .i64 o2, .int .i64 s2, .slice bv l2.length bc] 55))
  have Ha := hide (hra.below HB.out (Nat.le_refl _))
  have Hb := hide (hrb.below HB.out (Nat.le_refl _))
  clear hra hrb
  simp only [acV] at *
  by_cases h1 : n1 = n2
  · by_cases h2 : f1 = f2
    · by_cases h3 : o1 = o2
      · by_cases h4 : s1 = s2
        · subst h1 h2 h3 h4
          have Hd : Hid (decide (((n1, f1, o1, s1, l1) : Ac) = (n1, f1, o1, s1, l2)) = decide (l1 = l2)) := hide (by simp)
          have HE := hide (eqLeaveS_any _ _ l1 l2 _ Ha.out Hb.out hl1 hl2)
          by_cases hq : l1 = l2
          · rw [decide_eq_true hq] at HE Hd
            clear hq
            go_enter Try.func31, Try.ntmps31
            go_wp2_with fail
            refine HE.out.mono ?_
            rintro e w3 ⟨rfl, hb3⟩
            have hB3 := HB.out.trans (hb3.mono HB.out.size)
            go_wp2
            go_ret
            exact ⟨ret_bool Hd.out.symm, hB3⟩
          · rw [decide_eq_false hq] at HE Hd
            clear hq
            go_enter Try.func31, Try.ntmps31
            go_wp2_with fail
            refine HE.out.mono ?_
            rintro e w3 ⟨rfl, hb3⟩
            have hB3 := HB.out.trans (hb3.mono HB.out.size)
            go_wp2
            go_ret
            exact ⟨ret_bool Hd.out.symm, hB3⟩
        · subst h1 h2 h3
          have Hd : Hid (decide (((n1, f1, o1, s1, l1) : Ac) = (n1, f1, o1, s2, l2)) = false) := hide (by rw [decide_eq_false]; intro e; simp only [Prod.mk.injEq] at e; exact h4 e.2.2.2.1)
          have hq : (s1 != s2) = true := by rw [bne_iff_ne]; exact h4
          clear h4
          go_enter Try.func31, Try.ntmps31
          go_wp2
          go_ret
          exact ⟨ret_bool Hd.out.symm, HB.out⟩
      · subst h1 h2
        have Hd : Hid (decide (((n1, f1, o1, s1, l1) : Ac) = (n1, f1, o2, s2, l2)) = false) := hide (by rw [decide_eq_false]; intro e; simp only [Prod.mk.injEq] at e; exact h3 e.2.2.1)
        have hq : (o1 != o2) = true := by rw [bne_iff_ne]; exact h3
        clear h3
        go_enter Try.func31, Try.ntmps31
        go_wp2
        go_ret
        exact ⟨ret_bool Hd.out.symm, HB.out⟩
    · subst h1
      have Hd : Hid (decide (((n1, f1, o1, s1, l1) : Ac) = (n1, f2, o2, s2, l2)) = false) := hide (by rw [decide_eq_false]; intro e; simp only [Prod.mk.injEq] at e; exact h2 e.2.1)
      have hq : (f1 != f2) = true := by rw [bne_iff_ne]; exact h2
      clear h2
      go_enter Try.func31, Try.ntmps31
      go_wp2
      go_ret
      exact ⟨ret_bool Hd.out.symm, HB.out⟩
  · have Hd : Hid (decide (((n1, f1, o1, s1, l1) : Ac) = (n2, f2, o2, s2, l2)) = false) := hide (by rw [decide_eq_false]; intro e; simp only [Prod.mk.injEq] at e; exact h1 e.1)
    have hq := bytes_ne h1
    clear h1
    go_enter Try.func31, Try.ntmps31
    go_wp2
    go_ret
    exact ⟨ret_bool Hd.out.symm, HB.out⟩

/-- What is left of m behind an account (-1: it is less than nothing). -/
def szAc (a : Ac) (m : Int) : Int := if m - a.1.size < 0 then -1 else if m - a.1.size - a.2.2.2.2.length < 0 then -1 else m - a.1.size - a.2.2.2.2.length
set_option maxRecDepth 20000 in
set_option maxHeartbeats 1000000 in
theorem szAcct_any (a : Ac) (la : Value) (m : Int) (w : World) (hr : RdL w la a.2.2.2.2) (hm0 : 0 ≤ m) (hm : m ≤ 100000000) (hn : a.1.size ≤ 9223372036854775807) (hl : a.2.2.2.2.length ≤ 9223372036854775807) :
    Calls Try.prog 24 #[acV a la, .int .i64 m] w fun e w' => e = .returned (.int .i64 (szAc a m)) ∧ Below w.heap.size w w' := by
  obtain ⟨n1, f1, o1, s1, l1⟩ := a
  obtain ⟨av, ac, rfl⟩ := hr.shape
  have HB := hide ((Below.refl _ w).alloc (Nat.le_refl _) (.cells #[.string n1, .int .i64 f1, .int .i64 o1, .int .i64 s1, .slice av l1.length ac] 50))
  clear hr
  simp only [acV] at *
  have w1 : IntKind.i64.wrap (m - (n1.size : Int)) = m - n1.size := by rw [IntKind.wrap_i64]; omega
  by_cases h1 : m - (n1.size : Int) < 0
  · have Hs : Hid (szAc (n1, f1, o1, s1, l1) m = -1) := hide (by unfold szAc; rw [if_pos h1])
    go_enter Try.func24, Try.ntmps24
    go_wp2
    go_ret
    exact ⟨ret_int Hs.out.symm, HB.out⟩
  · have w2 : IntKind.i64.wrap (m - (n1.size : Int) - (l1.length : Int)) = m - n1.size - l1.length := by rw [IntKind.wrap_i64]; omega
    by_cases h2 : m - (n1.size : Int) - (l1.length : Int) < 0
    · have Hs : Hid (szAc (n1, f1, o1, s1, l1) m = -1) := hide (by unfold szAc; rw [if_neg h1, if_pos h2])
      go_enter Try.func24, Try.ntmps24
      go_wp2
      go_ret
      exact ⟨ret_int Hs.out.symm, HB.out⟩
    · have Hs : Hid (szAc (n1, f1, o1, s1, l1) m = m - n1.size - l1.length) := hide (by unfold szAc; rw [if_neg h1, if_neg h2])
      go_enter Try.func24, Try.ntmps24
      go_wp2
      go_ret
      exact ⟨ret_int Hs.out.symm, HB.out⟩
end Go.Proofs.Ytaidhenkijjcfaa
