/- A ledger by value: made, held against another, its size, marked and looked at again. -/
import Derived.Test.YtaidhenkijjcfaaAcEqS
import Derived.Test.YtaidhenkijjcfaaAcMarkS
import Derived.Test.YtaidhenkijjcfaaAcHeld
namespace Go.Proofs.Ytaidhenkijjcfaa
open Go.RowKit
set_option linter.unusedVariables false

/-- A ledger's value: its epoch, its accounts being v. -/
def lgV (e : Int) (v : Value) : Value := .agg #[.int .i64 e, v]
/-- A write into an older block leaves what the call owns. -/
theorem OwnA.older {base : Nat} {w : World} {v : Value} {l : List Ac} (h : OwnA base w v l) {g : Nat} (hg : g < base) (j : Nat) (u : Value) : OwnA base (w.setCell ⟨g, j, none⟩ u) v l :=
  (h.ox.btw (Btw.of_grown (lo := 0) (hi := base) (grown_set w g j u) (fun k hk => ⟨Nat.zero_le _, by cases hk; exact hg⟩)) (.inr (Nat.le_refl _))).own

set_option maxRecDepth 20000 in
set_option maxHeartbeats 1000000 in
theorem toLedger_any (e : Int) (v : Value) (l : List Ac) (w : World) (hr : RdA w v l) (hl : l.length ≤ 4000000) (hall : ∀ a ∈ l, a.2.2.2.2.length ≤ 4000000) :
    Calls Try.prog 6 #[lgV e v] w fun en w' => ∃ v', en = .returned (lgV e v') ∧ OwnA w.heap.size w' v' l ∧ Below w.heap.size w w' := by
  obtain ⟨av, cv, rfl⟩ := hr.shape
  have Hr := hide hr
  clear hr
  simp only [lgV] at *
  go_enter Try.func6, Try.ntmps6
  go_wp2_with fail
  obtain ⟨w3, hw3⟩ : ∃ w3, ((w.alloc (.cells #[.int .i64 e, .slice av l.length cv] 24)).alloc (.cells #[.int .i64 0, .slice none 0 0] 32)).alloc (.cells #[.int .i64 e, .slice none 0 0] 32) = w3 := ⟨_, rfl⟩
  rw [hw3]
  have hb3 : Below w.heap.size w w3 := by rw [← hw3]; exact (((Below.refl _ w).alloc (Nat.le_refl _) _).alloc (by simp) _).alloc (by simp; omega) _
  have hs3 : w3.heap.size = w.heap.size + 3 := by rw [← hw3]; simp
  have kO : Blk w3 (w.heap.size + 1 + 1) 32 [.int .i64 e, .slice none 0 0] := by
    rw [← hw3]
    have h := Blk.new ((w.alloc (.cells #[.int .i64 e, .slice av l.length cv] 24)).alloc (.cells #[.int .i64 0, .slice none 0 0] 32)) 32 [.int .i64 e, .slice none 0 0]
    simp only [World.size_alloc] at h
    exact h
  have kR : Blk w3 (w.heap.size + 1) 32 [.int .i64 0, .slice none 0 0] := by
    rw [← hw3]
    have h := Blk.new (w.alloc (.cells #[.int .i64 e, .slice av l.length cv] 24)) 32 [.int .i64 0, .slice none 0 0]
    simp only [World.size_alloc] at h
    exact h.below ((Below.refl (w.heap.size + 2) _).alloc (by simp) _) (by omega)
  refine (toAcctS_any _ l _ (Hr.out.below hb3 (Nat.le_refl _)) hl hall).mono ?_
  rintro en w4 ⟨v4, rfl, ho4, hb4⟩
  have kO4 := kO.below hb4 (by omega)
  have kR4 := kR.below hb4 (by omega)
  have c0 := kO4.cell 0
  have c1 := kO4.cell 1
  have g1 := kO4.frozen 1
  have r0 := kR4.cell 0
  have r1 := kR4.cell 1
  have q0 := kR4.frozen 0
  have q1 := kR4.frozen 1
  simp only [List.getElem?_cons_zero, List.getElem?_cons_succ] at c0 c1 r0 r1
  obtain ⟨a4, cv4, rfl⟩ := ho4.rd.shape
  have Ho := hide ho4
  have Hb := hide (hb3.trans (hb4.mono hb3.size))
  clear ho4 hb4 kO kR kO4 kR4 hw3 hb3
  go_wp2
  refine bodyPost_ret (v := .agg #[.int .i64 e, .slice a4 l.length cv4]) (by simp [results, Try.f6, go_sem, r0, r1]) rfl ?_
  refine ⟨_, rfl, ?_, ?_⟩
  · exact (((Ho.out.older (by omega) _ _).older (by omega) _ _).older (by omega) _ _).mono (by omega)
  · exact ((Hb.out.setCell (p := ⟨w.heap.size + 1 + 1, 1, none⟩) (show w.heap.size ≤ w.heap.size + 1 + 1 by omega) _).setCell (p := ⟨w.heap.size + 1, 0, none⟩) (show w.heap.size ≤ w.heap.size + 1 by omega) _).setCell (p := ⟨w.heap.size + 1, 1, none⟩) (show w.heap.size ≤ w.heap.size + 1 by omega) _
open Classical in
set_option maxRecDepth 20000 in
set_option maxHeartbeats 1000000 in
theorem eqLedger_any (e1 e2 : Int) (v1 v2 : Value) (l1 l2 : List Ac) (w : World) (hr1 : RdA w v1 l1) (hr2 : RdA w v2 l2) (hl1 : l1.length ≤ 4000000) (hl2 : l2.length ≤ 4000000) (ha1 : ∀ a ∈ l1, a.2.2.2.2.length ≤ 4000000) (ha2 : ∀ a ∈ l2, a.2.2.2.2.length ≤ 4000000) :
    Calls Try.prog 9 #[lgV e1 v1, lgV e2 v2] w fun e w' => e = .returned (.bool (decide (e1 = e2) && decide (l1 = l2))) ∧ Below w.heap.size w w' := by
  obtain ⟨a1, cv1, rfl⟩ := hr1.shape
  obtain ⟨a2, cv2, rfl⟩ := hr2.shape
  simp only [lgV] at *
  have hb3 : Below w.heap.size w ((w.alloc (.cells #[.int .i64 e1, .slice a1 l1.length cv1] 32)).alloc (.cells #[.int .i64 e2, .slice a2 l2.length cv2] 32)) := ((Below.refl _ w).alloc (Nat.le_refl _) _).alloc (by simp) _
  have HE := hide (eqAcctS_any _ _ l1 l2 _ (hr1.below hb3 (Nat.le_refl _)) (hr2.below hb3 (Nat.le_refl _)) hl1 hl2 ha1 ha2)
  have Hb3 := hide hb3
  clear hb3 hr1 hr2
  generalize decide (l1 = l2) = D at HE ⊢
  by_cases h1 : e1 = e2
  · rw [decide_eq_true h1, Bool.true_and]
    subst h1
    go_enter Try.func9, Try.ntmps9
    go_wp2_with fail
    refine HE.out.mono ?_
    rintro e w3 ⟨rfl, hb3⟩
    have HB := hide (Hb3.out.trans (hb3.mono Hb3.out.size))
    clear hb3 Hb3 HE
    cases D
    · go_wp2
      go_ret
      exact ⟨rfl, HB.out⟩
    · go_wp2
      go_ret
      exact ⟨rfl, HB.out⟩
  · rw [decide_eq_false h1, Bool.false_and]
    have hq : (e1 != e2) = true := by rw [bne_iff_ne]; exact h1
    clear h1 HE
    go_enter Try.func9, Try.ntmps9
    go_wp2
    go_ret
    exact ⟨rfl, Hb3.out⟩
set_option maxRecDepth 20000 in
theorem szLedger_any (e : Int) (v : Value) (l : List Ac) (m : Nat) (w : World) (hr : RdA w v l) (hm : m ≤ 100000000) (hl : l.length ≤ 9223372036854775807) (hs : ∀ a ∈ l, a.1.size ≤ 9223372036854775807 ∧ a.2.2.2.2.length ≤ 9223372036854775807) :
    Calls Try.prog 4 #[lgV e v, .int .i64 (m : Int)] w fun en w' => ∃ r : Int, en = .returned (.int .i64 r) ∧ (0 ≤ r → l.length + totA l ≤ m ∧ r ≤ (m : Int)) ∧ Below w.heap.size w w' := by
  obtain ⟨a1, cv1, rfl⟩ := hr.shape
  simp only [lgV] at *
  have hb3 : Below w.heap.size w (w.alloc (.cells #[.int .i64 e, .slice a1 l.length cv1] 24)) := (Below.refl _ w).alloc (Nat.le_refl _) _
  have HE := hide (szAcctS_any _ l m _ (hr.below hb3 (Nat.le_refl _)) hm hl hs)
  have Hb3 := hide hb3
  clear hb3 hr
  go_enter Try.func4, Try.ntmps4
  go_wp2_with fail
  refine HE.out.mono ?_
  rintro en w3 ⟨r, rfl, hr3, hb3⟩
  have HB := hide (Hb3.out.trans (hb3.mono Hb3.out.size))
  have HR := hide hr3
  clear hb3 Hb3 HE hr3
  by_cases h : r < 0
  · go_wp2
    go_ret
    exact ⟨-1, rfl, by omega, HB.out⟩
  · go_wp2
    go_ret
    exact ⟨r, rfl, HR.out, HB.out⟩
set_option maxRecDepth 20000 in
theorem markLedger_any (e : Int) (v : Value) (l : List Ac) (k base hi : Nat) (w : World) (ho : OwnX base hi w v l) (hl : l.length ≤ 10000000) (hlv : ∀ a ∈ l, a.2.2.2.2.length ≤ 10000000) (hk : nxs k l ≤ 90000000) (hk0 : 0 < k) :
    Calls Try.prog 10 #[lgV e v, .int .i64 (k : Int)] w fun en w' => en = .returned (.int .i64 ((nxs k l : Nat) : Int)) ∧ OwnX base hi w' v (mkAs k l) ∧ Btw base hi w w' := by
  obtain ⟨a1, cv1, rfl⟩ := ho.rd.shape
  simp only [lgV] at *
  have hb3 : Below w.heap.size w (w.alloc (.cells #[.int .i64 e, .slice a1 l.length cv1] 32)) := (Below.refl _ w).alloc (Nat.le_refl _) _
  have HE := hide (markAcctS_any _ l k base hi _ (ho.below hb3 (Nat.le_refl _)) hl hlv hk hk0)
  have Hb3 := hide hb3
  clear hb3 ho
  go_enter Try.func10, Try.ntmps10
  go_wp2_with fail
  refine HE.out.mono ?_
  rintro en w3 ⟨rfl, ho3, hb3⟩
  have Ho := hide ho3
  have HB := hide ((Btw.of_below (lo := base) (hi := hi) Hb3.out).trans hb3)
  clear ho3 hb3 HE Hb3
  go_wp2
  go_ret
  exact ⟨rfl, Ho.out, HB.out⟩
end Go.Proofs.Ytaidhenkijjcfaa
