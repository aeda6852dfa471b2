/- One who only follows, by value: an epoch and who votes in it; made, held against another, its size, marked and looked at again. -/
import Derived.Test.YtaidhenkijjcfaaLgVal
import Derived.Test.YtaidhenkijjcfaaVsMark
import Derived.Test.YtaidhenkijjcfaaVsEq
namespace Go.Proofs.Ytaidhenkijjcfaa
open Go.RowKit
set_option linter.unusedVariables false

/-- The slice v, of the call's own between the blocks base and hi, reads as the names with weights l. -/
structure OwnC (base hi : Nat) (w : World) (v : Value) (l : List Vl) : Prop where
  own : OwnV base w v l
  top : ∀ k, v.ownBlock = some k → k < hi
theorem OwnC.rd {base hi : Nat} {w : World} {v : Value} {l : List Vl} (h : OwnC base hi w v l) : RdV w v l := h.own.rd
theorem OwnC.below {B base hi : Nat} {w w' : World} {v : Value} {l : List Vl} (h : OwnC base hi w v l) (hb : Below B w w') (hB : w.heap.size ≤ B) : OwnC base hi w' v l := ⟨h.own.below hb hB, h.top⟩
theorem OwnC.btw {lo hi' base hi : Nat} {w w' : World} {v : Value} {l : List Vl} (h : OwnC base hi w v l) (hb : Btw lo hi' w w') (hd : hi ≤ lo ∨ hi' ≤ base) : OwnC base hi w' v l :=
  ⟨row_btw h.own hb (fun k hk => by have h1 := h.top k hk; have h2 := h.own.ge k hk; omega), h.top⟩
theorem OwnV.oc {base : Nat} {w : World} {v : Value} {l : List Vl} (h : OwnV base w v l) : OwnC base w.heap.size w v l := ⟨h, fun k hk => h.lt k hk⟩
theorem OwnV.olderC {base : Nat} {w : World} {v : Value} {l : List Vl} (h : OwnV base w v l) {g : Nat} (hg : g < base) (j : Nat) (u : Value) : OwnV base (w.setCell ⟨g, j, none⟩ u) v l :=
  (h.oc.btw (Btw.of_grown (lo := 0) (hi := base) (grown_set w g j u) (fun k hk => ⟨Nat.zero_le _, by cases hk; exact hg⟩)) (.inr (Nat.le_refl _))).own

open Classical in
set_option maxRecDepth 20000 in
set_option maxHeartbeats 1000000 in
theorem eqClient_any (e1 e2 : Int) (v1 v2 : Value) (l1 l2 : List Vl) (w : World) (hr1 : RdV w v1 l1) (hr2 : RdV w v2 l2) (hl1 : l1.length ≤ 4000000) (hl2 : l2.length ≤ 4000000) :
    Calls Try.prog 8 #[lgV e1 v1, lgV e2 v2] w fun e w' => e = .returned (.bool (decide (e1 = e2) && decide (l1 = l2))) ∧ Below w.heap.size w w' := by
  obtain ⟨a1, cv1, rfl⟩ := hr1.shape
  obtain ⟨a2, cv2, rfl⟩ := hr2.shape
  simp only [lgV] at *
  have hb3 : Below w.heap.size w ((w.alloc (.cells #[.int .i64 e1, .slice a1 l1.length cv1] 28)).alloc (.cells #[.int .i64 e2, .slice a2 l2.length cv2] 28)) := ((Below.refl _ w).alloc (Nat.le_refl _) _).alloc (by simp) _
  have HE := hide (eqValS_any _ _ l1 l2 _ (hr1.below hb3 (Nat.le_refl _)) (hr2.below hb3 (Nat.le_refl _)) hl1 hl2)
  have Hb3 := hide hb3
  clear hb3 hr1 hr2
  generalize decide (l1 = l2) = D at HE ⊢
  by_cases h1 : e1 = e2
  · rw [decide_eq_true h1, Bool.true_and]
    subst h1
    go_enter Try.func8, Try.ntmps8
    go_wp2_with fail
    refine HE.out.mono ?_
    rintro e w3 ⟨rfl, hb3⟩
    have HB := hide (Hb3.out.trans (hb3.mono Hb3.out.size))
    clear hb3 Hb3 HE
    cases D
    · go_wp2
      go_ret
      exact ⟨rfl, HB.out⟩
    · go_wp2
      go_ret
      exact ⟨rfl, HB.out⟩
  · rw [decide_eq_false h1, Bool.false_and]
    have hq : (e1 != e2) = true := by rw [bne_iff_ne]; exact h1
    clear h1 HE
    go_enter Try.func8, Try.ntmps8
    go_wp2
    go_ret
    exact ⟨rfl, Hb3.out⟩
set_option maxRecDepth 20000 in
theorem markClient_any (e : Int) (v : Value) (l : List Vl) (k base hi : Nat) (w : World) (ho : OwnC base hi w v l) (hl : l.length ≤ 10000000) (hk : k ≤ 100000000) (hk0 : 0 < k) :
    Calls Try.prog 11 #[lgV e v, .int .i64 (k : Int)] w fun en w' => en = .returned (.int .i64 ((k + 2 * l.length : Nat) : Int)) ∧ OwnC base hi w' v (mkV k l.length) ∧ Btw base hi w w' := by
  obtain ⟨a1, cv1, rfl⟩ := ho.rd.shape
  simp only [lgV] at *
  have hb3 : Below w.heap.size w (w.alloc (.cells #[.int .i64 e, .slice a1 l.length cv1] 28)) := (Below.refl _ w).alloc (Nat.le_refl _) _
  have HE := hide (markValS_any _ l k base _ (ho.own.below hb3 (Nat.le_refl _)) hl hk hk0)
  have Hb3 := hide hb3
  have Hg := hide (fun g (hg : (Value.slice a1 l.length cv1).ownBlock = some g) => And.intro (ho.own.ge g hg) (ho.top g hg))
  clear hb3 ho
  generalize k + 2 * l.length = kn at HE ⊢
  go_enter Try.func11, Try.ntmps11
  go_wp2_with fail
  refine HE.out.mono ?_
  rintro en w3 ⟨rfl, ho3, hg3⟩
  have Ho := hide (OwnC.mk ho3 (fun g hg => (Hg.out g hg).2))
  have HB := hide ((Btw.of_below (lo := base) (hi := hi) Hb3.out).trans (Btw.of_grown hg3 Hg.out))
  clear ho3 hg3 HE Hb3 Hg
  go_wp2
  go_ret
  exact ⟨rfl, Ho.out, HB.out⟩
set_option maxRecDepth 20000 in
theorem heldClient_any (e : Int) (v : Value) (n k : Nat) (w : World) (hr : RdV w v (mkV k n)) (hl : n ≤ 10000000) (hk : k ≤ 100000000) (hk0 : 0 < k) :
    Calls Try.prog 12 #[lgV e v, .int .i64 (k : Int)] w fun en w' => en = .returned (.int .i64 ((k + 2 * n : Nat) : Int)) ∧ Below w.heap.size w w' := by
  obtain ⟨a1, cv1, hv⟩ := hr.shape
  have hb3 : Below w.heap.size w (w.alloc (.cells #[.int .i64 e, v] 28)) := (Below.refl _ w).alloc (Nat.le_refl _) _
  have HE := hide (heldValS_any _ k n _ (hr.below hb3 (Nat.le_refl _)) hl hk hk0)
  have Hb3 := hide hb3
  subst hv
  simp only [lgV] at *
  clear hb3 hr
  have hnn : ¬ ((k + 2 * n : Nat) : Int) < 0 := by omega
  generalize ((k + 2 * n : Nat) : Int) = kn at HE hnn ⊢
  go_enter Try.func12, Try.ntmps12
  go_wp2_with fail
  refine HE.out.mono ?_
  rintro en w3 ⟨rfl, hb3⟩
  have HB := hide (Hb3.out.trans (hb3.mono Hb3.out.size))
  clear hb3 Hb3 HE
  go_wp2
  go_ret
  exact ⟨rfl, HB.out⟩
end Go.Proofs.Ytaidhenkijjcfaa
