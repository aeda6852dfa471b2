/- Votes and leavings drawn, with those who vote. -/
import Derived.Test.YtdelegamcebflaaDrawVs
import Derived.Test.YtdelegamcebflaaDrawNm
import Derived.Test.YtdelegamcebflaaCtMem
namespace Go.Proofs.Ytdelegamcebflaa
open Go.RowKit
set_option linter.unusedVariables false

/-- Those who vote are few, their names short, their weights not great. -/
def SmallV (l : List Vl) : Prop := l.length ≤ 6 ∧ ∀ p ∈ l, p.1.size ≤ 9 ∧ 0 ≤ p.2 ∧ p.2 ≤ 1000001
theorem FewV.small {l : List Vl} (h : FewV l) : SmallV l := ⟨by have := h.1; omega, fun p hp => by have := h.2.2 p hp; omega⟩
set_option maxRecDepth 20000 in
set_option maxHeartbeats 2000000 in
theorem l7Any_any (w0 w : World) (g : Nat) (cv : Value) (code : List UInt8) (hc : Cur w0 w g cv code) (hl : code.length ≤ 1048576) :
    Calls Try.prog 14 #[.pointer (some ⟨g, 0, none⟩)] w fun e w' => ∃ (v' : Value) (l : List Vl), e = .returned v' ∧ OwnV w.heap.size w' v' l ∧ SmallV l ∧ Cur w0 w' g cv code ∧ w.grownBy w' (some g) := by
  have hgl := hc.lt
  go_enter Try.func14, Try.ntmps14
  go_wp2_with fail
  refine (l7Draw_any w0 _ g cv code hc hl).mono ?_
  rintro e w1 ⟨v1, l, rfl, o1, -, hfew, hc1, hg1⟩
  obtain ⟨a1, c1, rfl⟩ := o1.rd.shape
  have hs1 := hg1.size
  clear hc
  go_wp2_with fail
  refine (l1Below_any _ _ _ _ _ _ hc1 hl (by omega) (by omega)).mono ?_
  rintro e w2 ⟨x, rfl, -, -, hc2, hg2⟩
  have hs2 := hg2.size
  have o2 := o1.notg hg2 hgl
  have hg2' := grw_trans hg1 hg2
  have Hsm := hide hfew.small
  have hl5 : l.length ≤ 5 := hfew.1
  have Hfew := hide hfew
  clear hfew hc1 hg1 o1 hg2
  by_cases h0 : x = 0
  · subst h0
    have Ho := hide o2
    have Hc := hide hc2
    have Hg := hide hg2'
    clear o2 hc2 hg2'
    go_wp2_with fail
    refine (l1NameAny_any w0 _ g cv code Hc.out hl).mono ?_
    rintro e w3 ⟨s, rfl, hsz, hc3, hg3⟩
    have hs3 := hg3.size
    have o3 := Ho.out.notg hg3 hgl
    have hg3' := grw_trans Hg.out hg3
    obtain ⟨w4, hw4⟩ : ∃ w4, w3.alloc (.cells #[.int .i64 0, .int .i64 1, .int .i64 1000001] 3) = w4 := ⟨_, rfl⟩
    have b4 : Below w3.heap.size w3 w4 := by rw [← hw4]; exact (Below.refl _ w3).alloc (Nat.le_refl _) _
    have HI4 : Hid (IntsAt w4 w3.heap.size [0, 1, 1000001]) := hide (by rw [← hw4]; exact ints_new w3 [0, 1, 1000001] 3)
    have Hc4 := hide (hc3.below b4 hc3.lt)
    have Ho4 := hide (o3.below b4 (Nat.le_refl _))
    have Hg4 := hide (grw_below hg3' b4 (by omega))
    have hs4 := b4.size
    clear o3 hc3 hg3 hg3' b4 Ho Hc Hg
    go_wp2_with fail
    refine (l1Int_any w0 _ g w3.heap.size cv code [0, 1, 1000001] Hc4.out hl HI4.out (by omega) (by simp) (by simp) 3).mono ?_
    rintro e w5 ⟨n, rfl, hn, hc5, hg5⟩
    have hn2 : 0 ≤ n ∧ n ≤ 1000001 := by simp at hn; omega
    have hs5 := hg5.size
    have Ho5 := hide (Ho4.out.notg hg5 hgl)
    have Hc5 := hide hc5
    have Hg5 := hide (grw_trans Hg4.out hg5)
    have Hsm2 : Hid (SmallV (l ++ [(s, n)])) := hide ⟨by simp; omega, fun p hp => by
      rcases List.mem_append.1 hp with h | h
      · exact Hsm.out.2 p h
      · rw [List.mem_singleton.1 h]; exact ⟨hsz, hn2.1, hn2.2⟩⟩
    clear hn hc5 hg5 Ho4 Hc4 Hg4 HI4 hw4
    go_wp2_with (at_builtin; refine app_ownV _ rfl _ _ rfl w.heap.size _ _ l [(s, n)] rfl rfl (Ho5.out.alloc _) (rd_one_v _ _ s n (by simp)) (by simp; omega) (by simp; omega) ?_; intro v6 w6 ho6 hg6 hb6)
    have hb6' : Below w.heap.size w5 w6 := ((Below.refl _ w5).alloc (by omega) _).trans hb6
    have HC6 := hide (Hc5.out.below hb6' hgl)
    have HG6 := hide (grw_below Hg5.out hb6' (Nat.le_refl _))
    have HO6 := hide ho6
    clear ho6 hg6 hb6 hb6'
    go_ret
    exact ⟨_, _, rfl, HO6.out, Hsm2.out, HC6.out, HG6.out⟩
  · have hxb : ((x : Int) == 0) = false := by rw [beq_eq_false_iff_ne]; omega
    by_cases h1 : x = 1
    · subst h1
      have Ho := hide (own_nilV w2 w.heap.size (by omega))
      have hb : Below w.heap.size w2 (w2.alloc (.cells #[] 46)) := (Below.refl _ w2).alloc (by omega) _
      have Hc := hide (hc2.below hb hgl)
      have Hg := hide (grw_below hg2' hb (Nat.le_refl _))
      have Hs0 : Hid (SmallV []) := hide ⟨by simp, by simp⟩
      clear o2 hc2 hg2' hb
      go_wp2
      go_ret
      exact ⟨_, [], rfl, Ho.out, Hs0.out, Hc.out, Hg.out⟩
    · have hxb1 : ((x : Int) == 1) = false := by rw [beq_eq_false_iff_ne]; omega
      have Ho := hide o2
      have Hc := hide hc2
      have Hg := hide hg2'
      clear o2 hc2 hg2'
      go_wp2
      go_ret
      exact ⟨_, l, rfl, Ho.out, Hsm.out, Hc.out, Hg.out⟩
end Go.Proofs.Ytdelegamcebflaa
