/- Drawn accounts: lists of them. -/
import Derived.Test.YtoejikphbienfaaDrawAc
import Derived.Test.YtoejikphbienfaaAcWith
namespace Go.Proofs.Ytoejikphbienfaa
open Go.RowKit
set_option linter.unusedVariables false

theorem RowA.notg {base : Nat} {w w' : World} {v : Value} {Z : List (Ac × Value)} {g : Nat} (h : RowA base w v Z) (hg : w.grownBy w' (some g)) (hb : g < base) : RowA base w' v Z :=
  World.ownsRow.kept h hg (.inr fun e => by have := h.ge g e; omega)
theorem Lvs.notg {base : Nat} {w w' : World} {b : Nat} {Z : List (Ac × Value)} {g : Nat} (h : Lvs base w b Z) (hg : w.grownBy w' (some g)) (hb : g < base) : Lvs base w' b Z :=
  ⟨fun i hi => (h.own i hi).notg hg hb, h.far, h.apart⟩
/-- What is drawn is small. -/
def Small (l : List Ac) : Prop := l.length ≤ 100 ∧ ∀ a ∈ l, a.1.size ≤ 9 ∧ a.2.2.2.2.length ≤ 4
theorem rd_row {base : Nat} {w : World} {g cap : Nat} {Z : List (Ac × Value)} (ho : RowA base w (.slice (some ⟨g, 0, none⟩) Z.length cap) Z) (hl : ∀ q ∈ Z, RdL w q.2 q.1.2.2.2.2) : RdA w (.slice (some ⟨g, 0, none⟩) Z.length cap) (Z.map (·.1)) := by
  by_cases hn : Z = []
  · subst hn; exact .inl ⟨_, _, rfl, rfl, fun h => by cases h⟩
  · rcases ho.2 with ⟨hv, _⟩ | ⟨g', cap', cur, hv, hb, hg, hnc, hcm, hcs, ht⟩
    · cases hv
    · simp only [Value.slice.injEq, Option.some.injEq, Addr.mk.injEq, and_true, true_and] at hv
      obtain ⟨rfl, rfl⟩ := hv
      refine .inr ⟨g, 0, cap, by simpa using hn, by simp, by simpa using hnc, hcm, (Array.getElem?_eq_some_iff.1 hg).1, fun i hi => ?_⟩
      have hi' : i < Z.length := by simpa using hi
      have e : (Z.map (·.1))[i] = Z[i].1 := by simp
      refine ⟨Z[i].2, ?_, by rw [e]; exact hl _ (List.getElem_mem hi')⟩
      have cell : ∀ j, j < 5 → w.cell? ⟨g, 0 + i * 5 + j, none⟩ = (acC Z[i])[j]? := fun j hj => by
        rw [Nat.zero_add, World.ownsRow.cellAt ho (i * 5 + j) (by omega), flat_get 5 (Z.map acC) i j (by simpa using hi') (acM_sz Z) hj]
        simp
      rw [e]
      exact ⟨by have := cell 0 (by omega); simpa [acC] using this, by have := cell 1 (by omega); simpa [acC] using this, by have := cell 2 (by omega); simpa [acC] using this, by have := cell 3 (by omega); simpa [acC] using this, by have := cell 4 (by omega); simpa [acC] using this⟩

set_option maxRecDepth 20000 in
set_option maxHeartbeats 2000000 in
theorem l4Draw_any (w0 w : World) (g : Nat) (cv : Value) (code : List UInt8) (hc : Cur w0 w g cv code) (hl : code.length ≤ 1048576) :
    Calls Try.prog 74 #[.pointer (some ⟨g, 0, none⟩)] w fun e w' => ∃ (G cap : Nat) (Z : List (Ac × Value)), e = .returned (.slice (some ⟨G, 0, none⟩) Z.length cap) ∧ RowA w.heap.size w' (.slice (some ⟨G, 0, none⟩) Z.length cap) Z ∧ Lvs w.heap.size w' G Z ∧ Z.length ≤ 5 ∧ (∀ q ∈ Z, q.1.1.size ≤ 9 ∧ q.1.2.2.2.2.length ≤ 3) ∧ Cur w0 w' g cv code ∧ w.grownBy w' (some g) := by
  have hgl := hc.lt
  obtain ⟨w1, hw1⟩ : ∃ w1, w.alloc (.cells #[] 34) = w1 := ⟨_, rfl⟩
  have hb1 : Below w.heap.size w w1 := by rw [← hw1]; exact (Below.refl _ w).alloc (Nat.le_refl _) _
  have hs1 : w1.heap.size = w.heap.size + 1 := by rw [← hw1]; simp
  have Ho1 : Hid (RowA w.heap.size w1 (.slice (some ⟨w.heap.size, 0, none⟩) 0 0) []) := hide (by rw [← hw1]; exact row_nilA w _ (Nat.le_refl _))
  have Hc1 := hide (hc.below hb1 hgl)
  have HG1 := hide (grw_of_below (some g) hb1 (Nat.le_refl _))
  clear hc hb1
  go_enter Try.func74, Try.ntmps74
  go_wp2_with fail
  refine (l1Names_any w0 _ g cv code Hc1.out hl).mono ?_
  rintro e w2 ⟨v2, ns, rfl, ho2, hn5, hsz, hc2, hg2⟩
  have Ho2 := hide (Ho1.out.notg hg2 hgl)
  have HG2 := hide (grw_trans HG1.out hg2)
  have Hc2 := hide hc2
  have Hns := hide ho2
  have Hsz := hide hsz
  have hs2 := hg2.size
  obtain ⟨av, cvv, hv2⟩ : ∃ a c, v2 = .slice a ns.length c := by
    rcases ho2.rd with ⟨a, cap, h1, h2, -⟩ | ⟨b, off, cap, h0, h1, _⟩
    · subst h2; exact ⟨a, cap, h1⟩
    · exact ⟨_, cap, h1⟩
  subst hv2
  clear hc2 ho2 hg2 hsz Ho1 HG1 Hc1
  go_wp2
  go_loopw [3, 5] (fun ov iv wr => ∃ (k G c : Nat) (Z : List (Ac × Value)), k ≤ ns.length ∧ iv = .int .i64 (k : Int) ∧ ov = .slice (some ⟨G, 0, none⟩) k c ∧ Z.length = k ∧ RowA w.heap.size wr ov Z ∧ Lvs w.heap.size wr G Z ∧ (∀ q ∈ Z, q.1.1.size ≤ 9 ∧ q.1.2.2.2.2.length ≤ 3) ∧ OwnS w1.heap.size wr (.slice av ns.length cvv) ns ∧ (∀ j, (Value.slice av ns.length cvv).ownBlock = some j → j ≠ G) ∧ Cur w0 wr g cv code ∧ w.grownBy wr (some g)) (fun _ iv _ => ns.length - (intOf iv).toNat)
  case atStart =>
    refine ⟨0, _, _, [], Nat.zero_le _, rfl, rfl, rfl, Ho2.out, Lvs.nil _ _ _, by simp, Hns.out, fun j hj => ?_, Hc2.out, HG2.out⟩
    have := (World.ownsRow.lt Hns.out j hj).1
    omega
  case round =>
    obtain ⟨k, G, c, Z, hk, rfl, rfl, hZk, ho, hlv, hsm, hns, hne, hcr, hgr⟩ := hrel
    clear Ho2 HG2 Hc2 Hns
    by_cases hlt : k < ns.length
    · have hs1' := Hsz.out ns[k] (List.getElem_mem _)
      have hrd := hns.rd
      rcases hrd with ⟨_, _, _, e, _⟩ | ⟨b, off, cap, h0, hv, h1, h2, h3, h4⟩
      · subst e; simp at hlt
      injection hv with ha _ hcap
      subst ha hcap
      have hc0 := h4 k hlt
      have hli : (k : Int) < (ns.length : Int) := by omega
      have hGw : w.heap.size ≤ G := ho.ge G rfl
      have hGl : G < wr.heap.size := ho.lt G rfl
      have Ho := hide ho
      have Hlv := hide hlv
      have Hsm := hide hsm
      have Hns := hide hns
      have Hne := hide hne
      have HA := hide (l4Acct_any w0 wr g cv code ns[k] hcr hl)
      have Hgr := hide hgr
      clear ho hlv hsm hns hne hcr hgr h4
      generalize ns[k] = nm at hc0 HA hs1'
      go_wp2_with fail
      refine HA.out.mono ?_
      rintro e w3 ⟨a3, lv3, rfl, ha3, hl3, ho3, hc3, hg3⟩
      have hs3 := hg3.size
      obtain ⟨⟨nm3, fr, no, st, ls⟩⟩ : Nonempty Ac := ⟨a3⟩
      obtain ⟨nm3, fr, no, st, ls⟩ := a3
      simp only at ha3 hl3
      subst ha3
      obtain ⟨a', c', rfl⟩ := OwnL.shapeN ho3 ls.length rfl
      have Ho3 := hide (Ho.out.notg hg3 hgl)
      have Hlv3 := hide (Hlv.out.notg hg3 hgl)
      have HoL3 := hide ho3
      have Hc3 := hide hc3
      have Hgr3 := hide (grw_trans Hgr.out hg3)
      have Hns3 := hide (Hns.out.notg hg3 (by omega))
      clear ho3 hc3 hg3
      simp only [acV]
      go_wp2_with (at_builtin; refine app_ownA _ rfl _ _ rfl w.heap.size (.slice (some ⟨G, 0, none⟩) k c) _ Z ((nm3, fr, no, st, ls), .slice a' ls.length c') rfl rfl (World.ownsRow.alloc Ho3.out _) (Blk.new' _ _ (acC ((nm3, fr, no, st, ls), .slice a' ls.length c')) _ (by simp)) rfl (by omega) (by simp; omega) ?_; intro v4 w4 hrow4 hgr4 hnn4 hloc4; obtain ⟨G', c'', rfl⟩ := hrow4.shapeN hnn4 (k + 1) (by simp [hZk]))
      have hlv4 : Lvs w.heap.size w4 G' (Z ++ [((nm3, fr, no, st, ls), .slice a' ls.length c')]) := by
        obtain ⟨g', cap', e, h⟩ := rowA_step (q := ((nm3, fr, no, st, ls), .slice a' ls.length c')) Hlv3.out (HoL3.out.mono (by omega)) (fun j hj => by have := HoL3.out.ge j hj; omega)
          (fun i hi j hj e => by have := (Hlv.out.own i hi).lt j hj; have := HoL3.out.ge j e; omega) ((Below.refl _ w3).alloc (Nat.le_refl _) _) hgr4 hrow4 hnn4 hloc4
        injection e with e1
        injection e1 with e2
        injection e2 with e3
        subst e3
        exact h
      have hB4 : Below w.heap.size w3 w4 := ((Below.refl _ w3).alloc (by omega) _).grown hgr4 (by simp; omega) (fun j hj => by cases hj; exact hGw)
      have hns4 : OwnS w1.heap.size w4 (.slice (some ⟨b, off, none⟩) ns.length cvv) ns := World.ownsRow.kept (World.ownsRow.alloc Hns3.out _) hgr4 (.inr fun e => Hne.out G e rfl)
      have Hc4 := hide (Hc3.out.below hB4 hgl)
      have Hgr4 := hide (grw_below Hgr3.out hB4 (Nat.le_refl _))
      have hG' : ∀ j, (Value.slice (some ⟨b, off, none⟩) ns.length cvv).ownBlock = some j → j ≠ G' := fun j hj => by
        have h1 := Hne.out j hj
        have h2 := (World.ownsRow.lt Hns3.out j hj).2
        rcases hloc4 with h | h
        · have : G' = G := by simpa [Value.ownBlock] using h
          omega
        · have : G' = w3.heap.size + 1 := by simpa [Value.ownBlock] using h
          omega
      go_roundw
      case rel =>
        refine ⟨k + 1, G', c'', _, by omega, by go_num, rfl, by simp [hZk], hrow4, hlv4, fun q hq => ?_, hns4, hG', Hc4.out, Hgr4.out⟩
        rcases List.mem_append.1 hq with hq | hq
        · exact Hsm.out q hq
        · simp at hq; subst hq; exact ⟨(show nm3.size ≤ 9 by omega), hl3⟩
      case measure => simp [intOf]; omega
    · go_wp2
      go_ret
      subst hZk
      exact ⟨G, c, Z, rfl, ho, hlv, by omega, hsm, hcr, hgr⟩
end Go.Proofs.Ytoejikphbienfaa
