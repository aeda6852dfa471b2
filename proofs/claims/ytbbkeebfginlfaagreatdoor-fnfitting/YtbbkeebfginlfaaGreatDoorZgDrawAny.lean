/- Drawn accounts: lists of them. Drawn accounts that may be wrong, and what is drawn for Credit. -/
import Derived.Test.YtbbkeebfginlfaaGreatDoorZgDrawAc
import Derived.Test.YtbbkeebfginlfaaGreatDoorZgAcMark
namespace Go.Proofs.YtbbkeebfginlfaaGreatDoor
open Go.RowKit
set_option linter.unusedVariables false

theorem RowA.notg {base : Nat} {w w' : World} {v : Value} {Z : List (Ac × Value)} {g : Nat} (h : RowA base w v Z) (hg : w.grownBy w' (some g)) (hb : g < base) : RowA base w' v Z :=
  World.ownsRow.kept h hg (.inr fun e => by have := h.ge g e; omega)
theorem Lvs.notg {base : Nat} {w w' : World} {b : Nat} {Z : List (Ac × Value)} {g : Nat} (h : Lvs base w b Z) (hg : w.grownBy w' (some g)) (hb : g < base) : Lvs base w' b Z :=
  ⟨fun i hi => (h.own i hi).notg hg hb, h.far, h.apart⟩
/-- What is drawn is small. -/
def Small (l : List Ac) : Prop := l.length ≤ 100 ∧ ∀ a ∈ l, a.1.size ≤ 9 ∧ a.2.2.2.2.length ≤ 4
theorem rd_row {base : Nat} {w : World} {g cap : Nat} {Z : List (Ac × Value)} (ho : RowA base w (.slice (some ⟨g, 0, none⟩) Z.length cap) Z) (hl : ∀ q ∈ Z, RdL w q.2 q.1.2.2.2.2) : RdA w (.slice (some ⟨g, 0, none⟩) Z.length cap) (Z.map (·.1)) := by
  by_cases hn : Z = []
  · subst hn; exact .inl ⟨_, _, rfl, rfl, fun h => by cases h⟩
  · rcases ho.2 with ⟨hv, _⟩ | ⟨g', cap', cur, hv, hb, hg, hnc, hcm, hcs, ht⟩
    · cases hv
    · simp only [Value.slice.injEq, Option.some.injEq, Addr.mk.injEq, and_true, true_and] at hv
      obtain ⟨rfl, rfl⟩ := hv
      refine .inr ⟨g, 0, cap, by simpa using hn, by simp, by simpa using hnc, hcm, (Array.getElem?_eq_some_iff.1 hg).1, fun i hi => ?_⟩
      have hi' : i < Z.length := by simpa using hi
      have e : (Z.map (·.1))[i] = Z[i].1 := by simp
      refine ⟨Z[i].2, ?_, by rw [e]; exact hl _ (List.getElem_mem hi')⟩
      have cell : ∀ j, j < 5 → w.cell? ⟨g, 0 + i * 5 + j, none⟩ = (acC Z[i])[j]? := fun j hj => by
        rw [Nat.zero_add, World.ownsRow.cellAt ho (i * 5 + j) (by omega), flat_get 5 (Z.map acC) i j (by simpa using hi') (acM_sz Z) hj]
        simp
      rw [e]
      exact ⟨by have := cell 0 (by omega); simpa [acC] using this, by have := cell 1 (by omega); simpa [acC] using this, by have := cell 2 (by omega); simpa [acC] using this, by have := cell 3 (by omega); simpa [acC] using this, by have := cell 4 (by omega); simpa [acC] using this⟩

set_option maxRecDepth 20000 in
set_option maxHeartbeats 2000000 in
theorem l4Draw_any (w0 w : World) (g : Nat) (cv : Value) (code : List UInt8) (hc : Cur w0 w g cv code) (hl : code.length ≤ 1048576) :
    Calls Tryz.prog 68 #[.pointer (some ⟨g, 0, none⟩)] w fun e w' => ∃ (G cap : Nat) (Z : List (Ac × Value)), e = .returned (.slice (some ⟨G, 0, none⟩) Z.length cap) ∧ RowA w.heap.size w' (.slice (some ⟨G, 0, none⟩) Z.length cap) Z ∧ Lvs w.heap.size w' G Z ∧ Z.length ≤ 5 ∧ (∀ q ∈ Z, q.1.1.size ≤ 9 ∧ q.1.2.2.2.2.length ≤ 3) ∧ Cur w0 w' g cv code ∧ w.grownBy w' (some g) := by
  have hgl := hc.lt
  obtain ⟨w1, hw1⟩ : ∃ w1, w.alloc (.cells #[] 51) = w1 := ⟨_, rfl⟩
  have hb1 : Below w.heap.size w w1 := by rw [← hw1]; exact (Below.refl _ w).alloc (Nat.le_refl _) _
  have hs1 : w1.heap.size = w.heap.size + 1 := by rw [← hw1]; simp
  have Ho1 : Hid (RowA w.heap.size w1 (.slice (some ⟨w.heap.size, 0, none⟩) 0 0) []) := hide (by rw [← hw1]; exact row_nilA w _ (Nat.le_refl _))
  have Hc1 := hide (hc.below hb1 hgl)
  have HG1 := hide (grw_of_below (some g) hb1 (Nat.le_refl _))
  clear hc hb1
  go_enter Tryz.func68, Tryz.ntmps68
  go_wp2_with fail
  refine (l1Names_any w0 _ g cv code Hc1.out hl).mono ?_
  rintro e w2 ⟨v2, ns, rfl, ho2, hn5, hsz, hc2, hg2⟩
  have Ho2 := hide (Ho1.out.notg hg2 hgl)
  have HG2 := hide (grw_trans HG1.out hg2)
  have Hc2 := hide hc2
  have Hns := hide ho2
  have Hsz := hide hsz
  have hs2 := hg2.size
  obtain ⟨av, cvv, hv2⟩ : ∃ a c, v2 = .slice a ns.length c := by
    rcases ho2.rd with ⟨a, cap, h1, h2, -⟩ | ⟨b, off, cap, h0, h1, _⟩
    · subst h2; exact ⟨a, cap, h1⟩
    · exact ⟨_, cap, h1⟩
  subst hv2
  clear hc2 ho2 hg2 hsz Ho1 HG1 Hc1
  go_wp2
  go_loopw [3, 5] (fun ov iv wr => ∃ (k G c : Nat) (Z : List (Ac × Value)), k ≤ ns.length ∧ iv = .int .i64 (k : Int) ∧ ov = .slice (some ⟨G, 0, none⟩) k c ∧ Z.length = k ∧ RowA w.heap.size wr ov Z ∧ Lvs w.heap.size wr G Z ∧ (∀ q ∈ Z, q.1.1.size ≤ 9 ∧ q.1.2.2.2.2.length ≤ 3) ∧ OwnS w1.heap.size wr (.slice av ns.length cvv) ns ∧ (∀ j, (Value.slice av ns.length cvv).ownBlock = some j → j ≠ G) ∧ Cur w0 wr g cv code ∧ w.grownBy wr (some g)) (fun _ iv _ => ns.length - (intOf iv).toNat)
  case atStart =>
    refine ⟨0, _, _, [], Nat.zero_le _, rfl, rfl, rfl, Ho2.out, Lvs.nil _ _ _, by simp, Hns.out, fun j hj => ?_, Hc2.out, HG2.out⟩
    have := (World.ownsRow.lt Hns.out j hj).1
    omega
  case round =>
    obtain ⟨k, G, c, Z, hk, rfl, rfl, hZk, ho, hlv, hsm, hns, hne, hcr, hgr⟩ := hrel
    clear Ho2 HG2 Hc2 Hns
    by_cases hlt : k < ns.length
    · have hs1' := Hsz.out ns[k] (List.getElem_mem _)
      have hrd := hns.rd
      rcases hrd with ⟨_, _, _, e, _⟩ | ⟨b, off, cap, h0, hv, h1, h2, h3, h4⟩
      · subst e; simp at hlt
      injection hv with ha _ hcap
      subst ha hcap
      have hc0 := h4 k hlt
      have hli : (k : Int) < (ns.length : Int) := by omega
      have hGw : w.heap.size ≤ G := ho.ge G rfl
      have hGl : G < wr.heap.size := ho.lt G rfl
      have Ho := hide ho
      have Hlv := hide hlv
      have Hsm := hide hsm
      have Hns := hide hns
      have Hne := hide hne
      have HA := hide (l4Acct_any w0 wr g cv code ns[k] hcr hl)
      have Hgr := hide hgr
      clear ho hlv hsm hns hne hcr hgr h4
      generalize ns[k] = nm at hc0 HA hs1'
      go_wp2_with fail
      refine HA.out.mono ?_
      rintro e w3 ⟨a3, lv3, rfl, ha3, hl3, ho3, hc3, hg3⟩
      have hs3 := hg3.size
      obtain ⟨⟨nm3, fr, no, st, ls⟩⟩ : Nonempty Ac := ⟨a3⟩
      obtain ⟨nm3, fr, no, st, ls⟩ := a3
      simp only at ha3 hl3
      subst ha3
      obtain ⟨a', c', rfl⟩ := OwnL.shapeN ho3 ls.length rfl
      have Ho3 := hide (Ho.out.notg hg3 hgl)
      have Hlv3 := hide (Hlv.out.notg hg3 hgl)
      have HoL3 := hide ho3
      have Hc3 := hide hc3
      have Hgr3 := hide (grw_trans Hgr.out hg3)
      have Hns3 := hide (Hns.out.notg hg3 (by omega))
      clear ho3 hc3 hg3
      simp only [acV]
      go_wp2_with (at_builtin; refine app_ownA _ rfl _ _ rfl w.heap.size (.slice (some ⟨G, 0, none⟩) k c) _ Z ((nm3, fr, no, st, ls), .slice a' ls.length c') rfl rfl (World.ownsRow.alloc Ho3.out _) (Blk.new' _ _ (acC ((nm3, fr, no, st, ls), .slice a' ls.length c')) _ (by simp)) rfl (by omega) (by simp; omega) ?_; intro v4 w4 hrow4 hgr4 hnn4 hloc4; obtain ⟨G', c'', rfl⟩ := hrow4.shapeN hnn4 (k + 1) (by simp [hZk]))
      have hlv4 : Lvs w.heap.size w4 G' (Z ++ [((nm3, fr, no, st, ls), .slice a' ls.length c')]) := by
        obtain ⟨g', cap', e, h⟩ := rowA_step (q := ((nm3, fr, no, st, ls), .slice a' ls.length c')) Hlv3.out (HoL3.out.mono (by omega)) (fun j hj => by have := HoL3.out.ge j hj; omega)
          (fun i hi j hj e => by have := (Hlv.out.own i hi).lt j hj; have := HoL3.out.ge j e; omega) ((Below.refl _ w3).alloc (Nat.le_refl _) _) hgr4 hrow4 hnn4 hloc4
        injection e with e1
        injection e1 with e2
        injection e2 with e3
        subst e3
        exact h
      have hB4 : Below w.heap.size w3 w4 := ((Below.refl _ w3).alloc (by omega) _).grown hgr4 (by simp; omega) (fun j hj => by cases hj; exact hGw)
      have hns4 : OwnS w1.heap.size w4 (.slice (some ⟨b, off, none⟩) ns.length cvv) ns := World.ownsRow.kept (World.ownsRow.alloc Hns3.out _) hgr4 (.inr fun e => Hne.out G e rfl)
      have Hc4 := hide (Hc3.out.below hB4 hgl)
      have Hgr4 := hide (grw_below Hgr3.out hB4 (Nat.le_refl _))
      have hG' : ∀ j, (Value.slice (some ⟨b, off, none⟩) ns.length cvv).ownBlock = some j → j ≠ G' := fun j hj => by
        have h1 := Hne.out j hj
        have h2 := (World.ownsRow.lt Hns3.out j hj).2
        rcases hloc4 with h | h
        · have : G' = G := by simpa [Value.ownBlock] using h
          omega
        · have : G' = w3.heap.size + 1 := by simpa [Value.ownBlock] using h
          omega
      go_roundw
      case rel =>
        refine ⟨k + 1, G', c'', _, by omega, by go_num, rfl, by simp [hZk], hrow4, hlv4, fun q hq => ?_, hns4, hG', Hc4.out, Hgr4.out⟩
        rcases List.mem_append.1 hq with hq | hq
        · exact Hsm.out q hq
        · simp at hq; subst hq; exact ⟨(show nm3.size ≤ 9 by omega), hl3⟩
      case measure => simp [intOf]; omega
    · go_wp2
      go_ret
      subst hZk
      exact ⟨G, c, Z, rfl, ho, hlv, by omega, hsm, hcr, hgr⟩
end Go.Proofs.YtbbkeebfginlfaaGreatDoor

namespace Go.Proofs.YtbbkeebfginlfaaGreatDoor
open Go.RowKit
set_option linter.unusedVariables false

theorem step_appLat {ops : Array Oper} {o : Oper} {a : Act} {w : World} {K : Act → World → Prop} {Q : Exit → Act → World → Prop} {E : Prop} (hgd : o.guard = none) (s x : Operand)
    (ho : o.op = .call { callee := .builtin .append, args := #[s, x], argTypes := #[49, 49] })
    (base : Nat) (v : Value) (B : Nat) (l : List (Int × Int)) (p : Int × Int) (hs : a.eval s = v) (hx : a.eval x = .slice (some ⟨B, 0, none⟩) 1 1) (hown : OwnL base w v l) (hblk : Blk w B 108 (lvC p))
    (hlen : l.length ≤ 100000000) (hbase : base ≤ w.heap.size)
    (h : ∀ v' w', OwnL base w' v' (l ++ [p]) → w.grownBy w' v.ownBlock → (v'.ownBlock = v.ownBlock ∨ v'.ownBlock = some w.heap.size) → K (a.put o.dst v') w') : if Region.wanted o (yielded ops a.tmps) = true then Oper.wp Tryz.prog o a w K Q else E := by
  have hw : Region.wanted o (yielded ops a.tmps) = true := by simp [Region.wanted, hgd]
  rw [if_pos hw]
  obtain ⟨i0, hi, hz0, hz1, hz2⟩ := info_parts Tryz.infoLv
  obtain ⟨v', w', hr, h2, h3, h4, h5⟩ := run_append_own_at (P := Tryz.prog) w base 49 o.type 108 i0 (.agg #[.int .i64 0, .int .i64 0]) 2 16 Tryz.underlying49 hi hz0 hz1 hz2 rfl (by decide) v l.length (l.map lvC).flatten hown ⟨B, 0, none⟩ 1 1 (lvC p) rfl (fun j u hj => by rw [add_flat, Nat.zero_add, hblk.cell j]; exact hj) (fun u hu => by
    simp only [lvC, List.mem_cons, List.not_mem_nil, or_false] at hu
    rcases hu with rfl | rfl <;> rfl) (by unfold maxLen; omega) (by omega) hbase
  unfold Oper.wp execOp
  simp only [ho, resolve, invoke, builtin, Sem.run_bind, Sem.run_pure, Result.andThen_ok, List.map_toArray, List.map_cons, List.map_nil, hs, hx, hr]
  exact h v' w' (by unfold OwnL; rw [List.length_append, List.map_append, List.flatten_append]; simpa using h2) h3 h5
/-- Accounts in a row of the call's own, each with a list of the call's own. -/
def DrA (base : Nat) (w : World) (v : Value) (Z : List (Ac × Value)) : Prop := (∃ G cap, v = .slice (some ⟨G, 0, none⟩) Z.length cap) ∧ RowA base w v Z ∧ ∀ q ∈ Z, OwnL base w q.2 q.1.2.2.2.2
theorem DrA.of {base : Nat} {w : World} {G cap : Nat} {Z : List (Ac × Value)} (h : RowA base w (.slice (some ⟨G, 0, none⟩) Z.length cap) Z) (hl : Lvs base w G Z) : DrA base w (.slice (some ⟨G, 0, none⟩) Z.length cap) Z :=
  ⟨⟨G, cap, rfl⟩, h, fun q hq => by
    obtain ⟨i, hi, rfl⟩ := List.mem_iff_getElem.1 hq
    exact hl.own i hi⟩
theorem DrA.notg {base : Nat} {w w' : World} {v : Value} {Z : List (Ac × Value)} {g : Nat} (h : DrA base w v Z) (hg : w.grownBy w' (some g)) (hb : g < base) : DrA base w' v Z :=
  ⟨h.1, h.2.1.notg hg hb, fun q hq => (h.2.2 q hq).notg hg hb⟩
theorem DrA.below {B base : Nat} {w w' : World} {v : Value} {Z : List (Ac × Value)} (h : DrA base w v Z) (hb : Below B w w') (hB : w.heap.size ≤ B) : DrA base w' v Z :=
  ⟨h.1, h.2.1.below hb hB, fun q hq => (h.2.2 q hq).below hb hB⟩
theorem DrA.rd {base : Nat} {w : World} {v : Value} {Z : List (Ac × Value)} (h : DrA base w v Z) : RdA w v (Z.map (·.1)) := by
  obtain ⟨⟨G, cap, rfl⟩, h1, h2⟩ := h
  exact rd_row h1 (fun q hq => (h2 q hq).rd)
def SmallZ (Z : List (Ac × Value)) : Prop := Z.length ≤ 6 ∧ ∀ q ∈ Z, q.1.1.size ≤ 9 ∧ q.1.2.2.2.2.length ≤ 4

/-- What is drawn: accounts of the call's own, few and small; the cursor goes on. -/
def Drawn (w0 w : World) (g : Nat) (cv : Value) (code : List UInt8) (e : Ending) (w' : World) : Prop := ∃ (v : Value) (Z : List (Ac × Value)), e = .returned v ∧ DrA w.heap.size w' v Z ∧ SmallZ Z ∧ Cur w0 w' g cv code ∧ w.grownBy w' (some g)
set_option maxRecDepth 20000 in
set_option maxHeartbeats 2000000 in
theorem l4Any_any (w0 w : World) (g : Nat) (cv : Value) (code : List UInt8) (hc : Cur w0 w g cv code) (hl : code.length ≤ 1048576) :
    Calls Tryz.prog 52 #[.pointer (some ⟨g, 0, none⟩)] w fun e w' => Drawn w0 w g cv code e w' := by
  have hgl := hc.lt
  go_enter Tryz.func52, Tryz.ntmps52
  go_wp2_with fail
  refine (l4Draw_any w0 _ g cv code hc hl).mono ?_
  rintro e w1 ⟨G, cap, Z, rfl, hrow1, hlv1, hZ5, hsm, hc1, hg1⟩
  have hs1 := hg1.size
  clear hc
  go_wp2_with fail
  refine (l1Below_any _ _ _ _ _ _ hc1 hl (by omega) (by omega)).mono ?_
  rintro e w2 ⟨x, rfl, -, -, hc2, hg2⟩
  have hs2 := hg2.size
  have hrow2 := hrow1.notg hg2 hgl
  have hlv2 := hlv1.notg hg2 hgl
  have hg2' := grw_trans hg1 hg2
  have Hsm3 := hide hsm
  have hSm : SmallZ Z := ⟨by omega, fun q hq => by have := hsm q hq; omega⟩
  have hGw : w.heap.size ≤ G := hrow2.ge G rfl
  have hGl : G < w2.heap.size := hrow2.lt G rfl
  clear hc1 hrow1 hlv1 hg1 hg2 hsm
  by_cases hx0 : x = 0
  · subst hx0
    have Hrow := hide hrow2
    have Hlv := hide hlv2
    have Hg := hide hg2'
    clear hrow2 hlv2 hg2'
    go_wp2_with fail
    refine (l1NameAny_any w0 _ g cv code hc2 hl).mono ?_
    rintro e w3 ⟨s, rfl, hs9, hc3, hg3⟩
    have hs3 := hg3.size
    have Hrow3 := hide (Hrow.out.notg hg3 hgl)
    have Hlv3 := hide (Hlv.out.notg hg3 hgl)
    have Hg3 := hide (grw_trans Hg.out hg3)
    clear hg3 hc2 Hrow Hlv Hg
    go_wp2_with fail
    refine (l4Acct_any w0 _ g cv code s hc3 hl).mono ?_
    rintro e w4 ⟨a4, lv4, rfl, ha4, hl4, ho4, hc4, hg4⟩
    have hs4 := hg4.size
    obtain ⟨nm, fr, no, st, ls⟩ := a4
    simp only at ha4 hl4
    subst ha4
    obtain ⟨a', c', rfl⟩ := OwnL.shapeN ho4 ls.length rfl
    have Hrow4 := hide (Hrow3.out.notg hg4 hgl)
    have Hlv4 := hide (Hlv3.out.notg hg4 hgl)
    have Hg4 := hide (grw_trans Hg3.out hg4)
    have Ho4 := hide ho4
    have Hc4 := hide hc4
    have HZlt := hide (fun i (hi : i < Z.length) j (hj : Z[i].2.ownBlock = some j) => (Hlv3.out.own i hi).lt j hj)
    clear hg4 hc3 hc4 ho4 Hrow3 Hlv3 Hg3
    simp only [acV]
    go_wp2_with (at_builtin; refine app_ownA _ rfl _ _ rfl w.heap.size (.slice (some ⟨G, 0, none⟩) Z.length cap) _ Z ((nm, fr, no, st, ls), .slice a' ls.length c') rfl rfl (World.ownsRow.alloc Hrow4.out _) (Blk.new' _ _ (acC ((nm, fr, no, st, ls), .slice a' ls.length c')) _ (by simp)) rfl (by omega) (by simp; omega) ?_; intro v5 w5 hrow5 hgr5 hnn5 hloc5)
    go_ret
    obtain ⟨g', cap', rfl, h⟩ := rowA_step (q := ((nm, fr, no, st, ls), .slice a' ls.length c')) Hlv4.out (Ho4.out.mono (by omega)) (fun j hj => by have := Ho4.out.ge j hj; omega)
      (fun i hi j hj e => by have := HZlt.out i hi j hj; have := Ho4.out.ge j e; omega) ((Below.refl _ w4).alloc (Nat.le_refl _) _) hgr5 hrow5 hnn5 hloc5
    have hB5 : Below w.heap.size w4 w5 := ((Below.refl _ w4).alloc (by omega) _).grown hgr5 (by simp; omega) (fun j hj => by cases hj; exact hGw)
    refine ⟨_, _, rfl, DrA.of hrow5 h, ⟨by simp; have := hSm.1; omega, fun q hq => ?_⟩, Hc4.out.below hB5 hgl, grw_below Hg4.out hB5 (Nat.le_refl _)⟩
    rcases List.mem_append.1 hq with hq | hq
    · exact hSm.2 q hq
    · simp at hq; subst hq; exact ⟨hs9, (show ls.length ≤ 4 by omega)⟩
  · by_cases hx1 : x = 1
    · subst hx1
      clear hx0
      by_cases hZ0 : Z = []
      · subst hZ0
        have HD := hide (DrA.of hrow2 hlv2)
        have Hg := hide hg2'
        have Hc := hide hc2
        clear hrow2 hlv2 hg2' hc2
        go_wp2
        go_ret
        exact ⟨_, [], rfl, HD.out, hSm, Hc.out, Hg.out⟩
      · obtain ⟨q0, Zt, rfl⟩ : ∃ q t, Z = q :: t := by
          cases Z with
          | nil => exact absurd rfl hZ0
          | cons q t => exact ⟨q, t, rfl⟩
        have hpos : (0 : Int) < (((q0 :: Zt).length : Nat) : Int) := by simp only [List.length_cons]; omega
        have hpN : 0 < (q0 :: Zt).length := by simp
        obtain ⟨w3, hw3⟩ : ∃ w3, w2.alloc (.cells #[.int .i64 (-1), .int .i64 1000000, .int .i64 1000001] 3) = w3 := ⟨_, rfl⟩
        have hb3 : Below w2.heap.size w2 w3 := by rw [← hw3]; exact (Below.refl _ w2).alloc (Nat.le_refl _) _
        have hs3 : w3.heap.size = w2.heap.size + 1 := by rw [← hw3]; simp
        have HI3 : Hid (IntsAt w3 w2.heap.size [-1, 1000000, 1000001]) := hide (by rw [← hw3]; exact ints_new w2 [-1, 1000000, 1000001] 3)
        have Hc3 := hide (hc2.below hb3 (by omega))
        have Hrow3 := hide (hrow2.below hb3 (Nat.le_refl _))
        have Hlv3 := hide (hlv2.below hb3 (Nat.le_refl _))
        have Hg3 := hide (grw_trans hg2' (grw_of_below (some g) hb3 (Nat.le_refl _)))
        clear hrow2 hlv2 hg2' hc2 hZ0 hb3
        generalize hn : (q0 :: Zt).length = n at *
        go_wp2_with fail
        refine (l1Int_any w0 _ g w2.heap.size cv code [-1, 1000000, 1000001] Hc3.out hl HI3.out (by omega) (by simp) (by simp) 3).mono ?_
        rintro e w4 ⟨y, rfl, -, hc4, hg4⟩
        have hrow4 := Hrow3.out.notg hg4 hgl
        have hlv4 := Hlv3.out.notg hg4 hgl
        have hg4' := grw_trans Hg3.out hg4
        have hs4 := hg4.size
        have hr4 : w4.ownsRow w.heap.size 51 5 (.slice (some ⟨G, 0, none⟩) n cap) n ((q0 :: Zt).map acC).flatten := by
          have := hrow4
          unfold RowA at this
          rwa [hn] at this
        have q1 := hr4.cellAt 1 (by omega)
        have f1 := hr4.frozenAt 1
        obtain ⟨⟨nm, fr, no, st, ls⟩, lv⟩ := q0
        simp only [List.map_cons, List.flatten_cons, acC, List.cons_append, List.getElem?_cons_succ, List.getElem?_cons_zero] at q1
        have hst := (hr4.stored 1 (.int .i64 y)).1
        have Hst : Hid (RowA w.heap.size (w4.setCell ⟨G, 1, none⟩ (.int .i64 y)) (.slice (some ⟨G, 0, none⟩) n cap) (((nm, y, no, st, ls), lv) :: Zt)) := hide (by
          unfold RowA
          rw [show (((nm, y, no, st, ls), lv) :: Zt : List (Ac × Value)).length = n from by rw [← hn]; rfl]
          simpa [acC] using hst)
        have Hlv5 : Hid (Lvs w.heap.size (w4.setCell ⟨G, 1, none⟩ (.int .i64 y)) G (((nm, y, no, st, ls), lv) :: Zt)) := hide ((hlv4.set 1 (.int .i64 y)).same rfl)
        have hB5 : Below w.heap.size w4 (w4.setCell ⟨G, 1, none⟩ (.int .i64 y)) := (Below.refl _ w4).setCell (p := ⟨G, 1, none⟩) hGw _
        have Hc5 := hide (hc4.below hB5 hgl)
        have Hg5 := hide (grw_below hg4' hB5 (Nat.le_refl _))
        clear hrow4 hr4 hlv4 hg4' hg4 hc4 hst hB5 Hrow3 Hlv3 Hg3 Hc3 HI3
        go_wp2
        go_ret
        have hn' : (((nm, y, no, st, ls), lv) :: Zt : List (Ac × Value)).length = n := by rw [← hn]; rfl
        refine ⟨_, ((nm, y, no, st, ls), lv) :: Zt, rfl, ?_, ⟨by rw [hn']; have := hSm.1; omega, fun q hq => ?_⟩, Hc5.out, Hg5.out⟩
        · have := DrA.of (G := G) (cap := cap) (Z := ((nm, y, no, st, ls), lv) :: Zt) (by rw [hn']; exact Hst.out) Hlv5.out
          rw [hn'] at this
          exact this
        · rcases List.mem_cons.1 hq with rfl | hq
          · exact hSm.2 ((nm, fr, no, st, ls), lv) List.mem_cons_self
          · exact hSm.2 q (List.mem_cons_of_mem _ hq)
    · by_cases hx2 : x = 2
      · subst hx2
        clear hx0 hx1
        by_cases hZ0 : Z = []
        · subst hZ0
          have HD := hide (DrA.of hrow2 hlv2)
          have Hg := hide hg2'
          have Hc := hide hc2
          clear hrow2 hlv2 hg2' hc2
          go_wp2
          go_ret
          exact ⟨_, [], rfl, HD.out, hSm, Hc.out, Hg.out⟩
        · obtain ⟨q0, Zt, rfl⟩ : ∃ q t, Z = q :: t := by
            cases Z with
            | nil => exact absurd rfl hZ0
            | cons q t => exact ⟨q, t, rfl⟩
          obtain ⟨⟨nm, fr, no, st, ls⟩, lv⟩ := q0
          have hpos : (0 : Int) < ((((((nm, fr, no, st, ls) : Ac), lv) :: Zt).length : Nat) : Int) := by simp only [List.length_cons]; omega
          have hpN : 0 < ((((nm, fr, no, st, ls) : Ac), lv) :: Zt).length := by simp
          have hls := hSm.2 _ List.mem_cons_self
          have Hl3 : Hid (ls.length ≤ 3) := hide (Hsm3.out _ List.mem_cons_self).2
          have hL0 : OwnL w.heap.size w2 lv ls := hlv2.own 0 (by simp)
          have hfar0 : ∀ k, lv.ownBlock = some k → k ≠ G := hlv2.far 0 (by simp)
          have HLt : Hid (∀ q ∈ Zt, OwnL w.heap.size w2 q.2 q.1.2.2.2.2 ∧ (∀ k, q.2.ownBlock = some k → k ≠ G) ∧ (q.2.ownBlock = none ∨ q.2.ownBlock ≠ lv.ownBlock)) := hide (fun q hq => by
            obtain ⟨i, hi, rfl⟩ := List.mem_iff_getElem.1 hq
            refine ⟨hlv2.own (i + 1) (by simp; omega), hlv2.far (i + 1) (by simp; omega), ?_⟩
            cases hb : Zt[i].2.ownBlock with
            | none => exact .inl rfl
            | some k => exact .inr (fun e => hlv2.apart 0 (i + 1) (by simp) (by simp; omega) (by omega) k e.symm hb))
          obtain ⟨a', c', rfl⟩ := OwnL.shapeN hL0 ls.length rfl
          generalize hn : ((((nm, fr, no, st, ls) : Ac), Value.slice a' ls.length c') :: Zt).length = n at *
          have hr2 : w2.ownsRow w.heap.size 51 5 (.slice (some ⟨G, 0, none⟩) n cap) n (((((nm, fr, no, st, ls) : Ac), Value.slice a' ls.length c') :: Zt).map acC).flatten := by
            have := hrow2
            unfold RowA at this
            rwa [hn] at this
          have Hcell : Hid (∀ W : World, W.ownsRow w.heap.size 51 5 (.slice (some ⟨G, 0, none⟩) n cap) n (((((nm, fr, no, st, ls) : Ac), Value.slice a' ls.length c') :: Zt).map acC).flatten → W.cell? ⟨G, 4, none⟩ = some (.slice a' ls.length c') ∧ W.frozen? ⟨G, 4, none⟩ = false ∧ G < W.heap.size) := hide (fun W h => by
            refine ⟨?_, h.frozenAt 4, (World.ownsRow.lt h G rfl).2⟩
            rw [h.cellAt 4 (by omega)]
            simp [acC])
          have q2 := (Hcell.out w2 hr2).1
          have Hr2 := hide hr2
          have HL0 := hide hL0
          have Hfar0 := hide hfar0
          have Hg := hide hg2'
          have Hc := hide hc2
          clear hrow2 hlv2 hg2' hc2 hZ0 hr2 hL0 hfar0 hZ5
          go_wp2_with fail
          go_region_law (first
            | (refine step_appLat rfl _ _ rfl w.heap.size (.slice a' ls.length c') _ ls (_, _) rfl rfl (OwnL.alloc (OwnL.notg (OwnL.notg (HL0.out.below (below_drewN (Below.refl w2.heap.size w2) 1) (Nat.le_refl _)) hgA hgl) hgB hgl) _) (Blk.new' _ _ (lvC (_, _)) _ (by simp)) (by omega) (by simp; omega) ?_; intro v10 w10 ho10x hg10 hloc10; obtain ⟨L10, hL10, ho10⟩ : ∃ L : List (Int × Int), L.length = ls.length + 1 ∧ OwnL w.heap.size w10 v10 L := ⟨_, by simp, ho10x⟩; clear ho10x; obtain ⟨a10, c10, rfl⟩ := ho10.shapeN (ls.length + 1) hL10; have hr10 := World.ownsRow.kept (World.ownsRow.alloc HrB.out (.cells #[.int .i64 (xA : Int), .int .i64 (xB : Int)] 108)) hg10 (.inr fun e => Hfar0.out G e.symm rfl); have Hr10 := hide hr10; have q10 := (Hcell.out w10 hr10).1; have f10 := (Hcell.out w10 hr10).2.1; clear hr10)
            | (go_simp; go_at_call 50; refine (l1Below_any w0 _ g cv code _ hcA hl (by omega) (by omega)).mono ?_; rintro e wB ⟨xB, rfl, -, -, hcB, hgB⟩; have HrB := hide (World.ownsRow.kept HrA.out hgB (.inr (by simp [Value.ownBlock]; omega))); have qB := (Hcell.out wB HrB.out).1; have hGB := (Hcell.out wB HrB.out).2.2; have hsB := hgB.size)
            | (go_simp; go_at_call 50; refine (l1Below_any w0 _ g cv code _ Hc.out.drew hl (by omega) (by omega)).mono ?_; rintro e wA ⟨xA, rfl, -, -, hcA, hgA⟩; have HrA := hide (World.ownsRow.kept (row_below Hr2.out (below_drewN (Below.refl w2.heap.size w2) 1) (Nat.le_refl _)) hgA (.inr (by simp [Value.ownBlock]; omega))); have qA := (Hcell.out wA HrA.out).1; have hGA := (Hcell.out wA HrA.out).2.2; have hsA := hgA.size))
          all_goals
            have hn' : ((((nm, fr, no, st, L10) : Ac), Value.slice a10 (ls.length + 1) c10) :: Zt).length = n := by rw [← hn]; rfl
            have hst := (Hr10.out.stored 4 (.slice a10 (ls.length + 1) c10)).1
            have hrow11 : RowA w.heap.size (w10.setCell ⟨G, 4, none⟩ (.slice a10 (ls.length + 1) c10)) (.slice (some ⟨G, 0, none⟩) n cap) ((((nm, fr, no, st, L10) : Ac), Value.slice a10 (ls.length + 1) c10) :: Zt) := by
              unfold RowA
              rw [hn']
              simpa [acC] using hst
            have hfar : ∀ k, (Value.slice a10 (ls.length + 1) c10).ownBlock = some k → k ≠ G := fun k hk => by
              rcases hloc10 with h | h
              · rw [h] at hk; exact Hfar0.out k hk
              · rw [h] at hk
                have : wB.heap.size + 1 = k := by simpa using hk
                omega
            have hLs : ∀ q ∈ ((((nm, fr, no, st, L10) : Ac), Value.slice a10 (ls.length + 1) c10) :: Zt), OwnL w.heap.size (w10.setCell ⟨G, 4, none⟩ (.slice a10 (ls.length + 1) c10)) q.2 q.1.2.2.2.2 := fun q hq => by
              rcases List.mem_cons.1 hq with rfl | hq
              · exact row_set ho10 G 4 _ hfar
              · obtain ⟨h1, h2, h3⟩ := HLt.out q hq
                exact row_set (OwnL.kept (OwnL.alloc (OwnL.notg (OwnL.notg (h1.below (below_drewN (Below.refl w2.heap.size w2) 1) (Nat.le_refl _)) hgA hgl) hgB hgl) _) hg10 h3) G 4 _ h2
            have hB11 : Below w.heap.size wB (w10.setCell ⟨G, 4, none⟩ (.slice a10 (ls.length + 1) c10)) := (((Below.refl w.heap.size wB).alloc (by omega) _).grown hg10 (by simp; omega) (fun j hj => HL0.out.ge j hj)).setCell (p := ⟨G, 4, none⟩) hGw _
            have Hrow11 := hide hrow11
            have HLs := hide hLs
            have Hc11 := hide (hcB.below hB11 hgl)
            have Hg11 := hide (grw_below (grw_trans (grw_trans (grw_drewN Hg.out 1) hgA) hgB) hB11 (Nat.le_refl _))
            clear hst hrow11 hLs hB11 hfar hcB hgB hcA hgA hg10 ho10 hloc10 q10 f10 Hr10
            go_wp2
            go_ret
            refine ⟨.slice (some ⟨G, 0, none⟩) n cap, (((nm, fr, no, st, L10) : Ac), Value.slice a10 (ls.length + 1) c10) :: Zt, rfl, ⟨⟨G, cap, by rw [hn']⟩, Hrow11.out, HLs.out⟩, ⟨by rw [hn']; have := hSm.1; omega, fun q hq => ?_⟩, Hc11.out, Hg11.out⟩
            rcases List.mem_cons.1 hq with rfl | hq
            · have h3 := Hl3.out
              exact ⟨hls.1, (show L10.length ≤ 4 by omega)⟩
            · exact hSm.2 q (List.mem_cons_of_mem _ hq)
      · have e0 : ((x : Int) == 0) = false := by rw [beq_eq_false_iff_ne]; omega
        have e1 : ((x : Int) == 1) = false := by rw [beq_eq_false_iff_ne]; omega
        have e2 : ((x : Int) == 2) = false := by rw [beq_eq_false_iff_ne]; omega
        clear hx0 hx1 hx2
        have HD := hide (DrA.of hrow2 hlv2)
        have Hg := hide hg2'
        have Hc := hide hc2
        clear hrow2 hlv2 hg2' hc2
        go_wp2
        go_ret
        exact ⟨_, Z, rfl, HD.out, hSm, Hc.out, Hg.out⟩
end Go.Proofs.YtbbkeebfginlfaaGreatDoor
