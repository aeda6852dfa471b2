/- Blocks marked. Numbers held against their marks. -/
import Derived.Test.YtggkonpboahdeaaGreatDoorZlBkTo
import Derived.Test.YtggkonpboahdeaaGreatDoorZlVsMark
import Derived.Test.YtggkonpboahdeaaGreatDoorZlMarkStr
import Derived.Deep.RegionWith
import Derived.Test.YtggkonpboahdeaaGreatDoorZlHeldStr
import Derived.Lib.QuietBelow
import Derived.BigQuiet
namespace Go.Proofs.YtggkonpboahdeaaGreatDoor
open Go.RowKit
set_option linter.unusedVariables false

def mkI (k n : Nat) : List Int := (List.range n).map (fun j => ((k + j : Nat) : Int))
theorem mkI_len (k n : Nat) : (mkI k n).length = n := by simp [mkI]
theorem mkI_at (k n j : Nat) (h : j < (mkI k n).length) : (mkI k n)[j] = ((k + j : Nat) : Int) := by simp [mkI]
set_option maxRecDepth 20000 in
set_option maxHeartbeats 2000000 in
theorem markIntS_any (v : Value) (l : List Int) (k base : Nat) (w : World) (ho : OwnI base w v l) (hl : l.length ≤ 10000000) (hk : k ≤ 100000000) (hk0 : 0 < k) :
    Calls Tryz.prog 31 #[v, .int .i64 (k : Int)] w fun e w' => e = .returned (.int .i64 ((k + l.length : Nat) : Int)) ∧ OwnI base w' v (mkI k l.length) ∧ w.grownBy w' v.ownBlock := by
  have hML := mkI_len k l.length
  have hMA := mkI_at k l.length
  generalize hMd : mkI k l.length = M at hML hMA
  clear hMd
  rcases ho.2 with ⟨rfl, hn⟩ | ⟨g, cap, cur, rfl, _, _, _, hcm, _, _⟩
  · have e : l = [] := List.length_eq_zero_iff.1 hn
    subst e
    have e2 : M = [] := List.length_eq_zero_iff.1 hML
    subst e2
    have Ho := hide ho
    clear ho
    go_enter Tryz.func31, Tryz.ntmps31
    go_wp2
    refine wp_loop_rounds 1 ?_
    rw [rounds_succ]
    go_wp2
    go_ret
    exact ⟨rfl, Ho.out, World.grownBy.refl _ _⟩
  · have Ho := hide ho
    have HML := hide hML
    have HMA := hide hMA
    have hMl : l.length ≤ M.length := by omega
    have hMg : M.length ≤ l.length := by omega
    clear ho hML hMA
    go_enter Tryz.func31, Tryz.ntmps31
    go_wp2
    go_loopw [1, 5] (fun kv iv wr => ∃ j : Nat, j ≤ l.length ∧ iv = .int .i64 (j : Int) ∧ kv = .int .i64 ((k + j : Nat) : Int) ∧ wr.ownsRow base 3 1 (.slice (some ⟨g, 0, none⟩) l.length cap) l.length ((M.take j ++ l.drop j).map (Value.int .i64)) ∧ w.grownBy wr (some g))
      (fun _ iv _ => l.length - (intOf iv).toNat)
    case atStart => exact ⟨0, Nat.zero_le _, rfl, rfl, by simpa [OwnI] using Ho.out, World.grownBy.refl _ _⟩
    case round =>
      obtain ⟨j, hj, rfl, rfl, hown, hgr⟩ := hrel
      by_cases hlt : j < l.length
      · have hjM : j < M.length := by omega
        obtain ⟨K, hK⟩ : ∃ K : Nat, k + j = K := ⟨_, rfl⟩
        have hK2 : K ≤ 200000000 := by omega
        have hK0 : 0 < K := by omega
        have eM : M[j] = (K : Int) := by rw [HMA.out j hjM, hK]
        rw [hK]
        have HK := hide hK
        clear hK
        have Hown := hide hown
        have Hgr := hide hgr
        clear hown hgr
        have hown2 := Hown.out
        have hf := hown2.frozenAt j
        have hd := hown2.cellAt j (by omega)
        obtain ⟨u, hu⟩ : ∃ u, ((M.take j ++ l.drop j).map (Value.int .i64))[j]? = some u := ⟨_, List.getElem?_eq_getElem (by simp; omega)⟩
        rw [hu] at hd
        have hst := hown2.stored j (.int .i64 M[j])
        rw [gen_set M l (Value.int .i64) j HML.out hjM, eM] at hst
        have Hst := hide hst
        clear hst hown2 hu eM
        go_wp2
        go_roundw
        case rel => exact ⟨j + 1, by omega, by go_num, by rw [show k + (j + 1) = K + 1 from by have := HK.out; omega]; go_num, Hst.out.1, grownS_trans Hgr.out Hst.out.2⟩
        case measure => simp [intOf]; omega
      · have e : M.take j ++ l.drop j = M := by rw [List.take_of_length_le (by omega), List.drop_of_length_le (by omega), List.append_nil]
        rw [e] at hown
        have ho' : OwnI base wr (.slice (some ⟨g, 0, none⟩) l.length cap) M := by
          unfold OwnI
          rw [HML.out]
          exact hown
        have e2 : j = l.length := by omega
        have Ho' := hide ho'
        have Hgr := hide hgr
        clear ho' hgr hown e
        subst e2
        go_wp2
        go_ret
        exact ⟨rfl, Ho'.out, Hgr.out⟩
set_option maxRecDepth 20000 in
set_option maxHeartbeats 2000000 in
theorem markTxO_any (v : Value) (l : List Tx5) (k base : Nat) (S : Nat → Prop) (w : World) (ho : OwnT base w v l) (hhi : ∀ g, v.ownBlock = some g → S g) (hl : l.length ≤ 10000000) (hk : k + 5 * l.length ≤ 90000000) (hk0 : 0 < k) :
    Calls Tryz.prog 32 #[v, .int .i64 (k : Int)] w fun e w' => e = .returned (.int .i64 ((k + 5 * l.length : Nat) : Int)) ∧ Oth S w w' := by
  have hcl : (l.map txC).flatten.length = 5 * l.length := by
    clear ho hhi hl hk hk0
    induction l with
    | nil => rfl
    | cons t l ih =>
      rw [List.map_cons, List.flatten_cons, List.length_append, ih, List.length_cons]
      show 5 + 5 * l.length = 5 * (l.length + 1)
      omega
  by_cases hne : l = []
  · subst hne
    obtain ⟨a, c, rfl⟩ := ho.rd.shape
    clear ho hhi hcl
    go_enter Tryz.func32, Tryz.ntmps32
    go_wp2
    refine wp_loop_rounds 1 ?_
    rw [rounds_succ]
    go_wp2
    go_ret
    exact ⟨by simp <;> rfl, Oth.refl _ _⟩
  · obtain ⟨g, cap, rfl⟩ : ∃ g cap, v = .slice (some ⟨g, 0, none⟩) l.length cap := by
      rcases ho.2 with ⟨rfl, hn⟩ | ⟨g, cap, cur, rfl, -⟩
      · exact absurd (List.length_eq_zero_iff.1 hn) hne
      · exact ⟨g, cap, rfl⟩
    have hgb : base ≤ g := (World.ownsRow.lt ho g rfl).1
    have hghi : S g := hhi g rfl
    have Hrow : Hid (w.ownsRow base 107 5 (.slice (some ⟨g, 0, none⟩) l.length cap) l.length (l.map txC).flatten) := hide ho
    clear ho hhi
    generalize (l.map txC).flatten = Y0 at Hrow hcl
    go_enter Tryz.func32, Tryz.ntmps32
    go_wp2
    go_loopw [1, 5] (fun kv iv wr => ∃ (j : Nat) (Y : List Value), j ≤ l.length ∧ iv = .int .i64 (j : Int) ∧ kv = .int .i64 ((k + 5 * j : Nat) : Int) ∧ Y.length = 5 * l.length ∧ wr.ownsRow base 107 5 (.slice (some ⟨g, 0, none⟩) l.length cap) l.length Y ∧ Oth S w wr)
      (fun _ iv _ => l.length - (intOf iv).toNat)
    case atStart => exact ⟨0, Y0, Nat.zero_le _, rfl, rfl, hcl, Hrow.out, Oth.refl _ _⟩
    case round =>
      obtain ⟨j, Y, hj, rfl, rfl, hYl, hown, hbt⟩ := hrel
      clear Hrow hcl
      by_cases hlt : j < l.length
      · have hli : (j : Int) < (l.length : Int) := by omega
        have Hnx : Hid (k + 5 * (j + 1) = k + 5 * j + 5) := hide (by omega)
        have hK1 : k + 5 * j + 5 ≤ 90000000 := by omega
        have hK0 : 0 < k + 5 * j := by omega
        generalize k + 5 * j = K at Hnx hK1 hK0 ⊢
        have Hm1 := hide (fun w => markText_any (K + 1) w (by omega) (by omega))
        have Hm2 := hide (fun w => markText_any (K + 1 + 1) w (by omega) (by omega))
        obtain ⟨⟨y0, q0⟩, f0, s0⟩ := row_step9 hown hYl (j * 5) (by omega)
        have S0 := hide s0
        have Hbt := hide hbt
        clear hown hbt s0
        go_wp2_with fail
        refine (Hm1.out _).mono ?_
        rintro e w1 ⟨rfl, hb1⟩
        have r1 := row_below (S0.out (.int .i64 (K : Int))) hb1 (Nat.le_refl _)
        have Hbt1 := hide ((Hbt.out.set hghi (j * 5) (.int .i64 (K : Int))).trans (Oth.of_below hb1))
        clear hb1 q0 f0
        obtain ⟨⟨y1, q1⟩, f1, s1⟩ := row_step9 r1 (by simp [hYl]) (j * 5 + 1) (by omega)
        have S1 := hide s1
        clear r1 s1
        go_wp2_with fail
        refine (Hm2.out _).mono ?_
        rintro e w2 ⟨rfl, hb2⟩
        have r2 := row_below (S1.out (.string (mtx (K + 1)))) hb2 (Nat.le_refl _)
        have Hbt2 := hide ((Hbt1.out.set hghi (j * 5 + 1) (.string (mtx (K + 1)))).trans (Oth.of_below hb2))
        clear hb2 q1 f1
        obtain ⟨⟨y2, q2⟩, f2, s2⟩ := row_step9 r2 (by simp [hYl]) (j * 5 + 2) (by omega)
        obtain ⟨⟨y3, q3⟩, f3, -⟩ := row_step9 r2 (by simp [hYl]) (j * 5 + 3) (by omega)
        obtain ⟨⟨y4, q4⟩, f4, -⟩ := row_step9 r2 (by simp [hYl]) (j * 5 + 4) (by omega)
        have S2 := hide (fun u2 u3 u4 => (((row_step9 (((row_step9 (s2 u2) (by simp [hYl]) (j * 5 + 3) (by omega)).2.2) u3) (by simp [hYl]) (j * 5 + 4) (by omega)).2.2) u4))
        clear r2 s2
        go_wp2
        go_roundw
        case rel =>
          refine ⟨j + 1, _, by omega, by go_num, by rw [Hnx.out]; go_num, ?_, S2.out _ _ _, ((Hbt2.out.set hghi _ _).set hghi _ _).set hghi _ _⟩
          simp [hYl]
        case measure => simp [intOf]; omega
      · have ej : j = l.length := by omega
        subst ej
        have Hbt := hide hbt
        clear hown hbt
        go_wp2
        go_ret
        exact ⟨rfl, Hbt.out⟩
end Go.Proofs.YtggkonpboahdeaaGreatDoor

namespace Go.Proofs.YtggkonpboahdeaaGreatDoor
open Go.RowKit Go.Sort
set_option linter.unusedVariables false

end Go.Proofs.YtggkonpboahdeaaGreatDoor
