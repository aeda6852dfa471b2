/- Quorums, on both sides, where the weights are small. -/
import Derived.Test.YtdelegamcebflaaVsSumI
namespace Go.Proofs.Ytdelegamcebflaa
open Go.RowKit
set_option linter.unusedVariables false

set_option maxRecDepth 20000 in
theorem thirdUp_any (n : Nat) (w : World) (hn : n ≤ 1000000000) :
    Calls Try.prog 26 #[.int .i64 (n : Int)] w fun e w' => e = .returned (.int .i64 (((n + 2) / 3 : Nat) : Int)) ∧ Below w.heap.size w w' := by
  have t1 : Int.tmod (n : Int) 3 = ((n % 3 : Nat) : Int) := by rw [Int.tmod_eq_emod_of_nonneg (by omega)]; omega
  have t2 : Int.tdiv (n : Int) 3 = ((n / 3 : Nat) : Int) := by rw [Int.tdiv_eq_ediv_of_nonneg (by omega)]; omega
  by_cases h : 0 < n % 3
  · have e : Hid ((n + 2) / 3 = n / 3 + 1) := hide (by omega)
    have hm : (0 : Int) < ((n % 3 : Nat) : Int) := by omega
    have hd : n / 3 ≤ 1000000000 := by omega
    generalize n % 3 = m at t1 hm
    generalize n / 3 = q at t2 e hd
    generalize (n + 2) / 3 = X at e ⊢
    go_enter Try.func26, Try.ntmps26
    go_wp2
    go_ret
    exact ⟨by rw [e.out]; rfl, Below.refl _ _⟩
  · have e : Hid ((n + 2) / 3 = n / 3) := hide (by omega)
    have hm : ¬ (0 : Int) < ((n % 3 : Nat) : Int) := by omega
    have hd : n / 3 ≤ 1000000000 := by omega
    generalize n % 3 = m at t1 hm
    generalize n / 3 = q at t2 e hd
    generalize (n + 2) / 3 = X at e ⊢
    go_enter Try.func26, Try.ntmps26
    go_wp2
    go_ret
    exact ⟨by rw [e.out]; rfl, Below.refl _ _⟩
set_option maxRecDepth 20000 in
set_option maxHeartbeats 1000000 in
theorem implIsQuorum_small (v vn : Value) (l : List Vl) (ns : List ByteArray) (w : World) (hr : RdV w v l) (hrn : RdS w vn ns) (hl : l.length ≤ 4000000) (hln : ns.length ≤ 4000000) (hT : 0 ≤ totalV l ∧ totalV l ≤ 1000000000) :
    Calls Try.prog 9 #[v, vn] w fun e w' => e = .returned (.bool (decide (2 * totalV l < 3 * weightV l ns))) ∧ Below w.heap.size w w' := by
  obtain ⟨a, c, rfl⟩ := hr.shape
  obtain ⟨an, cn, rfl⟩ := hrn.shape
  have HT := hide (implTotalOf_any _ l w hr hl)
  have HW := hide (fun w h1 h2 => implWeightOf_any (.slice a l.length c) (.slice an ns.length cn) l ns w h1 h2 hl hln)
  have Hr := hide hr
  have Hrn := hide hrn
  obtain ⟨n, hn⟩ : ∃ n : Nat, totalV l = (n : Int) := ⟨(totalV l).toNat, by omega⟩
  rw [hn] at HT hT ⊢
  have hn2 : n ≤ 1000000000 := by omega
  have HU := hide (fun w => thirdUp_any n w hn2)
  generalize weightV l ns = W at HW ⊢
  clear hr hrn hn hT
  have Hd : Hid (decide (2 * (n : Int) < 3 * W) = decide ((n : Int) - (((n + 2) / 3 : Nat) : Int) < W)) := hide (by rw [decide_eq_decide]; omega)
  generalize decide (2 * (n : Int) < 3 * W) = D at Hd ⊢
  have hq : (n + 2) / 3 ≤ n + 1 := by omega
  generalize (n + 2) / 3 = q at Hd HU hq
  go_enter Try.func9, Try.ntmps9
  go_wp2_with fail
  refine HT.out.mono ?_
  rintro e w1 ⟨rfl, hb1⟩
  go_wp2_with fail
  refine (HW.out _ (Hr.out.below hb1 (Nat.le_refl _)) (Hrn.out.below hb1 (Nat.le_refl _))).mono ?_
  rintro e w2 ⟨rfl, hb2⟩
  go_wp2_with fail
  refine (HU.out _).mono ?_
  rintro e w3 ⟨rfl, hb3⟩
  have hB := (hb1.trans (hb2.mono hb1.size)).trans (hb3.mono (Nat.le_trans hb1.size hb2.size))
  have hwr : IntKind.i64.wrap ((n : Int) - (q : Int)) = (n : Int) - (q : Int) := by rw [IntKind.wrap_i64]; omega
  go_wp2
  go_ret
  exact ⟨ret_bool (by rw [Hd.out]), hB⟩
set_option maxRecDepth 20000 in
set_option maxHeartbeats 1000000 in
theorem specIsQuorum_small (v vn : Value) (l : List Vl) (ns : List ByteArray) (w : World) (hr : RdV w v l) (hrn : RdS w vn ns) (hl : l.length ≤ 4000000) (hln : ns.length ≤ 4000000) (hT : 0 ≤ totalV l ∧ totalV l ≤ 1000000000) (hW : 0 ≤ weightV l ns ∧ weightV l ns ≤ 1000000000) :
    Calls Try.prog 34 #[v, vn] w fun e w' => e = .returned (.bool (decide (2 * totalV l < 3 * weightV l ns))) ∧ Below w.heap.size w w' := by
  obtain ⟨a, c, rfl⟩ := hr.shape
  obtain ⟨an, cn, rfl⟩ := hrn.shape
  have HW := hide (specWeightOf_any _ _ l ns w hr hrn hl hln)
  have HT := hide (fun w h => specTotalOf_any (.slice a l.length c) l w h hl)
  have Hr := hide hr
  generalize weightV l ns = W at HW hW ⊢
  generalize totalV l = T at HT hT ⊢
  have w1 : IntKind.i64.wrap (3 * W) = 3 * W := by rw [IntKind.wrap_i64]; omega
  have w2 : IntKind.i64.wrap (2 * T) = 2 * T := by rw [IntKind.wrap_i64]; omega
  clear hr hrn hT hW
  go_enter Try.func34, Try.ntmps34
  go_wp2_with fail
  refine HW.out.mono ?_
  rintro e w1' ⟨rfl, hb1⟩
  go_wp2_with fail
  refine (HT.out _ (Hr.out.below hb1 (Nat.le_refl _))).mono ?_
  rintro e w2' ⟨rfl, hb2⟩
  have hB := hb1.trans (hb2.mono hb1.size)
  go_wp2
  go_ret
  exact ⟨rfl, hB⟩
end Go.Proofs.Ytdelegamcebflaa
