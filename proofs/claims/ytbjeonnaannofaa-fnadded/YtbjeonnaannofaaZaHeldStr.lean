/- The laws' marks on texts are found again. -/
import Derived.Test.YtbjeonnaannofaaZaMarkStr
import Derived.Deep.RegionWith
namespace Go.Proofs.Ytbjeonnaannofaa
open Go.RowKit
set_option linter.unusedVariables false

set_option maxRecDepth 20000 in
set_option maxHeartbeats 1000000 in
theorem heldStringS_any (v : Value) (k n : Nat) (w : World) (hr : RdS w v (mkS k n)) (hl : n ≤ 10000000) (hk : k ≤ 100000000) (hk0 : 0 < k) :
    Calls Try.prog 85 #[v, .int .i64 (k : Int)] w fun e w' => e = .returned (.int .i64 ((k + n : Nat) : Int)) ∧ Below w.heap.size w w' := by
  have hML := mkS_len k n
  have hMA := mkS_at k n
  generalize hMd : mkS k n = M at hML hMA hr
  clear hMd
  rcases hr with ⟨a, cap, rfl, rfl, -⟩ | ⟨b, off, cap, h0, rfl, h1, h2, h3, h4⟩
  · simp at hML
    subst hML
    clear hMA
    go_enter Try.func85, Try.ntmps85
    go_wp2
    refine wp_loop_rounds 1 ?_
    rw [rounds_succ]
    go_wp2
    go_ret
    exact ⟨rfl, Below.refl _ _⟩
  · have HML := hide hML
    have HMA := hide hMA
    have hMl : n ≤ M.length := by omega
    have hMg : M.length ≤ n := by omega
    have H4 := hide h4
    clear hML hMA h4
    go_enter Try.func85, Try.ntmps85
    go_wp2
    go_loopw [1, 5] (fun kv iv wr => ∃ j : Nat, j ≤ n ∧ iv = .int .i64 (j : Int) ∧ kv = .int .i64 ((k + j : Nat) : Int) ∧ Below w.heap.size w wr) (fun _ iv _ => n - (intOf iv).toNat)
    case atStart => exact ⟨0, Nat.zero_le _, rfl, rfl, Below.refl _ _⟩
    case round =>
      obtain ⟨j, hj, rfl, rfl, hb⟩ := hrel
      by_cases hlt : j < n
      · have hjM : j < M.length := by omega
        have hc : wr.cell? ⟨b, off + j, none⟩ = some (.string M[j]) := (hb.cell (p := ⟨b, off + j, none⟩) h3).trans (H4.out j hjM)
        obtain ⟨K, hK⟩ : ∃ K : Nat, k + j = K := ⟨_, rfl⟩
        have hK2 : K ≤ 200000000 := by omega
        have hK0 : 0 < K := by omega
        have Hm := hide (fun w => markText_any K w hK0 hK2)
        rw [HMA.out j hjM, hK] at hc
        rw [hK]
        have HK := hide hK
        have hsz := hb.size
        have hbw : b < wr.heap.size := by omega
        have hli : (j : Int) < (M.length : Int) := by omega
        have Hb := hide hb
        clear hK hb
        go_wp2_with fail
        go_region_with (go_at_call 66; refine (Hm.out _).mono ?_; rintro e w2 ⟨rfl, hb2⟩; have hc2 := (hb2.cell (p := ⟨b, off + j, none⟩) (by exact hbw)).trans (by exact hc))
        all_goals
          rename Below _ _ _ => hb2
          go_wp2
          go_roundw
          case rel => exact ⟨j + 1, by omega, by go_num, by rw [show k + (j + 1) = K + 1 from by have := HK.out; omega]; go_num, Hb.out.drew.trans (hb2.mono hsz)⟩
          case measure => simp [intOf]; omega
      · have e : j = n := by omega
        have He := hide e
        clear e
        go_wp2
        go_ret
        exact ⟨ret_int (by rw [← He.out]), hb⟩
end Go.Proofs.Ytbjeonnaannofaa
