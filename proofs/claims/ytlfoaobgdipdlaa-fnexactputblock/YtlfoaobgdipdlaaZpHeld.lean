/- The laws' marks on bytes are found again. -/
import Derived.Test.YtlfoaobgdipdlaaZpMarks
namespace Go.Proofs.Ytlfoaobgdipdlaa
open Go.RowKit
set_option linter.unusedVariables false

set_option maxRecDepth 20000 in
set_option maxHeartbeats 400000 in
theorem heldByteS_any (v : Value) (k n : Nat) (w : World) (hr : RdB w v (markL k n)) (hl : n ≤ 10000000) (hk : k ≤ 100000000) :
    Calls Try.prog 24 #[v, .int .i64 (k : Int)] w fun e w' => e = .returned (.int .i64 ((k + n : Nat) : Int)) ∧ w' = w := by
  have hML := markL_len k n
  have hMA := markL_at k n
  generalize hMd : markL k n = M at hML hMA hr
  clear hMd
  rcases hr with ⟨a, cap, rfl, rfl, -⟩ | ⟨b, off, cap, h0, rfl, h1, h2, h3, h4⟩
  · simp at hML
    subst hML
    clear hMA
    go_enter Try.func24, Try.ntmps24
    go_wp2
    refine wp_loop_rounds 1 ?_
    rw [rounds_succ]
    go_wp2
    go_ret
    exact ⟨rfl, rfl⟩
  · have HML := hide hML
    have HMA := hide hMA
    have hMl : n ≤ M.length := by omega
    have hMg : M.length ≤ n := by omega
    clear hML hMA
    go_enter Try.func24, Try.ntmps24
    go_wp2
    go_loop [1, 5] (fun kv iv => ∃ j : Nat, j ≤ n ∧ iv = .int .i64 (j : Int) ∧ kv = .int .i64 ((k + j : Nat) : Int)) (fun _ iv => n - (intOf iv).toNat)
    case atStart => exact ⟨0, Nat.zero_le _, rfl, rfl⟩
    case round =>
      obtain ⟨j, hj, rfl, rfl⟩ := hrel
      by_cases hlt : j < n
      · have hjM : j < M.length := by omega
        have hc := h4 j hjM
        have e := HMA.out j hjM
        rw [e, byte_mod, Int.natCast_add] at hc
        clear e h4
        have hq : (((k : Int) + (j : Int)) % 256 != ((k : Int) + (j : Int)) % 256) = false := by simp
        go_wp2
        go_round
        case rel => exact ⟨j + 1, by omega, by go_num, by go_num⟩
        case measure => simp [intOf]; omega
      · have e : j = n := by omega
        have He := hide e
        clear e
        go_wp2
        go_ret
        exact ⟨ret_int (by rw [← He.out]), rfl⟩
end Go.Proofs.Ytlfoaobgdipdlaa
