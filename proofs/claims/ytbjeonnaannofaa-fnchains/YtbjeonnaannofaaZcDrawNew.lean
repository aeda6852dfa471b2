/- A new cursor over the bytes of a code. -/
import Derived.Test.YtbjeonnaannofaaZcDraw
namespace Go.Proofs.Ytbjeonnaannofaa
open Go.RowKit
set_option linter.unusedVariables false

theorem andM_bd (x : Int) : 0 ≤ bits .and .i64 x 1073741823 ∧ bits .and .i64 x 1073741823 ≤ 1073741823 := by
  show 0 ≤ IntKind.i64.wrap ((BitVec.ofInt 64 x &&& BitVec.ofInt 64 1073741823).toNat : Int) ∧ IntKind.i64.wrap ((BitVec.ofInt 64 x &&& BitVec.ofInt 64 1073741823).toNat : Int) ≤ 1073741823
  have h : (BitVec.ofInt 64 x &&& BitVec.ofInt 64 1073741823).toNat ≤ 1073741823 := by
    rw [BitVec.toNat_and]
    exact Nat.le_trans Nat.and_le_right (by decide)
  rw [IntKind.wrap_i64]
  omega

theorem cur_new (w : World) (cv : Value) (code : List UInt8) (h : Int) (hr : RdB w cv code) (h1 : -9223372036854775808 ≤ h) (h2 : h ≤ 9223372036854775807) :
    Cur w (w.alloc (.cells #[cv, .int .i64 0, .int .i64 h] 116)) w.heap.size cv code ∧ Below w.heap.size w (w.alloc (.cells #[cv, .int .i64 0, .int .i64 h] 116)) :=
  ⟨⟨hr, (Below.refl _ _).alloc (Nat.le_refl _) _, Nat.le_refl _, ⟨0, h, heap_alloc_new w _, by omega, by omega, h1, h2⟩⟩, (Below.refl _ _).alloc (Nat.le_refl _) _⟩

set_option maxRecDepth 20000 in
set_option maxHeartbeats 400000 in
theorem l1New_any (w : World) (cv : Value) (code : List UInt8) (hr : RdB w cv code) (hl : code.length ≤ 1048576) :
    Calls Try.prog 34 #[cv] w fun e w' => e = .returned (.pointer (some ⟨w.heap.size, 0, none⟩)) ∧ Cur w w' w.heap.size cv code ∧ Below w.heap.size w w' := by
  have Hn := hide (fun h h1 h2 => cur_new w cv code h hr h1 h2)
  rcases hr with ⟨a, cap, rfl, rfl, -⟩ | ⟨b, off, cap, h0, rfl, h1, h2, h3, h4⟩
  · go_enter Try.func34, Try.ntmps34
    go_wp2
    refine wp_loop_rounds 1 ?_
    rw [rounds_succ]
    go_wp2
    go_ret
    exact ⟨rfl, Hn.out _ (by omega) (by omega)⟩
  · have H4 := hide h4
    clear h4
    go_enter Try.func34, Try.ntmps34
    go_wp2
    go_loop [3, 4] (fun hv iv => ∃ (k : Nat) (h : Int), k ≤ code.length ∧ iv = .int .i64 (k : Int) ∧ hv = .int .i64 h ∧ 0 ≤ h ∧ h ≤ 1073741823) (fun _ iv => code.length - (intOf iv).toNat)
    case atStart => exact ⟨0, _, Nat.zero_le _, rfl, rfl, by omega, by omega⟩
    case round =>
      obtain ⟨k, h, hk, rfl, rfl, hh0, hh1⟩ := hrel
      by_cases hlt : k < code.length
      · by_cases h4000 : k < 4000
        · have hc := H4.out k hlt
          have hcb : (code[k].toNat : Int) < 256 := by have := code[k].toNat_lt; omega
          generalize code[k].toNat = C at hc hcb
          have hA := andM_bd (h * 137 + (C : Int) + 11)
          go_wp2
          go_round
          case rel => exact ⟨k + 1, _, by omega, by go_num, rfl, hA.1, hA.2⟩
          case measure => simp [intOf]; omega
        · go_wp2
          go_ret
          exact ⟨rfl, Hn.out _ (by omega) (by omega)⟩
      · go_wp2
        go_ret
        exact ⟨rfl, Hn.out _ (by omega) (by omega)⟩
end Go.Proofs.Ytbjeonnaannofaa
