/- The laws' own look-ups, and what is drawn for them. -/
import Derived.Test.YtkidfkngehcjgaaZsRot
import Derived.Test.YtkidfkngehcjgaaZsVsSum
namespace Go.Proofs.Ytkidfkngehcjgaa
open Go.RowKit
set_option linter.unusedVariables false

set_option maxRecDepth 20000 in
set_option maxHeartbeats 1000000 in
theorem lawAmong_any (v : Value) (ns : List ByteArray) (s : ByteArray) (w : World) (hr : RdS w v ns) (hl : ns.length ≤ 4000000) :
    Calls Try.prog 10 #[v, .string s] w fun e w' => e = .returned (.bool (hasN ns s)) ∧ Below w.heap.size w w' := by
  rcases hr with ⟨a, cap, rfl, rfl, -⟩ | ⟨b, off, cap, h0, rfl, h1, h2, h3, h4⟩
  · go_enter Try.func10, Try.ntmps10
    go_wp2
    refine wp_loop_rounds 1 ?_
    rw [rounds_succ]
    go_wp2
    go_ret
    exact ⟨rfl, Below.refl _ _⟩
  · have H4 := hide h4
    clear h4
    go_enter Try.func10, Try.ntmps10
    go_wp2
    go_loopw [5] (fun i wr => ∃ k : Nat, k ≤ ns.length ∧ i = .int .i64 k ∧ s ∉ ns.take k ∧ Below w.heap.size w wr) (fun i _ => ns.length - (intOf i).toNat)
    case atStart => exact ⟨0, Nat.zero_le _, rfl, by simp, Below.refl _ _⟩
    case round =>
      obtain ⟨k, hk, rfl, hno, hb⟩ := hrel
      have Hno := hide hno
      clear hno
      by_cases hlt : k < ns.length
      · have hc := (hb.cell (p := ⟨b, off + k, none⟩) h3).trans (H4.out k hlt)
        have hli : (k : Int) < (ns.length : Int) := by omega
        by_cases he : ns[k] = s
        · have Hr : Hid (hasN ns s = true) := hide (hasN_yes (by rw [← he]; exact List.getElem_mem _))
          rw [he] at hc
          clear he
          go_wp2
          go_ret
          exact ⟨ret_bool Hr.out.symm, hb⟩
        · have Hn2 := hide (mem_next hlt Hno.out he)
          have hq := bytes_ne he
          clear he Hno
          generalize ns[k] = t at hc hq
          go_wp2
          go_roundw
          case rel => exact ⟨k + 1, by omega, by go_num, Hn2.out, hb⟩
          case measure => simp [intOf]; omega
      · have Hr : Hid (hasN ns s = false) := hide (hasN_no (by have := Hno.out; rwa [List.take_of_length_le (by omega)] at this))
        go_wp2
        go_ret
        exact ⟨ret_bool Hr.out.symm, hb⟩
end Go.Proofs.Ytkidfkngehcjgaa
