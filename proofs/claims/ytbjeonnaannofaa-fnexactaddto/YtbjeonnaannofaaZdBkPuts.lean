/- Numbers held against their marks. One list of a block marked: the others are as they were. -/
import Derived.Test.YtbjeonnaannofaaZdBkMark
import Derived.Test.YtbjeonnaannofaaZdHeldStr
import Derived.Lib.QuietBelow
import Derived.BigQuiet
import Derived.Test.YtbjeonnaannofaaZdTxOpen
namespace Go.Proofs.Ytbjeonnaannofaa
open Go.RowKit Go.Sort
set_option linter.unusedVariables false

set_option maxRecDepth 20000 in
set_option maxHeartbeats 1000000 in
theorem heldIntS_any (v : Value) (k n : Nat) (w : World) (hr : RdI w v (mkI k n)) (hl : n ≤ 10000000) (hk : k ≤ 100000000) (hk0 : 0 < k) :
    Calls Try.prog 86 #[v, .int .i64 (k : Int)] w fun e w' => e = .returned (.int .i64 ((k + n : Nat) : Int)) ∧ Below w.heap.size w w' := by
  have hML := mkI_len k n
  have hMA := mkI_at k n
  generalize hMd : mkI k n = M at hML hMA hr
  clear hMd
  rcases hr with ⟨a, cap, rfl, rfl, -⟩ | ⟨b, off, cap, h0, rfl, h1, h2, h3, h4⟩
  · simp at hML
    subst hML
    clear hMA
    go_enter Try.func86, Try.ntmps86
    go_wp2
    refine wp_loop_rounds 1 ?_
    rw [rounds_succ]
    go_wp2
    go_ret
    exact ⟨rfl, Below.refl _ _⟩
  · have HMA := hide hMA
    have hMl : n ≤ M.length := by omega
    have hMg : M.length ≤ n := by omega
    have H4 := hide h4
    clear hML hMA h4
    go_enter Try.func86, Try.ntmps86
    go_wp2
    go_loopw [1, 5] (fun kv iv wr => ∃ j : Nat, j ≤ n ∧ iv = .int .i64 (j : Int) ∧ kv = .int .i64 ((k + j : Nat) : Int) ∧ wr = w) (fun _ iv _ => n - (intOf iv).toNat)
    case atStart => exact ⟨0, Nat.zero_le _, rfl, rfl, rfl⟩
    case round =>
      obtain ⟨j, hj, rfl, rfl, rfl⟩ := hrel
      by_cases hlt : j < n
      · have hjM : j < M.length := by omega
        have hc0 := H4.out j hjM
        obtain ⟨K, hK⟩ : ∃ K : Nat, k + j = K := ⟨_, rfl⟩
        have hK2 : K ≤ 150000000 := by omega
        rw [HMA.out j hjM, hK] at hc0
        rw [hK]
        have HK := hide hK
        have hli : (j : Int) < (M.length : Int) := by omega
        clear hK
        go_wp2
        go_roundw
        case rel => exact ⟨j + 1, by omega, by go_num, by rw [show k + (j + 1) = K + 1 from by have := HK.out; omega]; go_num, by first | trivial | rfl⟩
        case measure => simp [intOf]; omega
      · have e : j = n := by omega
        have He := hide e
        clear e
        go_wp2
        go_ret
        exact ⟨ret_int (by rw [← He.out]), Below.refl _ _⟩
end Go.Proofs.Ytbjeonnaannofaa

namespace Go.Proofs.Ytbjeonnaannofaa
open Go.RowKit
set_option linter.unusedVariables false

section
variable {base : Nat} {w w' : World} {b : Bk} {v : Bv}
theorem OwnK.putq (h : OwnK base w b v) (hin : ∀ k, v.q.ownBlock = some k → v.w.ownBlock ≠ some k) (x : List ByteArray) (hx : OwnS base w' v.q x) (hO : Oth (fun g => v.q.ownBlock = some g) w w') : OwnK base w' { b with qw := x } v :=
  ⟨hx, row_oth h.p hO (fun g e e2 => hin g e2 e), row_oth h.h hO (fun g e e2 => rows_apart h.q h.h (by decide) g e e2), row_oth h.t hO (fun g e e2 => rows_apart h.q h.t (by decide) g e e2), row_oth h.n hO (fun g e e2 => rows_apart h.q h.n (by decide) g e e2)⟩
theorem OwnK.putw (h : OwnK base w b v) (hin : ∀ k, v.q.ownBlock = some k → v.w.ownBlock ≠ some k) (x : List ByteArray) (hx : OwnS base w' v.w x) (hO : Oth (fun g => v.w.ownBlock = some g) w w') : OwnK base w' { b with tw := x } v :=
  ⟨row_oth h.q hO (fun g e e2 => hin g e e2), hx, row_oth h.h hO (fun g e e2 => rows_apart h.p h.h (by decide) g e e2), row_oth h.t hO (fun g e e2 => rows_apart h.p h.t (by decide) g e e2), row_oth h.n hO (fun g e e2 => rows_apart h.p h.n (by decide) g e e2)⟩
theorem OwnK.puth (h : OwnK base w b v) (x : List Int) (hx : OwnI base w' v.h x) (hO : Oth (fun g => v.h.ownBlock = some g) w w') : OwnK base w' { b with th := x } v :=
  ⟨row_oth h.q hO (fun g e e2 => rows_apart h.h h.q (by decide) g e e2), row_oth h.p hO (fun g e e2 => rows_apart h.h h.p (by decide) g e e2), hx, row_oth h.t hO (fun g e e2 => rows_apart h.h h.t (by decide) g e e2), row_oth h.n hO (fun g e e2 => rows_apart h.h h.n (by decide) g e e2)⟩
theorem OwnK.putt (h : OwnK base w b v) (x : List Tx5) (hx : OwnT base w' v.t x) (hO : Oth (fun g => v.t.ownBlock = some g) w w') : OwnK base w' { b with ts := x } v :=
  ⟨row_oth h.q hO (fun g e e2 => rows_apart h.t h.q (by decide) g e e2), row_oth h.p hO (fun g e e2 => rows_apart h.t h.p (by decide) g e e2), row_oth h.h hO (fun g e e2 => rows_apart h.t h.h (by decide) g e e2), hx, row_oth h.n hO (fun g e e2 => rows_apart h.t h.n (by decide) g e e2)⟩
theorem OwnK.putn (h : OwnK base w b v) (x : List Vl) (hx : OwnV base w' v.n x) (hO : Oth (fun g => v.n.ownBlock = some g) w w') : OwnK base w' { b with nx := x } v :=
  ⟨row_oth h.q hO (fun g e e2 => rows_apart h.n h.q (by decide) g e e2), row_oth h.p hO (fun g e e2 => rows_apart h.n h.p (by decide) g e e2), row_oth h.h hO (fun g e e2 => rows_apart h.n h.h (by decide) g e e2), row_oth h.t hO (fun g e e2 => rows_apart h.n h.t (by decide) g e e2), hx⟩
end
end Go.Proofs.Ytbjeonnaannofaa
