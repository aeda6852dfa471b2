/- The laws' marks on accounts are found again. -/
import Derived.Test.YtljkmoffpgpeoaaAcMarkS
namespace Go.Proofs.Ytljkmoffpgpeoaa
open Go.RowKit
set_option linter.unusedVariables false

set_option maxRecDepth 20000 in
set_option maxHeartbeats 1000000 in
theorem heldLeaveS_any (v : Value) (k n : Nat) (w : World) (hr : RdL w v (mkL k n)) (hl : n ≤ 10000000) (hk : k ≤ 100000000) :
    Calls Try.prog 85 #[v, .int .i64 (k : Int)] w fun e w' => e = .returned (.int .i64 ((k + 2 * n : Nat) : Int)) ∧ Below w.heap.size w w' := by
  have hML := mkL_len k n
  have hMA := mkL_at k n
  generalize hMd : mkL k n = M at hML hMA hr
  clear hMd
  rcases hr with ⟨a, cap, rfl, rfl, -⟩ | ⟨b, off, cap, h0, rfl, h1, h2, h3, h4⟩
  · simp at hML
    subst hML
    clear hMA
    go_enter Try.func85, Try.ntmps85
    go_wp2
    refine wp_loop_rounds 1 ?_
    rw [rounds_succ]
    go_wp2
    go_ret
    exact ⟨rfl, Below.refl _ _⟩
  · have HMA := hide hMA
    have hMl : n ≤ M.length := by omega
    have hMg : M.length ≤ n := by omega
    have H4 := hide h4
    clear hML hMA h4
    go_enter Try.func85, Try.ntmps85
    go_wp2
    go_loopw [1, 5] (fun kv iv wr => ∃ j : Nat, j ≤ n ∧ iv = .int .i64 (j : Int) ∧ kv = .int .i64 ((k + 2 * j : Nat) : Int) ∧ Below w.heap.size w wr) (fun _ iv _ => n - (intOf iv).toNat)
    case atStart => exact ⟨0, Nat.zero_le _, rfl, rfl, Below.refl _ _⟩
    case round =>
      obtain ⟨j, hj, rfl, rfl, hb⟩ := hrel
      by_cases hlt : j < n
      · have hjM : j < M.length := by omega
        have hc0 : wr.cell? ⟨b, off + j * 2, none⟩ = some (.int .i64 M[j].1) := (hb.cell (p := ⟨b, off + j * 2, none⟩) h3).trans (H4.out j hjM).1
        have hc1 : wr.cell? ⟨b, off + j * 2 + 1, none⟩ = some (.int .i64 M[j].2) := (hb.cell (p := ⟨b, off + j * 2 + 1, none⟩) h3).trans (H4.out j hjM).2
        obtain ⟨K, hK⟩ : ∃ K : Nat, k + 2 * j = K := ⟨_, rfl⟩
        have hK2 : K ≤ 200000000 := by omega
        rw [HMA.out j hjM, hK] at hc0 hc1
        simp only at hc0 hc1
        rw [hK]
        have HK := hide hK
        have hli : (j : Int) < (M.length : Int) := by omega
        have Hb := hide hb
        clear hK hb
        go_wp2
        go_roundw
        case rel => exact ⟨j + 1, by omega, by go_num, by rw [show k + 2 * (j + 1) = K + 2 from by have := HK.out; omega]; go_num, Hb.out⟩
        case measure => simp [intOf]; omega
      · have e : j = n := by omega
        have He := hide e
        clear e
        go_wp2
        go_ret
        exact ⟨ret_int (by rw [← He.out]), hb⟩
set_option maxRecDepth 20000 in
set_option maxHeartbeats 2000000 in
theorem heldAcctS_any (v : Value) (l : List Ac) (k : Nat) (w : World) (hr : RdA w v (mkAs k l)) (hl : l.length ≤ 10000000) (hlv : ∀ a ∈ l, a.2.2.2.2.length ≤ 10000000) (hk : nxs k l ≤ 90000000) (hk0 : 0 < k) :
    Calls Try.prog 75 #[v, .int .i64 (k : Int)] w fun e w' => e = .returned (.int .i64 ((nxs k l : Nat) : Int)) ∧ Below w.heap.size w w' := by
  have hML := mkAs_len k l
  have hMA : ∀ j (h : j < l.length) (h' : j < (mkAs k l).length), (mkAs k l)[j] = mkA (nxs k (l.take j)) l[j] := fun j h _ => mkAs_at k l j h
  generalize hMd : mkAs k l = M at hML hMA hr
  clear hMd
  rcases hr with ⟨a, cap, rfl, rfl, -⟩ | ⟨b, off, cap, h0, rfl, h1, h2, h3, h4⟩
  · have e : l = [] := List.length_eq_zero_iff.1 (by simpa using hML.symm)
    subst e
    clear hMA
    go_enter Try.func75, Try.ntmps75
    go_wp2
    refine wp_loop_rounds 1 ?_
    rw [rounds_succ]
    go_wp2
    go_ret
    exact ⟨rfl, Below.refl _ _⟩
  · have HMA := hide hMA
    have hMl : l.length ≤ M.length := by omega
    have hMg : M.length ≤ l.length := by omega
    have H4 := hide h4
    have Hlv := hide hlv
    clear hML hMA h4 hlv
    go_enter Try.func75, Try.ntmps75
    go_wp2
    go_loopw [1, 5] (fun kv iv wr => ∃ j : Nat, j ≤ l.length ∧ iv = .int .i64 (j : Int) ∧ kv = .int .i64 ((nxs k (l.take j) : Nat) : Int) ∧ Below w.heap.size w wr) (fun _ iv _ => l.length - (intOf iv).toNat)
    case atStart => exact ⟨0, Nat.zero_le _, rfl, rfl, Below.refl _ _⟩
    case round =>
      obtain ⟨j, hj, rfl, rfl, hb⟩ := hrel
      by_cases hlt : j < l.length
      · have hjM : j < M.length := by omega
        obtain ⟨lw, hat, hrl⟩ := H4.out j hjM
        have hat := hat.below hb h3
        have hM := HMA.out j hlt hjM
        rw [hM] at hat hrl
        have hlj := Hlv.out l[j] (List.getElem_mem _)
        have hKb := nxs_take k l (j + 1)
        have hnxe : nxs k (l.take (j + 1)) = nxs k (l.take j) + 4 + 2 * l[j].2.2.2.2.length := nxs_next k l j hlt
        have hKg := nxs_ge k (l.take j)
        obtain ⟨K, hK⟩ : ∃ K, nxs k (l.take j) = K := ⟨_, rfl⟩
        rw [hK] at hat hrl hnxe hKg ⊢
        have Hnx := hide hnxe
        obtain ⟨c0, c1, c2, c3, c4⟩ := hat
        have hrl2 : RdL wr lw (mkL (K + 4) l[j].2.2.2.2.length) := RdL.below hrl hb (Nat.le_refl _)
        have hK0 : 0 < K := by omega
        have hK2 : K ≤ 90000000 := by omega
        have Hm := hide (fun w => markText_any K w hK0 (by omega))
        have hshape := hrl2.shape
        rw [mkL_len] at hshape
        have Hrl := hide hrl2
        have hsz := hb.size
        have hbw : b < wr.heap.size := by omega
        have hli : (j : Int) < (M.length : Int) := by omega
        have Hb := hide hb
        clear hM hrl hrl2 hb hK hKb hnxe
        generalize l[j].2.2.2.2.length = nl at *
        have HL := hide (fun (W : World) (h : RdL W lw (mkL (K + 4) nl)) => heldLeaveS_any lw (K + 4) nl W h hlj (by omega))
        obtain ⟨a', c', rfl⟩ := hshape
        simp only [mkA] at c0 c1 c2 c3
        go_wp2_with fail
        go_region_with (go_at_call 72; refine (Hm.out _).mono ?_; rintro e w2 ⟨rfl, hb2⟩; have d0 := (hb2.cell (p := ⟨b, off + j * 5, none⟩) (by exact hbw)).trans (by exact c0); have d1 := (hb2.cell (p := ⟨b, off + j * 5 + 1, none⟩) (by exact hbw)).trans (by exact c1); have d2 := (hb2.cell (p := ⟨b, off + j * 5 + 2, none⟩) (by exact hbw)).trans (by exact c2); have d3 := (hb2.cell (p := ⟨b, off + j * 5 + 3, none⟩) (by exact hbw)).trans (by exact c3); have d4 := (hb2.cell (p := ⟨b, off + j * 5 + 4, none⟩) (by exact hbw)).trans (by exact c4))
        all_goals
          rename Below _ _ _ => hb2
          have HL2 := hide (HL.out _ ((Hrl.out.below ((Below.refl wr.heap.size wr).drew) (Nat.le_refl _)).below hb2 (Nat.le_refl _)))
          go_wp2_with (go_at_call 85; refine HL2.out.mono ?_; rintro e w3 ⟨rfl, hb3⟩)
          go_roundw
          case rel => exact ⟨j + 1, by omega, by go_num, by rw [Hnx.out]; go_num, (Hb.out.drew.trans (hb2.mono hsz)).trans (hb3.mono (Nat.le_trans hsz hb2.size))⟩
          case measure => simp [intOf]; omega
      · have e : j = l.length := by omega
        subst e
        rw [List.take_length]
        go_wp2
        go_ret
        exact ⟨rfl, hb⟩
end Go.Proofs.Ytljkmoffpgpeoaa
