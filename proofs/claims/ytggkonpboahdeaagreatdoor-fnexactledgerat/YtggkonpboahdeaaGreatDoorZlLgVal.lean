/- The laws' marks on accounts are found again. A ledger by value: made, held against another, its size, marked and looked at again. -/
import Derived.Test.YtggkonpboahdeaaGreatDoorZlAcMarkS
import Derived.Test.YtggkonpboahdeaaGreatDoorZlNames
namespace Go.Proofs.YtggkonpboahdeaaGreatDoor
open Go.RowKit
set_option linter.unusedVariables false

set_option maxRecDepth 20000 in
set_option maxHeartbeats 1000000 in
theorem heldLeaveS_any (v : Value) (k n : Nat) (w : World) (hr : RdL w v (mkL k n)) (hl : n ≤ 10000000) (hk : k ≤ 100000000) :
    Calls Tryz.prog 60 #[v, .int .i64 (k : Int)] w fun e w' => e = .returned (.int .i64 ((k + 2 * n : Nat) : Int)) ∧ Below w.heap.size w w' := by
  have hML := mkL_len k n
  have hMA := mkL_at k n
  generalize hMd : mkL k n = M at hML hMA hr
  clear hMd
  rcases hr with ⟨a, cap, rfl, rfl, -⟩ | ⟨b, off, cap, h0, rfl, h1, h2, h3, h4⟩
  · simp at hML
    subst hML
    clear hMA
    go_enter Tryz.func60, Tryz.ntmps60
    go_wp2
    refine wp_loop_rounds 1 ?_
    rw [rounds_succ]
    go_wp2
    go_ret
    exact ⟨rfl, Below.refl _ _⟩
  · have HMA := hide hMA
    have hMl : n ≤ M.length := by omega
    have hMg : M.length ≤ n := by omega
    have H4 := hide h4
    clear hML hMA h4
    go_enter Tryz.func60, Tryz.ntmps60
    go_wp2
    go_loopw [1, 5] (fun kv iv wr => ∃ j : Nat, j ≤ n ∧ iv = .int .i64 (j : Int) ∧ kv = .int .i64 ((k + 2 * j : Nat) : Int) ∧ Below w.heap.size w wr) (fun _ iv _ => n - (intOf iv).toNat)
    case atStart => exact ⟨0, Nat.zero_le _, rfl, rfl, Below.refl _ _⟩
    case round =>
      obtain ⟨j, hj, rfl, rfl, hb⟩ := hrel
      by_cases hlt : j < n
      · have hjM : j < M.length := by omega
        have hc0 : wr.cell? ⟨b, off + j * 2, none⟩ = some (.int .i64 M[j].1) := (hb.cell (p := ⟨b, off + j * 2, none⟩) h3).trans (H4.out j hjM).1
        have hc1 : wr.cell? ⟨b, off + j * 2 + 1, none⟩ = some (.int .i64 M[j].2) := (hb.cell (p := ⟨b, off + j * 2 + 1, none⟩) h3).trans (H4.out j hjM).2
        obtain ⟨K, hK⟩ : ∃ K : Nat, k + 2 * j = K := ⟨_, rfl⟩
        have hK2 : K ≤ 200000000 := by omega
        rw [HMA.out j hjM, hK] at hc0 hc1
        simp only at hc0 hc1
        rw [hK]
        have HK := hide hK
        have hli : (j : Int) < (M.length : Int) := by omega
        have Hb := hide hb
        clear hK hb
        go_wp2
        go_roundw
        case rel => exact ⟨j + 1, by omega, by go_num, by rw [show k + 2 * (j + 1) = K + 2 from by have := HK.out; omega]; go_num, Hb.out⟩
        case measure => simp [intOf]; omega
      · have e : j = n := by omega
        have He := hide e
        clear e
        go_wp2
        go_ret
        exact ⟨ret_int (by rw [← He.out]), hb⟩
set_option maxRecDepth 20000 in
set_option maxHeartbeats 2000000 in
theorem heldAcctS_any (v : Value) (l : List Ac) (k : Nat) (w : World) (hr : RdA w v (mkAs k l)) (hl : l.length ≤ 10000000) (hlv : ∀ a ∈ l, a.2.2.2.2.length ≤ 10000000) (hk : nxs k l ≤ 90000000) (hk0 : 0 < k) :
    Calls Tryz.prog 34 #[v, .int .i64 (k : Int)] w fun e w' => e = .returned (.int .i64 ((nxs k l : Nat) : Int)) ∧ Below w.heap.size w w' := by
  have hML := mkAs_len k l
  have hMA : ∀ j (h : j < l.length) (h' : j < (mkAs k l).length), (mkAs k l)[j] = mkA (nxs k (l.take j)) l[j] := fun j h _ => mkAs_at k l j h
  generalize hMd : mkAs k l = M at hML hMA hr
  clear hMd
  rcases hr with ⟨a, cap, rfl, rfl, -⟩ | ⟨b, off, cap, h0, rfl, h1, h2, h3, h4⟩
  · have e : l = [] := List.length_eq_zero_iff.1 (by simpa using hML.symm)
    subst e
    clear hMA
    go_enter Tryz.func34, Tryz.ntmps34
    go_wp2
    refine wp_loop_rounds 1 ?_
    rw [rounds_succ]
    go_wp2
    go_ret
    exact ⟨rfl, Below.refl _ _⟩
  · have HMA := hide hMA
    have hMl : l.length ≤ M.length := by omega
    have hMg : M.length ≤ l.length := by omega
    have H4 := hide h4
    have Hlv := hide hlv
    clear hML hMA h4 hlv
    go_enter Tryz.func34, Tryz.ntmps34
    go_wp2
    go_loopw [1, 5] (fun kv iv wr => ∃ j : Nat, j ≤ l.length ∧ iv = .int .i64 (j : Int) ∧ kv = .int .i64 ((nxs k (l.take j) : Nat) : Int) ∧ Below w.heap.size w wr) (fun _ iv _ => l.length - (intOf iv).toNat)
    case atStart => exact ⟨0, Nat.zero_le _, rfl, rfl, Below.refl _ _⟩
    case round =>
      obtain ⟨j, hj, rfl, rfl, hb⟩ := hrel
      by_cases hlt : j < l.length
      · have hjM : j < M.length := by omega
        obtain ⟨lw, hat, hrl⟩ := H4.out j hjM
        have hat := hat.below hb h3
        have hM := HMA.out j hlt hjM
        rw [hM] at hat hrl
        have hlj := Hlv.out l[j] (List.getElem_mem _)
        have hKb := nxs_take k l (j + 1)
        have hnxe : nxs k (l.take (j + 1)) = nxs k (l.take j) + 4 + 2 * l[j].2.2.2.2.length := nxs_next k l j hlt
        have hKg := nxs_ge k (l.take j)
        obtain ⟨K, hK⟩ : ∃ K, nxs k (l.take j) = K := ⟨_, rfl⟩
        rw [hK] at hat hrl hnxe hKg ⊢
        have Hnx := hide hnxe
        obtain ⟨c0, c1, c2, c3, c4⟩ := hat
        have hrl2 : RdL wr lw (mkL (K + 4) l[j].2.2.2.2.length) := RdL.below hrl hb (Nat.le_refl _)
        have hK0 : 0 < K := by omega
        have hK2 : K ≤ 90000000 := by omega
        have Hm := hide (fun w => markText_any K w hK0 (by omega))
        have hshape := hrl2.shape
        rw [mkL_len] at hshape
        have Hrl := hide hrl2
        have hsz := hb.size
        have hbw : b < wr.heap.size := by omega
        have hli : (j : Int) < (M.length : Int) := by omega
        have Hb := hide hb
        clear hM hrl hrl2 hb hK hKb hnxe
        generalize l[j].2.2.2.2.length = nl at *
        have HL := hide (fun (W : World) (h : RdL W lw (mkL (K + 4) nl)) => heldLeaveS_any lw (K + 4) nl W h hlj (by omega))
        obtain ⟨a', c', rfl⟩ := hshape
        simp only [mkA] at c0 c1 c2 c3
        go_wp2_with fail
        go_region_with (go_at_call 29; refine (Hm.out _).mono ?_; rintro e w2 ⟨rfl, hb2⟩; have d0 := (hb2.cell (p := ⟨b, off + j * 5, none⟩) (by exact hbw)).trans (by exact c0); have d1 := (hb2.cell (p := ⟨b, off + j * 5 + 1, none⟩) (by exact hbw)).trans (by exact c1); have d2 := (hb2.cell (p := ⟨b, off + j * 5 + 2, none⟩) (by exact hbw)).trans (by exact c2); have d3 := (hb2.cell (p := ⟨b, off + j * 5 + 3, none⟩) (by exact hbw)).trans (by exact c3); have d4 := (hb2.cell (p := ⟨b, off + j * 5 + 4, none⟩) (by exact hbw)).trans (by exact c4))
        all_goals
          rename Below _ _ _ => hb2
          have HL2 := hide (HL.out _ ((Hrl.out.below ((Below.refl wr.heap.size wr).drew) (Nat.le_refl _)).below hb2 (Nat.le_refl _)))
          go_wp2_with (go_at_call 60; refine HL2.out.mono ?_; rintro e w3 ⟨rfl, hb3⟩)
          go_roundw
          case rel => exact ⟨j + 1, by omega, by go_num, by rw [Hnx.out]; go_num, (Hb.out.drew.trans (hb2.mono hsz)).trans (hb3.mono (Nat.le_trans hsz hb2.size))⟩
          case measure => simp [intOf]; omega
      · have e : j = l.length := by omega
        subst e
        rw [List.take_length]
        go_wp2
        go_ret
        exact ⟨rfl, hb⟩
end Go.Proofs.YtggkonpboahdeaaGreatDoor

namespace Go.Proofs.YtggkonpboahdeaaGreatDoor
open Go.RowKit
set_option linter.unusedVariables false

/-- A ledger's value: its epoch, its accounts being v. -/
def lgV (e : Int) (v : Value) : Value := .agg #[.int .i64 e, v]
/-- A write into an older block leaves what the call owns. -/
theorem OwnA.older {base : Nat} {w : World} {v : Value} {l : List Ac} (h : OwnA base w v l) {g : Nat} (hg : g < base) (j : Nat) (u : Value) : OwnA base (w.setCell ⟨g, j, none⟩ u) v l :=
  (h.ox.btw (Btw.of_grown (lo := 0) (hi := base) (grown_set w g j u) (fun k hk => ⟨Nat.zero_le _, by cases hk; exact hg⟩)) (.inr (Nat.le_refl _))).own

set_option maxRecDepth 20000 in
set_option maxHeartbeats 1000000 in
theorem toLedger_any (e : Int) (v : Value) (l : List Ac) (w : World) (hr : RdA w v l) (hl : l.length ≤ 4000000) (hall : ∀ a ∈ l, a.2.2.2.2.length ≤ 4000000) :
    Calls Tryz.prog 7 #[lgV e v] w fun en w' => ∃ v', en = .returned (lgV e v') ∧ OwnA w.heap.size w' v' l ∧ Below w.heap.size w w' := by
  obtain ⟨av, cv, rfl⟩ := hr.shape
  have Hr := hide hr
  clear hr
  simp only [lgV] at *
  go_enter Tryz.func7, Tryz.ntmps7
  go_wp2_with fail
  obtain ⟨w3, hw3⟩ : ∃ w3, ((w.alloc (.cells #[.int .i64 e, .slice av l.length cv] 24)).alloc (.cells #[.int .i64 0, .slice none 0 0] 30)).alloc (.cells #[.int .i64 e, .slice none 0 0] 30) = w3 := ⟨_, rfl⟩
  rw [hw3]
  have hb3 : Below w.heap.size w w3 := by rw [← hw3]; exact (((Below.refl _ w).alloc (Nat.le_refl _) _).alloc (by simp) _).alloc (by simp; omega) _
  have hs3 : w3.heap.size = w.heap.size + 3 := by rw [← hw3]; simp
  have kO : Blk w3 (w.heap.size + 1 + 1) 30 [.int .i64 e, .slice none 0 0] := by
    rw [← hw3]
    have h := Blk.new ((w.alloc (.cells #[.int .i64 e, .slice av l.length cv] 24)).alloc (.cells #[.int .i64 0, .slice none 0 0] 30)) 30 [.int .i64 e, .slice none 0 0]
    simp only [World.size_alloc] at h
    exact h
  have kR : Blk w3 (w.heap.size + 1) 30 [.int .i64 0, .slice none 0 0] := by
    rw [← hw3]
    have h := Blk.new (w.alloc (.cells #[.int .i64 e, .slice av l.length cv] 24)) 30 [.int .i64 0, .slice none 0 0]
    simp only [World.size_alloc] at h
    exact h.below ((Below.refl (w.heap.size + 2) _).alloc (by simp) _) (by omega)
  refine (toAcctS_any _ l _ (Hr.out.below hb3 (Nat.le_refl _)) hl hall).mono ?_
  rintro en w4 ⟨v4, rfl, ho4, hb4⟩
  have kO4 := kO.below hb4 (by omega)
  have kR4 := kR.below hb4 (by omega)
  have c0 := kO4.cell 0
  have c1 := kO4.cell 1
  have g1 := kO4.frozen 1
  have r0 := kR4.cell 0
  have r1 := kR4.cell 1
  have q0 := kR4.frozen 0
  have q1 := kR4.frozen 1
  simp only [List.getElem?_cons_zero, List.getElem?_cons_succ] at c0 c1 r0 r1
  obtain ⟨a4, cv4, rfl⟩ := ho4.rd.shape
  have Ho := hide ho4
  have Hb := hide (hb3.trans (hb4.mono hb3.size))
  clear ho4 hb4 kO kR kO4 kR4 hw3 hb3
  go_wp2
  refine bodyPost_ret (v := .agg #[.int .i64 e, .slice a4 l.length cv4]) (by simp [results, Tryz.f7, go_sem, r0, r1]) rfl ?_
  refine ⟨_, rfl, ?_, ?_⟩
  · exact (((Ho.out.older (by omega) _ _).older (by omega) _ _).older (by omega) _ _).mono (by omega)
  · exact ((Hb.out.setCell (p := ⟨w.heap.size + 1 + 1, 1, none⟩) (show w.heap.size ≤ w.heap.size + 1 + 1 by omega) _).setCell (p := ⟨w.heap.size + 1, 0, none⟩) (show w.heap.size ≤ w.heap.size + 1 by omega) _).setCell (p := ⟨w.heap.size + 1, 1, none⟩) (show w.heap.size ≤ w.heap.size + 1 by omega) _
open Classical in
set_option maxRecDepth 20000 in
set_option maxHeartbeats 1000000 in
theorem eqLedger_any (e1 e2 : Int) (v1 v2 : Value) (l1 l2 : List Ac) (w : World) (hr1 : RdA w v1 l1) (hr2 : RdA w v2 l2) (hl1 : l1.length ≤ 4000000) (hl2 : l2.length ≤ 4000000) (ha1 : ∀ a ∈ l1, a.2.2.2.2.length ≤ 4000000) (ha2 : ∀ a ∈ l2, a.2.2.2.2.length ≤ 4000000) :
    Calls Tryz.prog 10 #[lgV e1 v1, lgV e2 v2] w fun e w' => e = .returned (.bool (decide (e1 = e2) && decide (l1 = l2))) ∧ Below w.heap.size w w' := by
  obtain ⟨a1, cv1, rfl⟩ := hr1.shape
  obtain ⟨a2, cv2, rfl⟩ := hr2.shape
  simp only [lgV] at *
  have hb3 : Below w.heap.size w ((w.alloc (.cells #[.int .i64 e1, .slice a1 l1.length cv1] 30)).alloc (.cells #[.int .i64 e2, .slice a2 l2.length cv2] 30)) := ((Below.refl _ w).alloc (Nat.le_refl _) _).alloc (by simp) _
  have HE := hide (eqAcctS_any _ _ l1 l2 _ (hr1.below hb3 (Nat.le_refl _)) (hr2.below hb3 (Nat.le_refl _)) hl1 hl2 ha1 ha2)
  have Hb3 := hide hb3
  clear hb3 hr1 hr2
  generalize decide (l1 = l2) = D at HE ⊢
  by_cases h1 : e1 = e2
  · rw [decide_eq_true h1, Bool.true_and]
    subst h1
    go_enter Tryz.func10, Tryz.ntmps10
    go_wp2_with fail
    refine HE.out.mono ?_
    rintro e w3 ⟨rfl, hb3⟩
    have HB := hide (Hb3.out.trans (hb3.mono Hb3.out.size))
    clear hb3 Hb3 HE
    cases D
    · go_wp2
      go_ret
      exact ⟨rfl, HB.out⟩
    · go_wp2
      go_ret
      exact ⟨rfl, HB.out⟩
  · rw [decide_eq_false h1, Bool.false_and]
    have hq : (e1 != e2) = true := by rw [bne_iff_ne]; exact h1
    clear h1 HE
    go_enter Tryz.func10, Tryz.ntmps10
    go_wp2
    go_ret
    exact ⟨rfl, Hb3.out⟩
set_option maxRecDepth 20000 in
theorem szLedger_any (e : Int) (v : Value) (l : List Ac) (m : Nat) (w : World) (hr : RdA w v l) (hm : m ≤ 100000000) (hl : l.length ≤ 9223372036854775807) (hs : ∀ a ∈ l, a.1.size ≤ 9223372036854775807 ∧ a.2.2.2.2.length ≤ 9223372036854775807) :
    Calls Tryz.prog 4 #[lgV e v, .int .i64 (m : Int)] w fun en w' => ∃ r : Int, en = .returned (.int .i64 r) ∧ (0 ≤ r → l.length + totA l ≤ m ∧ r ≤ (m : Int)) ∧ Below w.heap.size w w' := by
  obtain ⟨a1, cv1, rfl⟩ := hr.shape
  simp only [lgV] at *
  have hb3 : Below w.heap.size w (w.alloc (.cells #[.int .i64 e, .slice a1 l.length cv1] 24)) := (Below.refl _ w).alloc (Nat.le_refl _) _
  have HE := hide (szAcctS_any _ l m _ (hr.below hb3 (Nat.le_refl _)) hm hl hs)
  have Hb3 := hide hb3
  clear hb3 hr
  go_enter Tryz.func4, Tryz.ntmps4
  go_wp2_with fail
  refine HE.out.mono ?_
  rintro en w3 ⟨r, rfl, hr3, hb3⟩
  have HB := hide (Hb3.out.trans (hb3.mono Hb3.out.size))
  have HR := hide hr3
  clear hb3 Hb3 HE hr3
  by_cases h : r < 0
  · go_wp2
    go_ret
    exact ⟨-1, rfl, by omega, HB.out⟩
  · go_wp2
    go_ret
    exact ⟨r, rfl, HR.out, HB.out⟩
set_option maxRecDepth 20000 in
theorem markLedger_any (e : Int) (v : Value) (l : List Ac) (k base hi : Nat) (w : World) (ho : OwnX base hi w v l) (hl : l.length ≤ 10000000) (hlv : ∀ a ∈ l, a.2.2.2.2.length ≤ 10000000) (hk : nxs k l ≤ 90000000) (hk0 : 0 < k) :
    Calls Tryz.prog 12 #[lgV e v, .int .i64 (k : Int)] w fun en w' => en = .returned (.int .i64 ((nxs k l : Nat) : Int)) ∧ OwnX base hi w' v (mkAs k l) ∧ Btw base hi w w' := by
  obtain ⟨a1, cv1, rfl⟩ := ho.rd.shape
  simp only [lgV] at *
  have hb3 : Below w.heap.size w (w.alloc (.cells #[.int .i64 e, .slice a1 l.length cv1] 30)) := (Below.refl _ w).alloc (Nat.le_refl _) _
  have HE := hide (markAcctS_any _ l k base hi _ (ho.below hb3 (Nat.le_refl _)) hl hlv hk hk0)
  have Hb3 := hide hb3
  clear hb3 ho
  go_enter Tryz.func12, Tryz.ntmps12
  go_wp2_with fail
  refine HE.out.mono ?_
  rintro en w3 ⟨rfl, ho3, hb3⟩
  have Ho := hide ho3
  have HB := hide ((Btw.of_below (lo := base) (hi := hi) Hb3.out).trans hb3)
  clear ho3 hb3 HE Hb3
  go_wp2
  go_ret
  exact ⟨rfl, Ho.out, HB.out⟩
set_option maxRecDepth 20000 in
theorem heldLedger_any (e : Int) (v : Value) (l : List Ac) (k : Nat) (w : World) (hr : RdA w v (mkAs k l)) (hl : l.length ≤ 10000000) (hlv : ∀ a ∈ l, a.2.2.2.2.length ≤ 10000000) (hk : nxs k l ≤ 90000000) (hk0 : 0 < k) :
    Calls Tryz.prog 14 #[lgV e v, .int .i64 (k : Int)] w fun en w' => en = .returned (.int .i64 ((nxs k l : Nat) : Int)) ∧ Below w.heap.size w w' := by
  obtain ⟨a1, cv1, hv⟩ := hr.shape
  have hb3 : Below w.heap.size w (w.alloc (.cells #[.int .i64 e, v] 30)) := (Below.refl _ w).alloc (Nat.le_refl _) _
  have HE := hide (heldAcctS_any _ l k _ (hr.below hb3 (Nat.le_refl _)) hl hlv hk hk0)
  have Hb3 := hide hb3
  subst hv
  simp only [lgV] at *
  clear hb3 hr
  have hnn : ¬ ((nxs k l : Nat) : Int) < 0 := by omega
  go_enter Tryz.func14, Tryz.ntmps14
  go_wp2_with fail
  refine HE.out.mono ?_
  rintro en w3 ⟨rfl, hb3⟩
  have HB := hide (Hb3.out.trans (hb3.mono Hb3.out.size))
  clear hb3 Hb3 HE
  go_wp2
  go_ret
  exact ⟨rfl, HB.out⟩
end Go.Proofs.YtggkonpboahdeaaGreatDoor
