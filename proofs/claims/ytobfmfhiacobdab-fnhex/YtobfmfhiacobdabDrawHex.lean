/- What is drawn for HexOf and UnHex: some text. -/
import Derived.Test.YtobfmfhiacobdabDrawNew
import Derived.Test.YtobfmfhiacobdabMarkB
import Derived.Test.YtobfmfhiacobdabHex
namespace Go.Proofs.Ytobfmfhiacobdab
open Go.RowKit
set_option linter.unusedVariables false

set_option maxRecDepth 20000 in
set_option maxHeartbeats 400000 in
theorem drawHexOf_any (w : World) (cv : Value) (code : List UInt8) (hr : RdB w cv code) (hl : code.length ≤ 1048576) :
    Calls Try.prog 5 #[cv] w fun e w' => ∃ t : List UInt8, e = .returned (.string ⟨t.toArray⟩) ∧ t.length ≤ 9 ∧ Below w.heap.size w w' := by
  have Hn := hide (l1New_any w cv code hr hl)
  clear hr
  go_enter Try.func5, Try.ntmps5
  go_wp2_with fail
  refine Hn.out.mono ?_
  rintro e w1 ⟨rfl, hc1, hb1⟩
  have hgl := hc1.lt
  go_wp2_with fail
  refine (l1Some_any _ _ _ _ _ hc1 hl).mono ?_
  rintro e w2 ⟨v2, l2, rfl, ho2, hl2, hc2, hg2⟩
  have hcv := str_rdH _ _ _ ho2.rd
  have hB : Below w.heap.size w w2 := hb1.grown hg2 (by omega) (fun k hk => by cases hk; omega)
  clear ho2
  go_wp2
  go_ret
  exact ⟨l2, rfl, hl2, hB⟩

theorem four_mem {n : Int} (h : n ∈ [(103 : Int), 65, 48, 32]) : n = 103 ∨ n = 65 ∨ n = 48 ∨ n = 32 := by simpa using h

set_option maxRecDepth 20000 in
set_option maxHeartbeats 1000000 in
theorem drawUnHex_any (w : World) (cv : Value) (code : List UInt8) (hr : RdB w cv code) (hl : code.length ≤ 1048576) :
    Calls Try.prog 8 #[cv] w fun e w' => ∃ t : List UInt8, e = .returned (.string ⟨t.toArray⟩) ∧ t.length ≤ 19 ∧ Below w.heap.size w w' := by
  have Hn := hide (l1New_any w cv code hr hl)
  clear hr
  go_enter Try.func8, Try.ntmps8
  go_wp2_with fail
  refine Hn.out.mono ?_
  rintro e w1 ⟨rfl, hc1, hb1⟩
  have hgl := hc1.lt
  go_wp2_with fail
  refine (l1Some_any _ _ _ _ _ hc1 hl).mono ?_
  rintro e w2 ⟨v2, l2, rfl, ho2, hl2, hc2, hg2⟩
  have hcv := str_rdH _ _ _ ho2.rd
  have hB2 : Below w.heap.size w w2 := hb1.grown hg2 (by omega) (fun k hk => by cases hk; omega)
  have hs2 := hg2.size
  clear ho2
  go_wp2_with fail
  refine (specHexOf_any ⟨l2.toArray⟩ _ (by simp [ByteArray.size]; omega)).mono ?_
  rintro e w3 ⟨rfl, hb3⟩
  have hB3 : Below w.heap.size w w3 := hB2.trans (hb3.mono hB2.size)
  have hc3 := hc2.below hb3 hc2.lt
  have hXl : (hexB l2).length ≤ 18 := by rw [hexB_len]; omega
  obtain ⟨X, hX⟩ : ∃ X, hexB l2 = X := ⟨_, rfl⟩
  have hXe : hexB (⟨l2.toArray⟩ : ByteArray).data.toList = X := hX
  rw [hXe]
  rw [hX] at hXl
  obtain ⟨cap, w4, hc4v, hM4, hb4⟩ := conv_own w3 ⟨X.toArray⟩ (by show X.toArray.size ≤ _; simp; omega)
  have hXs : (⟨X.toArray⟩ : ByteArray).size = X.length := by show X.toArray.size = _; simp
  have hXd : (⟨X.toArray⟩ : ByteArray).data.toList = X := rfl
  rw [hXs] at hc4v
  rw [hXd] at hM4
  have hB4 : Below w.heap.size w w4 := hB3.trans (hb4.mono hB3.size)
  have hc4 := hc3.below hb4 hc3.lt
  have hs3 := hb3.size
  have hs4 := hb4.size
  have hg3 : w.heap.size < w3.heap.size := by omega
  clear hcv hX hXe hc2 hc3
  go_wp2_with fail
  refine (l1Below_any _ _ _ _ _ _ hc4 hl (by omega) (by omega)).mono ?_
  rintro e w5 ⟨x, rfl, hx1, _, hc5, hg5⟩
  have hx : (x : Int) < 4 := hx1 (by omega)
  have hM5 := hM4.kept hg5 (by omega)
  have hB5 : Below w.heap.size w w5 := hB4.grown hg5 (by omega) (fun k hk => by cases hk; omega)
  have hs5 := hg5.size
  clear hx1 hM4 hc4v
  have HM := hide hM5
  by_cases x0 : x = 0
  · subst x0
    go_wp2_with (at_builtin; refine app_mark _ (by rfl) _ _ (by rfl) w3.heap.size w3.heap.size X.length cap w5.heap.size 1 X 97 (by rfl) rfl (by rfl) (HM.out.below ((Below.refl _ _).alloc (Nat.le_refl _) _) HM.out.lt) (rd_one w5 97 97 rfl) (by omega) (by simp; omega) ?_; intro v6 w6 hr6 hb6; have hcv6 := str_rdH _ _ _ hr6; have HB6 : Hid (Below w.heap.size w w6) := hide ((hB5.alloc (by omega) _).trans (hb6.mono (by omega))); clear hr6 hb6)
    go_ret
    exact ⟨_, rfl, by simp; omega, HB6.out⟩
  · by_cases x1 : x = 1
    · subst x1
      by_cases hX0 : 0 < X.length
      · have hX0i : (0 : Int) < (X.length : Int) := by omega
        have Hbl := hide (l1Below_any _ _ _ _ _ (X.length : Int) hc5 hl (by omega) (by omega))
        go_wp2_with fail
        refine Hbl.out.mono ?_
        rintro e w6 ⟨y, rfl, hy1, _, hc6, hg6⟩
        have hy : (y : Int) < (X.length : Int) := hy1 hX0i
        have hM6 := HM.out.kept hg6 (by omega)
        have hB6 : Below w.heap.size w w6 := hB5.grown hg6 (by omega) (fun k hk => by cases hk; omega)
        have hs6 := hg6.size
        have hb7 : ∀ o, Below w6.heap.size w6 (w6.alloc o) := fun o => (Below.refl _ _).alloc (Nat.le_refl _) _
        have Hi := hide (l1Int_any w _ w.heap.size w6.heap.size cv code [103, 65, 48, 32] (hc6.below (hb7 _) hc6.lt) hl (ints_new w6 [103, 65, 48, 32] 3) (by omega) (by simp) (by simp) 4)
        have hB7 := hB6.alloc (by omega) (.cells #[.int .i64 103, .int .i64 65, .int .i64 48, .int .i64 32] 3)
        have hM7 := hM6.below (hb7 (.cells #[.int .i64 103, .int .i64 65, .int .i64 48, .int .i64 32] 3)) hM6.lt
        clear hy1 hb7 Hbl hM6
        go_wp2_with fail
        refine Hi.out.mono ?_
        rintro e w8 ⟨n, rfl, hn, hc8, hg8⟩
        have hM8 := hM7.kept hg8 (by omega)
        have HB8 : Hid (Below w.heap.size w w8) := hide (hB7.grown hg8 (by simp; omega) (fun k hk => by cases hk; omega))
        have hyN : y < X.length := by omega
        have cy := hM8.cells y hyN
        have fy := (hM8.room y (by have := hM8.le; omega)).2
        have hcvF : ∀ c : UInt8, (convert 22 9 (.slice (some ⟨w3.heap.size, 0, none⟩) X.length cap)).run Try.prog (w8.setCell ⟨w3.heap.size, y, none⟩ (.int .u8 (c.toNat : Int))) = .ok (.string ⟨(X.set y c).toArray⟩) (w8.setCell ⟨w3.heap.size, y, none⟩ (.int .u8 (c.toNat : Int))) := fun c => by
          have h := str_rdH _ _ _ (hM8.put y c hyN).rd
          rwa [List.length_set] at h
        clear Hi hM7 hM8 hM5 hB7 HM
        have hg3' : w.heap.size ≤ w3.heap.size := by omega
        rcases four_mem hn with rfl | rfl | rfl | rfl
        · have hcv1 := hcvF 103
          rw [show (((103 : UInt8).toNat : Nat) : Int) = 103 from rfl] at hcv1
          clear hcvF hn
          go_wp2
          go_ret
          exact ⟨_, rfl, by simp; omega, HB8.out.setCell hg3' _⟩
        · have hcv1 := hcvF 65
          rw [show (((65 : UInt8).toNat : Nat) : Int) = 65 from rfl] at hcv1
          clear hcvF hn
          go_wp2
          go_ret
          exact ⟨_, rfl, by simp; omega, HB8.out.setCell hg3' _⟩
        · have hcv1 := hcvF 48
          rw [show (((48 : UInt8).toNat : Nat) : Int) = 48 from rfl] at hcv1
          clear hcvF hn
          go_wp2
          go_ret
          exact ⟨_, rfl, by simp; omega, HB8.out.setCell hg3' _⟩
        · have hcv1 := hcvF 32
          rw [show (((32 : UInt8).toNat : Nat) : Int) = 32 from rfl] at hcv1
          clear hcvF hn
          go_wp2
          go_ret
          exact ⟨_, rfl, by simp; omega, HB8.out.setCell hg3' _⟩
      · have hcv6 := str_rdH _ _ _ hM5.rd
        clear hM5
        go_wp2
        go_ret
        exact ⟨_, rfl, by omega, hB5⟩
    · have hcv6 := str_rdH _ _ _ hM5.rd
      have hx2 : (2 : Int) ≤ (x : Int) := by omega
      have e0 : ((x : Int) == 0) = false := by rw [beq_eq_false_iff_ne]; omega
      have e1 : ((x : Int) == 1) = false := by rw [beq_eq_false_iff_ne]; omega
      clear hM5
      go_wp2
      go_ret
      exact ⟨_, rfl, by omega, hB5⟩
end Go.Proofs.Ytobfmfhiacobdab
