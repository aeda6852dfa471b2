/- The eight words as 32 bytes: the landed code's shaBytes. -/
import Derived.Test.YtdelegamcebflaaDoorBytes32
import Derived.Test.YtdelegamcebflaaDoorJoin7
namespace Go.Proofs.YtdelegamcebflaaDoor
open Go.RowKit
set_option linter.unusedVariables false

theorem own_none (base : Nat) (w : World) : OwnB base w (.slice none 0 0) [] := ⟨by simp, .inl ⟨rfl, rfl⟩⟩

set_option maxRecDepth 20000 in
set_option maxHeartbeats 1000000 in
theorem shaBytes_any (A B C D E F G H : Nat) (w : World) :
    Calls Tryd.prog 49 #[.agg #[.int .u32 (A : Int), .int .u32 (B : Int), .int .u32 (C : Int), .int .u32 (D : Int), .int .u32 (E : Int), .int .u32 (F : Int), .int .u32 (G : Int), .int .u32 (H : Int)]] w fun e w' => e = .returned (.string ⟨(bytesS ⟨A, B, C, D, E, F, G, H⟩).toArray⟩) ∧ Below w.heap.size w w' := by
  obtain ⟨L, hL⟩ : ∃ L, S8.list ⟨A, B, C, D, E, F, G, H⟩ = L := ⟨_, rfl⟩
  have hLl : L.length = 8 := by rw [← hL]; rfl
  have HL := hide hL
  have hix : ∀ (k : Nat) (h : k < 8), ∀ w, (Instr.index 75 (.agg #[.int .u32 (A : Int), .int .u32 (B : Int), .int .u32 (C : Int), .int .u32 (D : Int), .int .u32 (E : Int), .int .u32 (F : Int), .int .u32 (G : Int), .int .u32 (H : Int)]) (.int .i64 (k : Int))).run Tryd.prog w = .ok (.int .u32 ((L[k]'(by omega) : Nat) : Int)) w := by
    intro k h w
    refine run_index_array _ w _ _ _ _ _ k h Tryd.underlying75 (fun _ => by simp [go_sem]) (fun _ => by simp [go_sem]) _ ?_
    subst hL
    match k, h with
    | 0, _ | 1, _ | 2, _ | 3, _ | 4, _ | 5, _ | 6, _ | 7, _ => rfl
  have Hix := hide hix
  have hbs : bytesS ⟨A, B, C, D, E, F, G, H⟩ = L.flatMap be4 := by unfold bytesS; rw [hL]
  rw [hbs]
  clear hL hix hbs
  have hb0 : Below w.heap.size w (w.alloc (.cells #[.int .u32 (A : Int), .int .u32 (B : Int), .int .u32 (C : Int), .int .u32 (D : Int), .int .u32 (E : Int), .int .u32 (F : Int), .int .u32 (G : Int), .int .u32 (H : Int)] 75)) := (Below.refl _ _).alloc (Nat.le_refl _) _
  have Hb0 := hide hb0
  clear hb0
  go_enter Tryd.func49, Tryd.ntmps49
  go_wp2
  go_loopw [3, 7] (fun ov iv wr => ∃ k : Nat, k ≤ 8 ∧ iv = .int .i64 (k : Int) ∧ OwnB w.heap.size wr ov ((L.take k).flatMap be4) ∧ Below w.heap.size w wr) (fun _ iv _ => 8 - (intOf iv).toNat)
  case atStart => exact ⟨0, by omega, rfl, by simpa using own_none _ _, Hb0.out⟩
  case round =>
    obtain ⟨k, hk, rfl, ho, hb⟩ := hrel
    have hs2 := hb.size
    have Ho := hide ho
    have Hb := hide hb
    clear ho hb
    by_cases hk8 : k < 8
    · have hki : (k : Int) < 8 := by omega
      have hx := Hix.out k hk8
      have Hsn := hide (flat_snoc L k (by omega))
      have hTl : ((L.take k).flatMap be4).length ≤ 32 := by rw [flatB_len]; simp; omega
      generalize L[k]'(by omega) = x at hx Hsn
      generalize hT : (L.take k).flatMap be4 = T at Ho Hsn hTl
      have HT := hide hT
      clear hT
      go_wp2_with (at_builtin; refine app_own _ rfl _ _ rfl w.heap.size _ _ T (be4 x) rfl rfl (Ho.out.alloc _) (rd_four _ _ _ _ _ _ _ _ _ _ (byte_at x 16777216) (byte_at x 65536) (byte_at x 256) (byte_at1 x) (by simp)) (by simp [be4]; omega) (by simp; omega) ?_; intro v3 w3 ho3 hb3)
      go_roundw
      case rel => exact ⟨k + 1, by omega, by go_num, by rw [Hsn.out]; exact ho3, (Hb.out.alloc hs2 _).trans hb3⟩
      case measure => simp [intOf]; omega
    · have e8 : k = 8 := by omega
      have ho := Ho.out
      rw [List.take_of_length_le (by omega)] at ho
      have hcv := str_own _ _ _ ho.rd (own_some ho (by rw [flatB_len]; omega))
      have Hb2 := Hb
      clear ho
      go_wp2
      go_ret
      exact ⟨rfl, Hb2.out⟩
end Go.Proofs.YtdelegamcebflaaDoor
