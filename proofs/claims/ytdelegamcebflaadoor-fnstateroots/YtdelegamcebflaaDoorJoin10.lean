/- The landed code's LeafDigest, NodeDigest, the greatest power of 2 below a number, and roots. The landed code's roots. -/
import Derived.Test.YtdelegamcebflaaDoorMerkPure
import Derived.Test.YtdelegamcebflaaDoorDigImpl
import Derived.Test.YtdelegamcebflaaDoorJoin9
import Derived.Lib.Strings
import Derived.Lib.Slices
import Derived.Lib.Small
import Derived.Lib.Walk
import Derived.Lib.BitFns
import Derived.Deep.RegionWith
namespace Go.Proofs.YtdelegamcebflaaDoor
open Go.RowKit
set_option linter.unusedVariables false

theorem implDig (v : Value) (l : List UInt8) (w : World) (hr : RdB w v l) (hl : l.length ≤ 4000000) (hgl : Gl w) (D : ByteArray) (hD : (⟨(dig l).toArray⟩ : ByteArray) = D) :
    Calls Tryd.prog 31 #[v] w fun e w' => e = .returned (.string D) ∧ Below w.heap.size w w' := by
  subst hD
  exact implDigest_any v l w hr hl hgl

theorem cat_size (a b : ByteArray) : (a ++ b).size = a.size + b.size := by simp
theorem cat_list (a b : ByteArray) : (a ++ b).data.toList = a.data.toList ++ b.data.toList := by simp

set_option maxRecDepth 20000 in
set_option maxHeartbeats 1000000 in
theorem implLeaf_any (s : ByteArray) (w : World) (hs : s.size ≤ 3000000) (hgl : Gl w) :
    Calls Tryd.prog 24 #[.string s] w fun e w' => e = .returned (.string (leafB s)) ∧ Below w.heap.size w w' := by
  have hz : (({ data := #[0] } : ByteArray) ++ s).size = 1 + s.size := cat_size _ _
  have hl : (({ data := #[0] } : ByteArray) ++ s).data.toList = 0 :: s.data.toList := cat_list _ _
  obtain ⟨cap, w4, hcv, hM, hb4⟩ := conv_own w (({ data := #[0] } : ByteArray) ++ s) (by omega)
  have hll : (({ data := #[0] } : ByteArray) ++ s).data.toList.length = 1 + s.size := by rw [hl]; simp; omega
  have Hr := hide hM.rd
  rw [hll] at Hr
  rw [hl] at Hr
  rw [hz] at hcv
  have Hgl := hide (hgl.below hb4 (Nat.le_refl _))
  have Hb4 := hide hb4
  have hln : (0 :: s.data.toList).length = 1 + s.size := by simp; omega
  clear hgl hM hb4 hz hl hll
  go_enter Tryd.func24, Tryd.ntmps24
  go_wp2_with fail
  refine (implDig _ _ _ Hr.out (by omega) Hgl.out (leafB s) rfl).mono ?_
  rintro e w3 ⟨rfl, hb3⟩
  have hB3 : Below w.heap.size w w3 := Hb4.out.trans (hb3.mono Hb4.out.size)
  go_wp2
  go_ret
  exact ⟨rfl, hB3⟩

set_option maxRecDepth 20000 in
set_option maxHeartbeats 1000000 in
theorem implNode_any (a b : ByteArray) (w : World) (ha : a.size ≤ 1500000) (hb : b.size ≤ 1500000) (hgl : Gl w) :
    Calls Tryd.prog 33 #[.string a, .string b] w fun e w' => e = .returned (.string (nodeB a b)) ∧ Below w.heap.size w w' := by
  have hz : (({ data := #[1] } : ByteArray) ++ a ++ b).size = 1 + a.size + b.size := by rw [cat_size, cat_size]; rfl
  have hl : (({ data := #[1] } : ByteArray) ++ a ++ b).data.toList = 1 :: a.data.toList ++ b.data.toList := by rw [cat_list, cat_list]; rfl
  obtain ⟨cap, w4, hcv, hM, hb4⟩ := conv_own w (({ data := #[1] } : ByteArray) ++ a ++ b) (by omega)
  have hln : (1 :: a.data.toList ++ b.data.toList).length = 1 + a.size + b.size := by simp; omega
  have hll : (({ data := #[1] } : ByteArray) ++ a ++ b).data.toList.length = 1 + a.size + b.size := by rw [hl]; exact hln
  have Hr := hide hM.rd
  rw [hll] at Hr
  rw [hl] at Hr
  rw [hz] at hcv
  have Hgl := hide (hgl.below hb4 (Nat.le_refl _))
  have Hb4 := hide hb4
  clear hgl hM hb4 hz hl hll
  go_enter Tryd.func33, Tryd.ntmps33
  go_wp2_with fail
  refine (implDig _ _ _ Hr.out (by omega) Hgl.out (nodeB a b) rfl).mono ?_
  rintro e w3 ⟨rfl, hb3⟩
  have hB3 : Below w.heap.size w w3 := Hb4.out.trans (hb3.mono Hb4.out.size)
  go_wp2
  go_ret
  exact ⟨rfl, hB3⟩

set_option maxRecDepth 100000 in
set_option maxHeartbeats 4000000 in
theorem bitsLen64_int (x : Int) (w : World) (h0 : 0 ≤ x) (hx : x ≤ 255) :
    Calls Tryd.prog 63 #[.int .u64 x] w fun e w' => e = .returned (.int .i64 (Lib.bitLen x.toNat : Int)) ∧ w' = w := by
  have h1 : x < 4294967296 := by omega
  have h2 : x < 65536 := by omega
  have h3 : x < 256 := by omega
  go_enter Tryd.func63, Tryd.ntmps63
  go_wp2
  all_goals (go_ret; refine ⟨congrArg Ending.returned (congrArg (Value.int IntKind.i64) ?_), rfl⟩)
  all_goals (
    have l := Lib.bitLen_le8' x h0 (by omega)
    rw [Lib.len8_of x h0 (by omega)]
    unfold wrap64
    omega)

set_option maxRecDepth 20000 in
theorem bitsLen_any (x : Nat) (w : World) (hx : x ≤ 255) :
    Calls Tryd.prog 50 #[.int .u64 (x : Int)] w fun e w' => e = .returned (.int .i64 (Lib.bitLen x : Int)) ∧ w' = w := by
  have H := hide (bitsLen64_int (x : Int) w (by omega) (by omega))
  rw [Int.toNat_natCast] at H
  go_enter Tryd.func50, Tryd.ntmps50
  go_wp2_with fail
  refine H.out.mono ?_
  rintro e w ⟨rfl, rfl⟩
  go_wp2
  go_ret
  exact ⟨rfl, rfl⟩

theorem half_bits : ∀ n : Fin 65, 2 ≤ n.val → 1 ≤ Lib.bitLen (n.val - 1) ∧ Lib.bitLen (n.val - 1) ≤ 6 ∧ 2 ^ (Lib.bitLen (n.val - 1) - 1) = half n.val := by decide +kernel

set_option maxRecDepth 20000 in
theorem firstPart_any (n : Nat) (w : World) (h2 : 2 ≤ n) (hn : n ≤ 64) :
    Calls Tryd.prog 32 #[.int .i64 (n : Int)] w fun e w' => e = .returned (.int .i64 (half n : Int)) ∧ w' = w := by
  obtain ⟨k1, k2, k3⟩ := half_bits ⟨n, by omega⟩ h2
  have H := hide (bitsLen_any (n - 1) w (by omega))
  dsimp only at k1 k2 k3
  generalize Lib.bitLen (n - 1) = K at H k1 k2 k3
  obtain ⟨m, rfl⟩ : ∃ m, n = m + 1 := ⟨n - 1, by omega⟩
  rw [show m + 1 - 1 = m from by omega] at H
  rw [← k3]
  clear k3
  have hm1 : ((m + 1 : Nat) : Int) = (m : Int) + 1 := by omega
  rw [hm1]
  have i1 : (1 : Int) ≤ (m : Int) := by omega
  have i2 : (m : Int) ≤ 63 := by omega
  rcases (show K = 1 ∨ K = 2 ∨ K = 3 ∨ K = 4 ∨ K = 5 ∨ K = 6 from by omega) with rfl | rfl | rfl | rfl | rfl | rfl
  all_goals (
    go_enter Tryd.func32, Tryd.ntmps32
    go_wp2_with fail
    refine H.out.mono ?_
    rintro e w ⟨rfl, rfl⟩
    go_wp2
    go_ret
    exact ⟨rfl, rfl⟩)

def thereB (i n : Int) : Bool := decide (n ≤ 64) && decide (0 ≤ i) && decide (i < n)
set_option maxRecDepth 20000 in
theorem leafThere_any (i n : Int) (w : World) :
    Calls Tryd.prog 23 #[.int .i64 i, .int .i64 n] w fun e w' => e = .returned (.bool (thereB i n)) ∧ w' = w := by
  by_cases h1 : n ≤ 64
  · by_cases h2 : 0 ≤ i
    · by_cases h3 : i < n
      · have H := hide (show thereB i n = true by simp [thereB, h1, h2, h3])
        go_enter Tryd.func23, Tryd.ntmps23
        go_wp2
        go_ret
        exact ⟨ret_bool H.out.symm, rfl⟩
      · have H := hide (show thereB i n = false by simp [thereB, h1, h2, h3])
        go_enter Tryd.func23, Tryd.ntmps23
        go_wp2
        go_ret
        exact ⟨ret_bool H.out.symm, rfl⟩
    · have H := hide (show thereB i n = false by simp [thereB, h1, h2])
      go_enter Tryd.func23, Tryd.ntmps23
      go_wp2
      go_ret
      exact ⟨ret_bool H.out.symm, rfl⟩
  · have H := hide (show thereB i n = false by simp [thereB, h1])
    go_enter Tryd.func23, Tryd.ntmps23
    go_wp2
    go_ret
    exact ⟨ret_bool H.out.symm, rfl⟩

set_option maxRecDepth 20000 in
theorem joined_any (a b : ByteArray) (f : Bool) (w : World) (ha : a.size ≤ 1500000) (hb : b.size ≤ 1500000) (hgl : Gl w) :
    Calls Tryd.prog 26 #[.string a, .string b, .bool f] w fun e w' => e = .returned (.string (if f then nodeB b a else nodeB a b)) ∧ Below w.heap.size w w' := by
  have Ha := hide (implNode_any a b w ha hb hgl)
  have Hb := hide (implNode_any b a w hb ha hgl)
  clear hgl
  cases f with
  | true =>
    go_enter Tryd.func26, Tryd.ntmps26
    go_wp2_with fail
    refine Hb.out.mono ?_
    rintro e w1 ⟨rfl, hb1⟩
    go_wp2
    go_ret
    exact ⟨rfl, hb1⟩
  | false =>
    go_enter Tryd.func26, Tryd.ntmps26
    go_wp2_with fail
    refine Ha.out.mono ?_
    rintro e w1 ⟨rfl, hb1⟩
    go_wp2
    go_ret
    exact ⟨rfl, hb1⟩
end Go.Proofs.YtdelegamcebflaaDoor

namespace Go.Proofs.YtdelegamcebflaaDoor
open Go.RowKit
set_option linter.unusedVariables false

theorem Gl.drew' {w : World} (h : Gl w) : Gl w.drew := h.below (Below.refl _ _).drew (Nat.le_refl _)
set_option maxRecDepth 20000 in
set_option maxHeartbeats 2000000 in
theorem implRoot_at : ∀ (n : Nat) (l : List ByteArray) (v : Value) (w : World), l.length ≤ n → n ≤ 64 → RdS w v l → (∀ s ∈ l, s.size ≤ 1500000) → Gl w →
    Calls Tryd.prog 16 #[v] w fun e w' => e = .returned (.string (rootB l)) ∧ Below w.heap.size w w' := by
  intro n
  induction n with
  | zero =>
    intro l v w hl hn hr hs hgl
    have e : l = [] := List.length_eq_zero_iff.1 (by omega)
    subst e
    obtain ⟨a, cap, rfl⟩ := hr.shape
    have Hgl := hide hgl
    clear hr hs hgl
    go_enter Tryd.func16, Tryd.ntmps16
    go_wp2_with fail
    refine (implDig _ [] _ (.inl ⟨none, 0, rfl, rfl, fun _ => rfl⟩) (by simp) Hgl.out noneB rfl).mono ?_
    rintro e w2 ⟨rfl, hb2⟩
    go_wp2
    go_ret
    exact ⟨by rw [rootB_nil]; rfl, hb2⟩
  | succ n ih =>
    intro l v w hl hn hr hs hgl
    by_cases h0 : l.length ≤ n
    · exact ih l v w h0 (by omega) hr hs hgl
    · by_cases h1 : l.length = 1
      · obtain ⟨s, rfl⟩ : ∃ s, l = [s] := by
          match l, h1 with
          | [s], _ => exact ⟨s, rfl⟩
        rcases hr with ⟨_, _, _, e, _⟩ | ⟨b, off, cap, _, rfl, hc1, hc2, hb, hcell⟩
        · cases e
        · have hc := hcell 0 (by simp)
          have hsz := hs s (by simp)
          simp only [Nat.add_zero, List.getElem_cons_zero] at hc
          have Hr := hide (rootB_one s)
          have Hgl := hide hgl
          clear hcell hs ih hgl
          go_enter Tryd.func16, Tryd.ntmps16
          go_wp2_with fail
          refine (implLeaf_any s _ (by omega) Hgl.out).mono ?_
          rintro e w2 ⟨rfl, hb2⟩
          go_wp2
          go_ret
          exact ⟨by rw [Hr.out]; rfl, hb2⟩
      · have h2 : 2 ≤ l.length := by
          by_cases hz : l.length = 0
          · omega
          · omega
        rcases hr with ⟨_, _, _, e, _⟩ | ⟨b, off, cap, _, rfl, hc1, hc2, hb, hcell⟩
        · subst e; simp at h2
        · have hst : StrAt w b off l := ⟨hb, hcell⟩
          have hh := half_lt l.length h2
          have Hr := hide (rootB_more l h2)
          obtain ⟨K, hK⟩ : ∃ K, half l.length = K := ⟨_, rfl⟩
          obtain ⟨m, hm⟩ : ∃ m, l.length = m := ⟨_, rfl⟩
          have Hhalf := hide (firstPart_any l.length w h2 (by omega))
          rw [hK] at hh Hr Hhalf
          have ht : (l.take K).length = K := by simp; omega
          have hd : (l.drop K).length = m - K := by simp [hm]
          have Ha := hide (fun w (h : StrAt w b off (l.take K)) hg => ih (l.take K) (.slice (some ⟨b, off, none⟩) K cap) w (by omega) (by omega) (by have := h.rd (cap := cap) (by omega) hc2; rwa [ht] at this) (fun s hsm => hs s (List.mem_of_mem_take hsm)) hg)
          have Hb := hide (fun w (h : StrAt w b (off + K) (l.drop K)) hg => ih (l.drop K) (.slice (some ⟨b, off + K, none⟩) (m - K) (cap - K)) w (by omega) (by omega) (by have := h.rd (cap := cap - K) (by omega) (by omega); rwa [hd] at this) (fun s hsm => hs s (List.mem_of_mem_drop hsm)) hg)
          have q1 := rootB_size (l.take K)
          have q2 := rootB_size (l.drop K)
          generalize hA : rootB (l.take K) = RA at Hr Ha q1
          generalize hB : rootB (l.drop K) = RB at Hr Hb q2
          rw [hm] at hh hc1 Hhalf ⊢
          have i1 : (K : Int) ≤ (cap : Int) := by omega
          have i2 : (K : Int) ≤ (m : Int) := by omega
          have i3 : K < cap := by omega
          have i4 : ¬ cap = K := by omega
          have i5 : (m : Int) ≤ (cap : Int) := by omega
          have i6 : ((m : Int) == 0) = false := by rw [beq_eq_false_iff_ne]; omega
          have i7 : ((m : Int) == 1) = false := by rw [beq_eq_false_iff_ne]; omega
          have i8 : K ≤ m := by omega
          have i9 : K ≤ cap := by omega
          have i10 : m ≤ cap := by omega
          have i11 : (m : Int) ≤ 64 := by omega
          have Hst := hide hst
          have Hgl := hide hgl.drew'
          clear hcell hs ih hst hA hB hK hm ht hd h0 h1 hgl
          go_enter Tryd.func16, Tryd.ntmps16
          go_wp2_with fail
          refine Hhalf.out.mono ?_
          rintro e w ⟨rfl, rfl⟩
          go_wp2
          go_region_with (first
            | (go_at_call 16; refine (Hb.out _ ((Hst.out.drew.drop K).below hba hb) hga).mono ?_; rintro e wb ⟨rfl, hbb⟩; have hgb := hga.below hbb (Nat.le_refl _))
            | (go_at_call 16; refine (Ha.out _ (Hst.out.drew.take K) Hgl.out).mono ?_; rintro e wa ⟨rfl, hba⟩; have hga := Hgl.out.below hba (Nat.le_refl _))
            | (go_at_call 33; refine (implNode_any RA RB _ (by omega) (by omega) hgb).mono ?_; rintro e wc ⟨rfl, hbc⟩))
          have s1 : w.heap.size ≤ wa.heap.size := hba.size
          have s2 := hbb.size
          have HB : Hid (Below w.heap.size w wc) := hide ((((Below.refl _ w).drew.trans hba).trans (hbb.mono s1)).trans (hbc.mono (Nat.le_trans s1 s2)))
          go_wp2
          go_ret
          exact ⟨by rw [Hr.out]; rfl, HB.out⟩

theorem implRoot_any (l : List ByteArray) (v : Value) (w : World) (hl : l.length ≤ 64) (hr : RdS w v l) (hs : ∀ s ∈ l, s.size ≤ 1500000) (hgl : Gl w) :
    Calls Tryd.prog 16 #[v] w fun e w' => e = .returned (.string (rootB l)) ∧ Below w.heap.size w w' := implRoot_at l.length l v w (Nat.le_refl _) hl hr hs hgl

set_option maxRecDepth 20000 in
theorem implRootOf_any (l : List ByteArray) (v : Value) (w : World) (hl : l.length ≤ 9000000000000000000) (hr : RdS w v l) (hs : ∀ s ∈ l, s.size ≤ 1500000) (hgl : Gl w) :
    Calls Tryd.prog 16 #[v] w fun e w' => e = .returned (.string (if 64 < l.length then ByteArray.empty else rootB l)) ∧ Below w.heap.size w w' := by
  by_cases h : 64 < l.length
  · rw [if_pos h]
    obtain ⟨a, cap, rfl⟩ := hr.shape
    have hi : (64 : Int) < (l.length : Int) := by omega
    clear hs hr hgl
    go_enter Tryd.func16, Tryd.ntmps16
    go_wp2
    go_ret
    exact ⟨rfl, Below.refl _ _⟩
  · rw [if_neg h]
    exact implRoot_any l v w (by omega) hr hs hgl
end Go.Proofs.YtdelegamcebflaaDoor
