/- The landed code's LeafDigest, NodeDigest, the greatest power of 2 below a number, and roots. -/
import Derived.Test.YtknmjahipekgpaaDoorMerkPure
import Derived.Test.YtknmjahipekgpaaDoorDigImpl
import Derived.Test.YtknmjahipekgpaaDoorMarkB
import Derived.Test.YtknmjahipekgpaaDoorStrAt
import Derived.Lib.Strings
import Derived.Lib.Slices
import Derived.Lib.Small
import Derived.Lib.Walk
import Derived.Lib.BitFns
import Derived.Deep.RegionWith
namespace Go.Proofs.YtknmjahipekgpaaDoor
open Go.RowKit
set_option linter.unusedVariables false

theorem implDig (v : Value) (l : List UInt8) (w : World) (hr : RdB w v l) (hl : l.length ≤ 4000000) (hgl : Gl w) (D : ByteArray) (hD : (⟨(dig l).toArray⟩ : ByteArray) = D) :
    Calls Tryd.prog 29 #[v] w fun e w' => e = .returned (.string D) ∧ Below w.heap.size w w' := by
  subst hD
  exact implDigest_any v l w hr hl hgl

theorem cat_size (a b : ByteArray) : (a ++ b).size = a.size + b.size := by simp
theorem cat_list (a b : ByteArray) : (a ++ b).data.toList = a.data.toList ++ b.data.toList := by simp

set_option maxRecDepth 20000 in
set_option maxHeartbeats 1000000 in
theorem implLeaf_any (s : ByteArray) (w : World) (hs : s.size ≤ 3000000) (hgl : Gl w) :
    Calls Tryd.prog 30 #[.string s] w fun e w' => e = .returned (.string (leafB s)) ∧ Below w.heap.size w w' := by
  have hz : (({ data := #[0] } : ByteArray) ++ s).size = 1 + s.size := cat_size _ _
  have hl : (({ data := #[0] } : ByteArray) ++ s).data.toList = 0 :: s.data.toList := cat_list _ _
  obtain ⟨cap, w4, hcv, hM, hb4⟩ := conv_own w (({ data := #[0] } : ByteArray) ++ s) (by omega)
  have hll : (({ data := #[0] } : ByteArray) ++ s).data.toList.length = 1 + s.size := by rw [hl]; simp; omega
  have Hr := hide hM.rd
  rw [hll] at Hr
  rw [hl] at Hr
  rw [hz] at hcv
  have Hgl := hide (hgl.below hb4 (Nat.le_refl _))
  have Hb4 := hide hb4
  have hln : (0 :: s.data.toList).length = 1 + s.size := by simp; omega
  clear hgl hM hb4 hz hl hll
  go_enter Tryd.func30, Tryd.ntmps30
  go_wp2_with fail
  refine (implDig _ _ _ Hr.out (by omega) Hgl.out (leafB s) rfl).mono ?_
  rintro e w3 ⟨rfl, hb3⟩
  have hB3 : Below w.heap.size w w3 := Hb4.out.trans (hb3.mono Hb4.out.size)
  go_wp2
  go_ret
  exact ⟨rfl, hB3⟩

set_option maxRecDepth 20000 in
set_option maxHeartbeats 1000000 in
theorem implNode_any (a b : ByteArray) (w : World) (ha : a.size ≤ 1500000) (hb : b.size ≤ 1500000) (hgl : Gl w) :
    Calls Tryd.prog 32 #[.string a, .string b] w fun e w' => e = .returned (.string (nodeB a b)) ∧ Below w.heap.size w w' := by
  have hz : (({ data := #[1] } : ByteArray) ++ a ++ b).size = 1 + a.size + b.size := by rw [cat_size, cat_size]; rfl
  have hl : (({ data := #[1] } : ByteArray) ++ a ++ b).data.toList = 1 :: a.data.toList ++ b.data.toList := by rw [cat_list, cat_list]; rfl
  obtain ⟨cap, w4, hcv, hM, hb4⟩ := conv_own w (({ data := #[1] } : ByteArray) ++ a ++ b) (by omega)
  have hln : (1 :: a.data.toList ++ b.data.toList).length = 1 + a.size + b.size := by simp; omega
  have hll : (({ data := #[1] } : ByteArray) ++ a ++ b).data.toList.length = 1 + a.size + b.size := by rw [hl]; exact hln
  have Hr := hide hM.rd
  rw [hll] at Hr
  rw [hl] at Hr
  rw [hz] at hcv
  have Hgl := hide (hgl.below hb4 (Nat.le_refl _))
  have Hb4 := hide hb4
  clear hgl hM hb4 hz hl hll
  go_enter Tryd.func32, Tryd.ntmps32
  go_wp2_with fail
  refine (implDig _ _ _ Hr.out (by omega) Hgl.out (nodeB a b) rfl).mono ?_
  rintro e w3 ⟨rfl, hb3⟩
  have hB3 : Below w.heap.size w w3 := Hb4.out.trans (hb3.mono Hb4.out.size)
  go_wp2
  go_ret
  exact ⟨rfl, hB3⟩

set_option maxRecDepth 100000 in
set_option maxHeartbeats 4000000 in
theorem bitsLen64_int (x : Int) (w : World) (h0 : 0 ≤ x) (hx : x ≤ 255) :
    Calls Tryd.prog 64 #[.int .u64 x] w fun e w' => e = .returned (.int .i64 (Lib.bitLen x.toNat : Int)) ∧ w' = w := by
  have h1 : x < 4294967296 := by omega
  have h2 : x < 65536 := by omega
  have h3 : x < 256 := by omega
  go_enter Tryd.func64, Tryd.ntmps64
  go_wp2
  all_goals (go_ret; refine ⟨congrArg Ending.returned (congrArg (Value.int IntKind.i64) ?_), rfl⟩)
  all_goals (
    have l := Lib.bitLen_le8' x h0 (by omega)
    rw [Lib.len8_of x h0 (by omega)]
    unfold wrap64
    omega)

set_option maxRecDepth 20000 in
theorem bitsLen_any (x : Nat) (w : World) (hx : x ≤ 255) :
    Calls Tryd.prog 50 #[.int .u64 (x : Int)] w fun e w' => e = .returned (.int .i64 (Lib.bitLen x : Int)) ∧ w' = w := by
  have H := hide (bitsLen64_int (x : Int) w (by omega) (by omega))
  rw [Int.toNat_natCast] at H
  go_enter Tryd.func50, Tryd.ntmps50
  go_wp2_with fail
  refine H.out.mono ?_
  rintro e w ⟨rfl, rfl⟩
  go_wp2
  go_ret
  exact ⟨rfl, rfl⟩

theorem half_bits : ∀ n : Fin 65, 2 ≤ n.val → 1 ≤ Lib.bitLen (n.val - 1) ∧ Lib.bitLen (n.val - 1) ≤ 6 ∧ 2 ^ (Lib.bitLen (n.val - 1) - 1) = half n.val := by decide +kernel

set_option maxRecDepth 20000 in
theorem firstPart_any (n : Nat) (w : World) (h2 : 2 ≤ n) (hn : n ≤ 64) :
    Calls Tryd.prog 31 #[.int .i64 (n : Int)] w fun e w' => e = .returned (.int .i64 (half n : Int)) ∧ w' = w := by
  obtain ⟨k1, k2, k3⟩ := half_bits ⟨n, by omega⟩ h2
  have H := hide (bitsLen_any (n - 1) w (by omega))
  dsimp only at k1 k2 k3
  generalize Lib.bitLen (n - 1) = K at H k1 k2 k3
  obtain ⟨m, rfl⟩ : ∃ m, n = m + 1 := ⟨n - 1, by omega⟩
  rw [show m + 1 - 1 = m from by omega] at H
  rw [← k3]
  clear k3
  have hm1 : ((m + 1 : Nat) : Int) = (m : Int) + 1 := by omega
  rw [hm1]
  have i1 : (1 : Int) ≤ (m : Int) := by omega
  have i2 : (m : Int) ≤ 63 := by omega
  rcases (show K = 1 ∨ K = 2 ∨ K = 3 ∨ K = 4 ∨ K = 5 ∨ K = 6 from by omega) with rfl | rfl | rfl | rfl | rfl | rfl
  all_goals (
    go_enter Tryd.func31, Tryd.ntmps31
    go_wp2_with fail
    refine H.out.mono ?_
    rintro e w ⟨rfl, rfl⟩
    go_wp2
    go_ret
    exact ⟨rfl, rfl⟩)


end Go.Proofs.YtknmjahipekgpaaDoor
