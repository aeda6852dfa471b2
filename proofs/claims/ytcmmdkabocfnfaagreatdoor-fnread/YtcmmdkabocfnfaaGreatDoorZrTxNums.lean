/- Numbers put one behind the other; texts in memory, from one block on. -/
import Derived.Test.YtcmmdkabocfnfaaGreatDoorZrTxSpec
namespace Go.Proofs.YtcmmdkabocfnfaaGreatDoor
open Go.RowKit
set_option linter.unusedVariables false

def numsB (ns : List Int) : List UInt8 := ns.flatMap numB
theorem numsB_len : ∀ ns : List Int, (numsB ns).length ≤ 6 * ns.length := by
  intro ns
  induction ns with
  | nil => simp [numsB]
  | cons n t ih =>
    have := numB_len n
    simp only [numsB, List.flatMap_cons, List.length_append, List.length_cons] at ih ⊢
    omega
theorem numsB_take_len (ns : List Int) (k : Nat) : (numsB (ns.take k)).length ≤ 6 * ns.length := by
  have h := numsB_len (ns.take k)
  have h3 : (ns.take k).length ≤ ns.length := by simp; omega
  omega
theorem numsB_snoc (ns : List Int) (k : Nat) (h : k < ns.length) : numsB (ns.take (k + 1)) = numsB (ns.take k) ++ numB ns[k] := by
  rw [List.take_succ_eq_append_getElem h]; simp only [numsB, List.flatMap_append, List.flatMap_cons, List.flatMap_nil, List.append_nil]

set_option maxRecDepth 20000 in
set_option maxHeartbeats 1000000 in
theorem putNumsL_any (v : Value) (l : List UInt8) (ns : List Int) (g off cap : Nat) (w : World) (hr : RdB w v l) (hl : l.length ≤ 20000000) (hn : ns.length ≤ 1000) (hg : g < w.heap.size) (hc : ∀ i (h : i < ns.length), w.cell? ⟨g, off + i, none⟩ = some (.int .i64 ns[i])) (hbd : ∀ x ∈ ns, -9223372036854775808 ≤ x ∧ x ≤ 9223372036854775807) :
    Calls Tryz.prog 103 #[v, .slice (some ⟨g, off, none⟩) ns.length cap] w fun e w' => ∃ v', e = .returned v' ∧ OwnB w.heap.size w' v' (l ++ numsB ns) ∧ Below w.heap.size w w' := by
  have Hc := hide (copied_any v l w hr (by omega))
  have HC := hide hc
  clear hr hc
  go_enter Tryz.func103, Tryz.ntmps103
  go_wp2_with (go_at_call 131; refine Hc.out.mono ?_; rintro e w1 ⟨v1, rfl, ho1, hb1⟩)
  go_loopw [5, 12] (fun bv iv wr => ∃ k : Nat, k ≤ ns.length ∧ iv = .int .i64 (k : Int) ∧ OwnB w.heap.size wr bv (l ++ numsB (ns.take k)) ∧ Below w.heap.size w wr) (fun _ iv _ => ns.length - (intOf iv).toNat)
  case atStart => exact ⟨0, by omega, rfl, by simpa [numsB] using ho1, hb1⟩
  case round =>
    obtain ⟨k, hk, rfl, ho, hb⟩ := hrel
    clear ho1 hb1
    by_cases hlt : k < ns.length
    · have hcr : wr.cell? ⟨g, off + k, none⟩ = some (.int .i64 ns[k]) := (hb.cell (p := ⟨g, off + k, none⟩) hg).trans (HC.out k hlt)
      have hsn := hide (numsB_snoc ns k hlt)
      have hbx := hbd ns[k] (List.getElem_mem hlt)
      have hTl := numsB_take_len ns k
      have hbs := hb.size
      generalize ns[k] = x at hcr hsn hbx
      generalize numsB (ns.take k) = pre at ho hsn hTl
      have Ha := hide (appendNum_any _ (l ++ pre) x w.heap.size wr ho hbs (by simp; omega) hbx.1 hbx.2)
      have Hb := hide hb
      clear ho hb hbx hbd
      go_wp2_with fail
      refine Ha.out.mono ?_
      rintro e w2 ⟨v2, rfl, ho2, hb2⟩
      go_wp2
      go_roundw
      case rel => exact ⟨k + 1, by omega, by go_num, by rw [hsn.out, ← List.append_assoc]; exact ho2, Hb.out.trans hb2⟩
      case measure => simp [intOf]; omega
    · have e : ns.take k = ns := List.take_of_length_le (by omega)
      rw [e] at ho
      clear e
      go_wp2
      go_ret
      exact ⟨_, rfl, ho, hb⟩
/-- Two texts from a block's head on. -/
theorem rd_two_str (w : World) (g : Nat) (a b : ByteArray) (hg : g < w.heap.size) (h0 : w.cell? ⟨g, 0, none⟩ = some (.string a)) (h1 : w.cell? ⟨g, 1, none⟩ = some (.string b)) : RdS w (.slice (some ⟨g, 0, none⟩) 2 2) [a, b] := by
  refine .inr ⟨g, 0, 2, by simp, rfl, by simp, by unfold maxLen; omega, hg, ?_⟩
  intro i hi
  simp only [List.length_cons, List.length_nil] at hi
  rcases (show i = 0 ∨ i = 1 from by omega) with rfl | rfl
  · exact h0
  · exact h1
theorem cells_two {w : World} {g : Nat} {a b : Int} (h0 : w.cell? ⟨g, 0, none⟩ = some (.int .i64 a)) (h1 : w.cell? ⟨g, 1, none⟩ = some (.int .i64 b)) : ∀ i (h : i < [a, b].length), w.cell? ⟨g, 0 + i, none⟩ = some (.int .i64 [a, b][i]) := by
  intro i hi
  simp only [List.length_cons, List.length_nil] at hi
  rcases (show i = 0 ∨ i = 1 from by omega) with rfl | rfl
  · exact h0
  · exact h1
theorem cells_one {w : World} {g : Nat} {a : Int} (h0 : w.cell? ⟨g, 0, none⟩ = some (.int .i64 a)) : ∀ i (h : i < [a].length), w.cell? ⟨g, 0 + i, none⟩ = some (.int .i64 [a][i]) := by
  intro i hi
  simp only [List.length_cons, List.length_nil] at hi
  have : i = 0 := by omega
  subst this
  exact h0
end Go.Proofs.YtcmmdkabocfnfaaGreatDoor
