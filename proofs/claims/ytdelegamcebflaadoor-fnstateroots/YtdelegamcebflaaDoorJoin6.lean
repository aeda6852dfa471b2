/- PutText, and texts put one behind the other: the program's and the model's lay the same bytes, in memory of their own. Numbers put one behind the other; texts in memory, from one block on. -/
import Derived.Test.YtdelegamcebflaaDoorJoin5
import Derived.Test.YtdelegamcebflaaDoorJoin2
import Derived.Lib.AppendStr
namespace Go.Proofs.YtdelegamcebflaaDoor
open Go.RowKit
set_option linter.unusedVariables false

def textB (s : ByteArray) : List UInt8 := numB (s.size : Int) ++ s.data.toList
def textsB (ls : List ByteArray) : List UInt8 := ls.flatMap textB

theorem textB_len (s : ByteArray) : (textB s).length ≤ 6 + s.size := by
  have := numB_len (s.size : Int)
  simp [textB]; omega
theorem textsB_len : ∀ ls : List ByteArray, (textsB ls).length ≤ 6 * ls.length + tot ls := by
  intro ls
  induction ls with
  | nil => simp [textsB, tot]
  | cons s t ih =>
    have := textB_len s
    simp only [textsB, tot, List.flatMap_cons, List.length_append, List.length_cons, List.map_cons, List.sum_cons] at ih ⊢
    omega
theorem textsB_snoc (ls : List ByteArray) (k : Nat) (h : k < ls.length) : textsB (ls.take (k + 1)) = textsB (ls.take k) ++ textB ls[k] := by
  rw [List.take_succ_eq_append_getElem h]; simp only [textsB, List.flatMap_append, List.flatMap_cons, List.flatMap_nil, List.append_nil]
theorem textsB_take_len (ls : List ByteArray) (k : Nat) : (textsB (ls.take k)).length ≤ 6 * ls.length + tot ls := by
  have h1 := textsB_len (ls.take k)
  have h2 := tot_take ls k
  have h3 : (ls.take k).length ≤ ls.length := by simp; omega
  omega

theorem app_str {ops : Array Oper} {rest : List Oper} {o : Oper} {a : Act} {Q : Exit → Act → World → Prop} (w : World) (hgd : o.guard = none) (s x : Operand)
    (ho : o.op = .call { callee := .builtin .append, args := #[s, x], argTypes := #[22, 9] })
    (base : Nat) (v : Value) (t : ByteArray) (l : List UInt8) (hs : a.eval s = v) (hx : a.eval x = .string t) (hown : OwnB base w v l)
    (hlen : l.length + t.size ≤ 100000000) (hbase : base ≤ w.heap.size)
    (h : ∀ v' w', OwnB base w' v' (l ++ t.data.toList) → Below base w w' → wpList Tryd.prog ops Q rest (a.put o.dst v') w') : wpList Tryd.prog ops Q (o :: rest) a w := by
  obtain ⟨i0, hi, hz0, hz1, hz2⟩ := info_parts Tryd.infoU8
  refine Lib.wpList_append_own_string w hgd s x 22 9 ho base 5 i0 Tryd.underlying22 Tryd.underlying9 hi hz0 hz1 hz2 v l.length (l.map cb) hs hown t hx (by unfold maxLen; omega) (by omega) hbase ?_
  intro v' w' ho' hg _
  refine h v' w' ?_ ((Below.refl _ _).grown hg hbase (fun k hk => (World.ownsRow.lt hown k hk).1))
  have e1 : l.map cb ++ Lib.strCells t = (l ++ t.data.toList).map cb := by
    rw [List.map_append]; rfl
  have e2 : l.length + t.size = (l ++ t.data.toList).length := by simp
  rw [e1, e2] at ho'
  exact ho'


set_option maxRecDepth 20000 in
set_option maxHeartbeats 1000000 in
theorem putTexts_any (v vs : Value) (l : List UInt8) (ls : List ByteArray) (w : World) (hr : RdB w v l) (hrs : RdS w vs ls) (hl : l.length ≤ 20000000) (hls : ls.length ≤ 2000000) (ht : tot ls ≤ 10000000) :
    Calls Tryd.prog 22 #[v, vs] w fun e w' => ∃ v', e = .returned v' ∧ OwnB w.heap.size w' v' (l ++ textsB ls) ∧ Below w.heap.size w w' := by
  have Hc := hide (copied_any v l w hr (by omega))
  clear hr
  rcases hrs with ⟨a, cap, rfl, rfl, -⟩ | ⟨b, off, cap, h0, rfl, h1, h2, h3, h4⟩
  · go_enter Tryd.func22, Tryd.ntmps22
    go_wp2_with (go_at_call 38; refine Hc.out.mono ?_; rintro e w1 ⟨v1, rfl, ho1, hb1⟩)
    refine wp_loop_rounds 1 ?_
    rw [rounds_succ]
    go_wp2
    go_ret
    exact ⟨_, rfl, by simpa [textsB] using ho1, hb1⟩
  · go_enter Tryd.func22, Tryd.ntmps22
    go_wp2_with (go_at_call 38; refine Hc.out.mono ?_; rintro e w1 ⟨v1, rfl, ho1, hb1⟩)
    go_loopw [5, 12] (fun bv iv wr => ∃ k : Nat, k ≤ ls.length ∧ iv = .int .i64 (k : Int) ∧ OwnB w.heap.size wr bv (l ++ textsB (ls.take k)) ∧ Below w.heap.size w wr) (fun _ iv _ => ls.length - (intOf iv).toNat)
    case atStart => exact ⟨0, by omega, rfl, by simpa [textsB] using ho1, hb1⟩
    case round =>
      obtain ⟨k, hk, rfl, ho, hb⟩ := hrel
      clear ho1 hb1
      by_cases hlt : k < ls.length
      · have hcr : wr.cell? ⟨b, off + k, none⟩ = some (.string ls[k]) := (hb.cell (p := ⟨b, off + k, none⟩) h3).trans (h4 k hlt)
        have hsn := hide (textsB_snoc ls k hlt)
        have hsz : ls[k].size ≤ 10000000 := Nat.le_trans (tot_at ls k hlt) ht
        have hTl := textsB_take_len ls k
        have HT : Hid (textB ls[k] = numB (ls[k].size : Int) ++ ls[k].data.toList) := hide rfl
        have hnl := numB_len (ls[k].size : Int)
        have hbs := hb.size
        generalize ls[k] = s at hcr hsn hsz HT hnl
        generalize textsB (ls.take k) = pre at ho hsn hTl
        have Ha := hide (appendNum_any _ (l ++ pre) (s.size : Int) w.heap.size wr ho hbs (by simp; omega) (by omega) (by omega))
        generalize numB (s.size : Int) = nb at Ha HT hnl
        have Hb := hide hb
        clear ho hb h4
        go_wp2_with fail
        refine Ha.out.mono ?_
        rintro e w2 ⟨v2, rfl, ho2, hb2⟩
        have hbs2 := hb2.size
        go_wp2_with (at_builtin; refine app_str _ rfl _ _ rfl w.heap.size _ s (l ++ pre ++ nb) rfl rfl ho2 (by simp; omega) (by omega) ?_; intro v3 w3 ho3 hb3)
        go_roundw
        case rel => exact ⟨k + 1, by omega, by go_num, by rw [hsn.out, HT.out, ← List.append_assoc, ← List.append_assoc]; exact ho3, (Hb.out.trans hb2).trans hb3⟩
        case measure => simp [intOf]; omega
      · have e : ls.take k = ls := List.take_of_length_le (by omega)
        rw [e] at ho
        clear e h4
        go_wp2
        go_ret
        exact ⟨_, rfl, ho, hb⟩

set_option maxRecDepth 20000 in
theorem implPutText_any (v : Value) (l : List UInt8) (s : ByteArray) (w : World) (hr : RdB w v l) (hl : l.length ≤ 20000000) (hs : s.size ≤ 10000000) :
    Calls Tryd.prog 10 #[v, .string s] w fun e w' => ∃ v', e = .returned v' ∧ OwnB w.heap.size w' v' (l ++ textB s) ∧ Below w.heap.size w w' := by
  have hb0 : Below w.heap.size w (w.alloc (.cells #[.string s] 9)) := (Below.refl _ _).alloc (Nat.le_refl _) _
  have Hp := hide (putTexts_any v _ l [s] (w.alloc (.cells #[.string s] 9)) (hr.below hb0 (Nat.le_refl _)) (rd_one_str w s) hl (by simp) (by simp [tot]; omega))
  have Hb := hide hb0
  clear hr hb0
  go_enter Tryd.func10, Tryd.ntmps10
  go_wp2_with fail
  refine Hp.out.mono ?_
  rintro e w1 ⟨v1, rfl, ho1, hb1⟩
  go_wp2
  go_ret
  simp only [World.size_alloc] at ho1 hb1
  have e1 : l ++ textsB [s] = l ++ textB s := by simp [textsB]
  rw [e1] at ho1
  exact ⟨_, rfl, ho1.mono (by omega), Hb.out.trans (hb1.mono (by omega))⟩
end Go.Proofs.YtdelegamcebflaaDoor

namespace Go.Proofs.YtdelegamcebflaaDoor
open Go.RowKit
set_option linter.unusedVariables false

def numsB (ns : List Int) : List UInt8 := ns.flatMap numB
theorem numsB_len : ∀ ns : List Int, (numsB ns).length ≤ 6 * ns.length := by
  intro ns
  induction ns with
  | nil => simp [numsB]
  | cons n t ih =>
    have := numB_len n
    simp only [numsB, List.flatMap_cons, List.length_append, List.length_cons] at ih ⊢
    omega
theorem numsB_take_len (ns : List Int) (k : Nat) : (numsB (ns.take k)).length ≤ 6 * ns.length := by
  have h := numsB_len (ns.take k)
  have h3 : (ns.take k).length ≤ ns.length := by simp; omega
  omega
theorem numsB_snoc (ns : List Int) (k : Nat) (h : k < ns.length) : numsB (ns.take (k + 1)) = numsB (ns.take k) ++ numB ns[k] := by
  rw [List.take_succ_eq_append_getElem h]; simp only [numsB, List.flatMap_append, List.flatMap_cons, List.flatMap_nil, List.append_nil]

set_option maxRecDepth 20000 in
set_option maxHeartbeats 1000000 in
theorem putNumsL_any (v : Value) (l : List UInt8) (ns : List Int) (g off cap : Nat) (w : World) (hr : RdB w v l) (hl : l.length ≤ 20000000) (hn : ns.length ≤ 1000) (hg : g < w.heap.size) (hc : ∀ i (h : i < ns.length), w.cell? ⟨g, off + i, none⟩ = some (.int .i64 ns[i])) (hbd : ∀ x ∈ ns, -9223372036854775808 ≤ x ∧ x ≤ 9223372036854775807) :
    Calls Tryd.prog 21 #[v, .slice (some ⟨g, off, none⟩) ns.length cap] w fun e w' => ∃ v', e = .returned v' ∧ OwnB w.heap.size w' v' (l ++ numsB ns) ∧ Below w.heap.size w w' := by
  have Hc := hide (copied_any v l w hr (by omega))
  have HC := hide hc
  clear hr hc
  go_enter Tryd.func21, Tryd.ntmps21
  go_wp2_with (go_at_call 38; refine Hc.out.mono ?_; rintro e w1 ⟨v1, rfl, ho1, hb1⟩)
  go_loopw [5, 12] (fun bv iv wr => ∃ k : Nat, k ≤ ns.length ∧ iv = .int .i64 (k : Int) ∧ OwnB w.heap.size wr bv (l ++ numsB (ns.take k)) ∧ Below w.heap.size w wr) (fun _ iv _ => ns.length - (intOf iv).toNat)
  case atStart => exact ⟨0, by omega, rfl, by simpa [numsB] using ho1, hb1⟩
  case round =>
    obtain ⟨k, hk, rfl, ho, hb⟩ := hrel
    clear ho1 hb1
    by_cases hlt : k < ns.length
    · have hcr : wr.cell? ⟨g, off + k, none⟩ = some (.int .i64 ns[k]) := (hb.cell (p := ⟨g, off + k, none⟩) hg).trans (HC.out k hlt)
      have hsn := hide (numsB_snoc ns k hlt)
      have hbx := hbd ns[k] (List.getElem_mem hlt)
      have hTl := numsB_take_len ns k
      have hbs := hb.size
      generalize ns[k] = x at hcr hsn hbx
      generalize numsB (ns.take k) = pre at ho hsn hTl
      have Ha := hide (appendNum_any _ (l ++ pre) x w.heap.size wr ho hbs (by simp; omega) hbx.1 hbx.2)
      have Hb := hide hb
      clear ho hb hbx hbd
      go_wp2_with fail
      refine Ha.out.mono ?_
      rintro e w2 ⟨v2, rfl, ho2, hb2⟩
      go_wp2
      go_roundw
      case rel => exact ⟨k + 1, by omega, by go_num, by rw [hsn.out, ← List.append_assoc]; exact ho2, Hb.out.trans hb2⟩
      case measure => simp [intOf]; omega
    · have e : ns.take k = ns := List.take_of_length_le (by omega)
      rw [e] at ho
      clear e
      go_wp2
      go_ret
      exact ⟨_, rfl, ho, hb⟩
/-- Two texts from a block's head on. -/
theorem rd_two_str (w : World) (g : Nat) (a b : ByteArray) (hg : g < w.heap.size) (h0 : w.cell? ⟨g, 0, none⟩ = some (.string a)) (h1 : w.cell? ⟨g, 1, none⟩ = some (.string b)) : RdS w (.slice (some ⟨g, 0, none⟩) 2 2) [a, b] := by
  refine .inr ⟨g, 0, 2, by simp, rfl, by simp, by unfold maxLen; omega, hg, ?_⟩
  intro i hi
  simp only [List.length_cons, List.length_nil] at hi
  rcases (show i = 0 ∨ i = 1 from by omega) with rfl | rfl
  · exact h0
  · exact h1
theorem cells_two {w : World} {g : Nat} {a b : Int} (h0 : w.cell? ⟨g, 0, none⟩ = some (.int .i64 a)) (h1 : w.cell? ⟨g, 1, none⟩ = some (.int .i64 b)) : ∀ i (h : i < [a, b].length), w.cell? ⟨g, 0 + i, none⟩ = some (.int .i64 [a, b][i]) := by
  intro i hi
  simp only [List.length_cons, List.length_nil] at hi
  rcases (show i = 0 ∨ i = 1 from by omega) with rfl | rfl
  · exact h0
  · exact h1
theorem cells_one {w : World} {g : Nat} {a : Int} (h0 : w.cell? ⟨g, 0, none⟩ = some (.int .i64 a)) : ∀ i (h : i < [a].length), w.cell? ⟨g, 0 + i, none⟩ = some (.int .i64 [a][i]) := by
  intro i hi
  simp only [List.length_cons, List.length_nil] at hi
  have : i = 0 := by omega
  subst this
  exact h0
end Go.Proofs.YtdelegamcebflaaDoor
