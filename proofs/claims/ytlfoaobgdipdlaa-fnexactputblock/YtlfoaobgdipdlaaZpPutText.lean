/- PutText, and texts put one behind the other: the program's and the model's lay the same bytes, in memory of their own. -/
import Derived.Test.YtlfoaobgdipdlaaZpPut
import Derived.Test.YtlfoaobgdipdlaaZpStrs
import Derived.Lib.AppendStr
namespace Go.Proofs.Ytlfoaobgdipdlaa
open Go.RowKit
set_option linter.unusedVariables false

def textB (s : ByteArray) : List UInt8 := numB (s.size : Int) ++ s.data.toList
def textsB (ls : List ByteArray) : List UInt8 := ls.flatMap textB

theorem textB_len (s : ByteArray) : (textB s).length ≤ 6 + s.size := by
  have := numB_len (s.size : Int)
  simp [textB]; omega
theorem textsB_len : ∀ ls : List ByteArray, (textsB ls).length ≤ 6 * ls.length + tot ls := by
  intro ls
  induction ls with
  | nil => simp [textsB, tot]
  | cons s t ih =>
    have := textB_len s
    simp only [textsB, tot, List.flatMap_cons, List.length_append, List.length_cons, List.map_cons, List.sum_cons] at ih ⊢
    omega
theorem textsB_snoc (ls : List ByteArray) (k : Nat) (h : k < ls.length) : textsB (ls.take (k + 1)) = textsB (ls.take k) ++ textB ls[k] := by
  rw [List.take_succ_eq_append_getElem h]; simp only [textsB, List.flatMap_append, List.flatMap_cons, List.flatMap_nil, List.append_nil]
theorem textsB_take_len (ls : List ByteArray) (k : Nat) : (textsB (ls.take k)).length ≤ 6 * ls.length + tot ls := by
  have h1 := textsB_len (ls.take k)
  have h2 := tot_take ls k
  have h3 : (ls.take k).length ≤ ls.length := by simp; omega
  omega

theorem app_str {ops : Array Oper} {rest : List Oper} {o : Oper} {a : Act} {Q : Exit → Act → World → Prop} (w : World) (hgd : o.guard = none) (s x : Operand)
    (ho : o.op = .call { callee := .builtin .append, args := #[s, x], argTypes := #[60, 9] })
    (base : Nat) (v : Value) (t : ByteArray) (l : List UInt8) (hs : a.eval s = v) (hx : a.eval x = .string t) (hown : OwnB base w v l)
    (hlen : l.length + t.size ≤ 100000000) (hbase : base ≤ w.heap.size)
    (h : ∀ v' w', OwnB base w' v' (l ++ t.data.toList) → Below base w w' → wpList Try.prog ops Q rest (a.put o.dst v') w') : wpList Try.prog ops Q (o :: rest) a w := by
  obtain ⟨i0, hi, hz0, hz1, hz2⟩ := info_parts Try.infoU8
  refine Lib.wpList_append_own_string w hgd s x 60 9 ho base 5 i0 Try.underlying60 Try.underlying9 hi hz0 hz1 hz2 v l.length (l.map cb) hs hown t hx (by unfold maxLen; omega) (by omega) hbase ?_
  intro v' w' ho' hg _
  refine h v' w' ?_ ((Below.refl _ _).grown hg hbase (fun k hk => (World.ownsRow.lt hown k hk).1))
  have e1 : l.map cb ++ Lib.strCells t = (l ++ t.data.toList).map cb := by
    rw [List.map_append]; rfl
  have e2 : l.length + t.size = (l ++ t.data.toList).length := by simp
  rw [e1, e2] at ho'
  exact ho'

set_option maxRecDepth 20000 in
theorem specPutText_any (v : Value) (l : List UInt8) (s : ByteArray) (w : World) (hr : RdB w v l) (hl : l.length ≤ 40000000) (hs : s.size ≤ 10000000) :
    Calls Try.prog 79 #[v, .string s] w fun e w' => ∃ v', e = .returned v' ∧ OwnB w.heap.size w' v' (l ++ textB s) ∧ Below w.heap.size w w' := by
  have Hp := hide (specPutNum_any v l (s.size : Int) w hr hl (by omega) (by omega))
  have hn := numB_len (s.size : Int)
  have HT : Hid (textB s = numB (s.size : Int) ++ s.data.toList) := hide rfl
  clear hr
  generalize numB (s.size : Int) = nb at Hp hn HT
  go_enter Try.func79, Try.ntmps79
  go_wp2_with fail
  refine Hp.out.mono ?_
  rintro e w1 ⟨v1, rfl, ho1, hb1⟩
  have hsz := hb1.size
  go_wp2_with (at_builtin; refine app_str _ rfl _ _ rfl w.heap.size _ s (l ++ nb) rfl rfl ho1 (by simp; omega) hsz ?_; intro v2 w2 ho2 hb2)
  go_ret
  exact ⟨_, rfl, by rw [HT.out, ← List.append_assoc]; exact ho2, hb1.trans hb2⟩

set_option maxRecDepth 20000 in
set_option maxHeartbeats 1000000 in
theorem putTexts_any (v vs : Value) (l : List UInt8) (ls : List ByteArray) (w : World) (hr : RdB w v l) (hrs : RdS w vs ls) (hl : l.length ≤ 20000000) (hls : ls.length ≤ 2000000) (ht : tot ls ≤ 10000000) :
    Calls Try.prog 125 #[v, vs] w fun e w' => ∃ v', e = .returned v' ∧ OwnB w.heap.size w' v' (l ++ textsB ls) ∧ Below w.heap.size w w' := by
  have Hc := hide (copied_any v l w hr (by omega))
  clear hr
  rcases hrs with ⟨a, cap, rfl, rfl, -⟩ | ⟨b, off, cap, h0, rfl, h1, h2, h3, h4⟩
  · go_enter Try.func125, Try.ntmps125
    go_wp2_with (go_at_call 135; refine Hc.out.mono ?_; rintro e w1 ⟨v1, rfl, ho1, hb1⟩)
    refine wp_loop_rounds 1 ?_
    rw [rounds_succ]
    go_wp2
    go_ret
    exact ⟨_, rfl, by simpa [textsB] using ho1, hb1⟩
  · go_enter Try.func125, Try.ntmps125
    go_wp2_with (go_at_call 135; refine Hc.out.mono ?_; rintro e w1 ⟨v1, rfl, ho1, hb1⟩)
    go_loopw [5, 12] (fun bv iv wr => ∃ k : Nat, k ≤ ls.length ∧ iv = .int .i64 (k : Int) ∧ OwnB w.heap.size wr bv (l ++ textsB (ls.take k)) ∧ Below w.heap.size w wr) (fun _ iv _ => ls.length - (intOf iv).toNat)
    case atStart => exact ⟨0, by omega, rfl, by simpa [textsB] using ho1, hb1⟩
    case round =>
      obtain ⟨k, hk, rfl, ho, hb⟩ := hrel
      clear ho1 hb1
      by_cases hlt : k < ls.length
      · have hcr : wr.cell? ⟨b, off + k, none⟩ = some (.string ls[k]) := (hb.cell (p := ⟨b, off + k, none⟩) h3).trans (h4 k hlt)
        have hsn := hide (textsB_snoc ls k hlt)
        have hsz : ls[k].size ≤ 10000000 := Nat.le_trans (tot_at ls k hlt) ht
        have hTl := textsB_take_len ls k
        have HT : Hid (textB ls[k] = numB (ls[k].size : Int) ++ ls[k].data.toList) := hide rfl
        have hnl := numB_len (ls[k].size : Int)
        have hbs := hb.size
        generalize ls[k] = s at hcr hsn hsz HT hnl
        generalize textsB (ls.take k) = pre at ho hsn hTl
        have Ha := hide (appendNum_any _ (l ++ pre) (s.size : Int) w.heap.size wr ho hbs (by simp; omega) (by omega) (by omega))
        generalize numB (s.size : Int) = nb at Ha HT hnl
        have Hb := hide hb
        clear ho hb h4
        go_wp2_with fail
        refine Ha.out.mono ?_
        rintro e w2 ⟨v2, rfl, ho2, hb2⟩
        have hbs2 := hb2.size
        go_wp2_with (at_builtin; refine app_str _ rfl _ _ rfl w.heap.size _ s (l ++ pre ++ nb) rfl rfl ho2 (by simp; omega) (by omega) ?_; intro v3 w3 ho3 hb3)
        go_roundw
        case rel => exact ⟨k + 1, by omega, by go_num, by rw [hsn.out, HT.out, ← List.append_assoc, ← List.append_assoc]; exact ho3, (Hb.out.trans hb2).trans hb3⟩
        case measure => simp [intOf]; omega
      · have e : ls.take k = ls := List.take_of_length_le (by omega)
        rw [e] at ho
        clear e h4
        go_wp2
        go_ret
        exact ⟨_, rfl, ho, hb⟩

end Go.Proofs.Ytlfoaobgdipdlaa
