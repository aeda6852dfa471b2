/- PutNames: the program's and the model's lay the same bytes, in memory of their own. -/
import Derived.Test.YtlfoaobgdipdlaaZpPutText
namespace Go.Proofs.Ytlfoaobgdipdlaa
open Go.RowKit
set_option linter.unusedVariables false

def namesB (ls : List ByteArray) : List UInt8 := numB (ls.length : Int) ++ textsB ls
theorem namesB_len (ls : List ByteArray) : (namesB ls).length ≤ 6 + 6 * ls.length + tot ls := by
  have := numB_len (ls.length : Int)
  have := textsB_len ls
  simp [namesB]; omega

set_option maxRecDepth 20000 in
set_option maxHeartbeats 1000000 in
theorem specPutNames_any (v vs : Value) (l : List UInt8) (ls : List ByteArray) (w : World) (hr : RdB w v l) (hrs : RdS w vs ls) (hl : l.length ≤ 10000000) (hls : ls.length ≤ 2000000) (ht : tot ls ≤ 10000000) :
    Calls Try.prog 122 #[v, vs] w fun e w' => ∃ v', e = .returned v' ∧ OwnB w.heap.size w' v' (l ++ namesB ls) ∧ Below w.heap.size w w' := by
  have Hp := hide (specPutNum_any v l (ls.length : Int) w hr (by omega) (by omega) (by omega))
  have hnl := numB_len (ls.length : Int)
  have HN : Hid (namesB ls = numB (ls.length : Int) ++ textsB ls) := hide rfl
  generalize numB (ls.length : Int) = nb at Hp hnl HN
  clear hr
  rcases hrs with ⟨a, cap, rfl, rfl, -⟩ | ⟨b, off, cap, h0, rfl, h1, h2, h3, h4⟩
  · go_enter Try.func122, Try.ntmps122
    go_wp2_with fail
    refine Hp.out.mono ?_
    rintro e w1 ⟨v1, rfl, ho1, hb1⟩
    go_wp2
    refine wp_loop_rounds 1 ?_
    rw [rounds_succ]
    go_wp2
    go_ret
    exact ⟨_, rfl, by rw [HN.out]; simpa [textsB] using ho1, hb1⟩
  · have H4 := hide h4
    clear h4
    go_enter Try.func122, Try.ntmps122
    go_wp2_with fail
    refine Hp.out.mono ?_
    rintro e w1 ⟨v1, rfl, ho1, hb1⟩
    go_wp2
    go_loopw [5, 6] (fun bv iv wr => ∃ k : Nat, k ≤ ls.length ∧ iv = .int .i64 (k : Int) ∧ OwnB w.heap.size wr bv (l ++ nb ++ textsB (ls.take k)) ∧ Below w.heap.size w wr) (fun _ iv _ => ls.length - (intOf iv).toNat)
    case atStart => exact ⟨0, by omega, rfl, by simpa [textsB] using ho1, hb1⟩
    case round =>
      obtain ⟨k, hk, rfl, ho, hb⟩ := hrel
      clear ho1 hb1
      by_cases hlt : k < ls.length
      · have hcr : wr.cell? ⟨b, off + k, none⟩ = some (.string ls[k]) := (hb.cell (p := ⟨b, off + k, none⟩) h3).trans (H4.out k hlt)
        have hsn := hide (textsB_snoc ls k hlt)
        have hsz : ls[k].size ≤ 10000000 := Nat.le_trans (tot_at ls k hlt) ht
        have hTl := textsB_take_len ls k
        have hbs := hb.size
        generalize ls[k] = s at hcr hsn hsz
        generalize textsB (ls.take k) = pre at ho hsn hTl
        have Ha := hide (specPutText_any _ (l ++ nb ++ pre) s wr ho.rd (by simp; omega) hsz)
        have Hb := hide hb
        clear ho hb
        go_wp2_with fail
        refine Ha.out.mono ?_
        rintro e w2 ⟨v2, rfl, ho2, hb2⟩
        go_wp2
        go_roundw
        case rel => exact ⟨k + 1, by omega, by go_num, by rw [hsn.out, ← List.append_assoc]; exact ho2.mono hbs, Hb.out.trans (hb2.mono hbs)⟩
        case measure => simp [intOf]; omega
      · have e : ls.take k = ls := List.take_of_length_le (by omega)
        rw [e, List.append_assoc, ← HN.out] at ho
        clear e
        go_wp2
        go_ret
        exact ⟨_, rfl, ho, hb⟩

set_option maxRecDepth 20000 in
set_option maxHeartbeats 1000000 in
theorem implPutNames_any (v vs : Value) (l : List UInt8) (ls : List ByteArray) (w : World) (hr : RdB w v l) (hrs : RdS w vs ls) (hl : l.length ≤ 10000000) (hls : ls.length ≤ 2000000) (ht : tot ls ≤ 10000000) :
    Calls Try.prog 127 #[v, vs] w fun e w' => ∃ v', e = .returned v' ∧ OwnB w.heap.size w' v' (l ++ namesB ls) ∧ Below w.heap.size w w' := by
  have hb0 : Below w.heap.size w (w.alloc (.cells #[.int .i64 (ls.length : Int)] 3)) := (Below.refl _ _).alloc (Nat.le_refl _) _
  have Hp := hide (putNums_any v l (ls.length : Int) w.heap.size (w.alloc (.cells #[.int .i64 (ls.length : Int)] 3)) (hr.below hb0 (Nat.le_refl _)) (by omega) (by simp) (one_cell w (ls.length : Int) 3) (by omega) (by omega))
  have hnl := numB_len (ls.length : Int)
  have HN : Hid (namesB ls = numB (ls.length : Int) ++ textsB ls) := hide rfl
  generalize numB (ls.length : Int) = nb at Hp hnl HN
  have Hb := hide hb0
  obtain ⟨a, cap, hv⟩ := hrs.shape
  subst hv
  have Hrs := hide hrs
  clear hr hb0 hrs
  go_enter Try.func127, Try.ntmps127
  go_wp2_with fail
  refine Hp.out.mono ?_
  rintro e w1 ⟨v1, rfl, ho1, hb1⟩
  simp only [World.size_alloc] at ho1 hb1
  have hB1 : Below w.heap.size w w1 := Hb.out.trans (hb1.mono (by omega))
  go_wp2_with fail
  refine (putTexts_any _ _ (l ++ nb) ls _ ho1.rd (Hrs.out.below hB1 (Nat.le_refl _)) (by simp; omega) hls ht).mono ?_
  rintro e w2 ⟨v2, rfl, ho2, hb2⟩
  have hbs := hB1.size
  go_wp2
  go_ret
  rw [List.append_assoc, ← HN.out] at ho2
  exact ⟨_, rfl, ho2.mono hbs, hB1.trans (hb2.mono hbs)⟩
end Go.Proofs.Ytlfoaobgdipdlaa
