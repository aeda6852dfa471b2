/- PutNames: the program's and the model's lay the same bytes, in memory of their own. -/
import Derived.Test.YtemmindofiecjaaPutText
namespace Go.Proofs.Ytemmindofiecjaa
open Go.RowKit
set_option linter.unusedVariables false

def namesB (ls : List ByteArray) : List UInt8 := numB (ls.length : Int) ++ textsB ls
theorem namesB_len (ls : List ByteArray) : (namesB ls).length ≤ 6 + 6 * ls.length + tot ls := by
  have := numB_len (ls.length : Int)
  have := textsB_len ls
  simp [namesB]; omega


set_option maxRecDepth 20000 in
set_option maxHeartbeats 1000000 in
theorem implPutNames_any (v vs : Value) (l : List UInt8) (ls : List ByteArray) (w : World) (hr : RdB w v l) (hrs : RdS w vs ls) (hl : l.length ≤ 10000000) (hls : ls.length ≤ 2000000) (ht : tot ls ≤ 10000000) :
    Calls Try.prog 14 #[v, vs] w fun e w' => ∃ v', e = .returned v' ∧ OwnB w.heap.size w' v' (l ++ namesB ls) ∧ Below w.heap.size w w' := by
  have hb0 : Below w.heap.size w (w.alloc (.cells #[.int .i64 (ls.length : Int)] 3)) := (Below.refl _ _).alloc (Nat.le_refl _) _
  have Hp := hide (putNums_any v l (ls.length : Int) w.heap.size (w.alloc (.cells #[.int .i64 (ls.length : Int)] 3)) (hr.below hb0 (Nat.le_refl _)) (by omega) (by simp) (one_cell w (ls.length : Int) 3) (by omega) (by omega))
  have hnl := numB_len (ls.length : Int)
  have HN : Hid (namesB ls = numB (ls.length : Int) ++ textsB ls) := hide rfl
  generalize numB (ls.length : Int) = nb at Hp hnl HN
  have Hb := hide hb0
  obtain ⟨a, cap, hv⟩ := hrs.shape
  subst hv
  have Hrs := hide hrs
  clear hr hb0 hrs
  go_enter Try.func14, Try.ntmps14
  go_wp2_with fail
  refine Hp.out.mono ?_
  rintro e w1 ⟨v1, rfl, ho1, hb1⟩
  simp only [World.size_alloc] at ho1 hb1
  have hB1 : Below w.heap.size w w1 := Hb.out.trans (hb1.mono (by omega))
  go_wp2_with fail
  refine (putTexts_any _ _ (l ++ nb) ls _ ho1.rd (Hrs.out.below hB1 (Nat.le_refl _)) (by simp; omega) hls ht).mono ?_
  rintro e w2 ⟨v2, rfl, ho2, hb2⟩
  have hbs := hB1.size
  go_wp2
  go_ret
  rw [List.append_assoc, ← HN.out] at ho2
  exact ⟨_, rfl, ho2.mono hbs, hB1.trans (hb2.mono hbs)⟩
end Go.Proofs.Ytemmindofiecjaa
