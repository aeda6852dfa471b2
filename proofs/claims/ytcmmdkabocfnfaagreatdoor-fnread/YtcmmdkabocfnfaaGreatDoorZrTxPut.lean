/- The model's orders put behind bytes. -/
import Derived.Test.YtcmmdkabocfnfaaGreatDoorZrTxSpec
import Derived.Deep.RegionHeldLaw
namespace Go.Proofs.YtcmmdkabocfnfaaGreatDoor
open Go.RowKit
set_option linter.unusedVariables false

/-- An order's bytes. -/
def txP (t : Tx5) : List UInt8 := numB t.1 ++ (textB t.2.1 ++ (textB t.2.2.1 ++ (numB t.2.2.2.1 ++ numB t.2.2.2.2)))
theorem textB_le5 (s : ByteArray) : (textB s).length ≤ 6 + s.size := by
  unfold textB
  have := numB_len (s.size : Int)
  simp
  omega
theorem txP_len (t : Tx5) : (txP t).length ≤ 30 + t.2.1.size + t.2.2.1.size := by
  unfold txP
  have h1 := numB_len t.1
  have h2 := numB_len t.2.2.2.1
  have h3 := numB_len t.2.2.2.2
  have h4 := textB_le5 t.2.1
  have h5 := textB_le5 t.2.2.1
  simp only [List.length_append]
  omega
/-- The five cells of an order at the head of a block. -/
def TxAtP (W : World) (B : Nat) (t : Tx5) : Prop := W.cell? ⟨B, 0, none⟩ = some (.int .i64 t.1) ∧ W.cell? ⟨B, 1, none⟩ = some (.string t.2.1) ∧ W.cell? ⟨B, 2, none⟩ = some (.string t.2.2.1) ∧ W.cell? ⟨B, 3, none⟩ = some (.int .i64 t.2.2.2.1) ∧ W.cell? ⟨B, 4, none⟩ = some (.int .i64 t.2.2.2.2)
theorem TxAtP.below {K : Nat} {w w' : World} {B : Nat} {t : Tx5} (h : TxAtP w B t) (hb : Below K w w') (hB : B < K) : TxAtP w' B t :=
  ⟨(hb.cell (p := ⟨B, 0, none⟩) hB).trans h.1, (hb.cell (p := ⟨B, 1, none⟩) hB).trans h.2.1, (hb.cell (p := ⟨B, 2, none⟩) hB).trans h.2.2.1, (hb.cell (p := ⟨B, 3, none⟩) hB).trans h.2.2.2.1, (hb.cell (p := ⟨B, 4, none⟩) hB).trans h.2.2.2.2⟩
theorem txAt_new (w : World) (t : Tx5) : TxAtP (w.alloc (.cells #[.int .i64 t.1, .string t.2.1, .string t.2.2.1, .int .i64 t.2.2.2.1, .int .i64 t.2.2.2.2] 52)) w.heap.size t := by
  refine ⟨?_, ?_, ?_, ?_, ?_⟩ <;> (rw [World.cell?_alloc_at _ _ _ _ rfl]; rfl)

set_option maxRecDepth 20000 in
set_option maxHeartbeats 2000000 in
theorem specL5Put_any (v : Value) (l : List UInt8) (t : Tx5) (w : World) (hr : RdB w v l) (hl : l.length ≤ 9000000) (hf : t.2.1.size ≤ 2000000) (ht : t.2.2.1.size ≤ 2000000)
    (b1 : -9223372036854775808 ≤ t.1 ∧ t.1 ≤ 9223372036854775807) (b2 : -9223372036854775808 ≤ t.2.2.2.1 ∧ t.2.2.2.1 ≤ 9223372036854775807) (b3 : -9223372036854775808 ≤ t.2.2.2.2 ∧ t.2.2.2.2 ≤ 9223372036854775807) :
    Calls Tryz.prog 78 #[v, txV t] w fun e w' => ∃ v', e = .returned v' ∧ OwnB w.heap.size w' v' (l ++ txP t) ∧ Below w.heap.size w w' := by
  have hT := txAt_new w t
  obtain ⟨k, f, to, am, no⟩ := t
  simp only [txV] at *
  obtain ⟨w0, hw0⟩ : ∃ w0, w.alloc (.cells #[.int .i64 k, .string f, .string to, .int .i64 am, .int .i64 no] 52) = w0 := ⟨_, rfl⟩
  have hb0 : Below w.heap.size w w0.drew := by rw [← hw0]; exact ((Below.refl _ w).alloc (Nat.le_refl _) _).drew
  have hs0 : w0.drew.heap.size = w.heap.size + 1 := by rw [← hw0]; simp [World.drew]
  have hT0 : TxAtP w0.drew w.heap.size (k, f, to, am, no) := by rw [← hw0]; exact hT.below ((Below.refl (w.heap.size + 1) _).drew) (by omega)
  have hr0 := hr.below hb0 (Nat.le_refl _)
  have lk := numB_len k
  have lf := textB_le5 f
  have lt := textB_le5 to
  have lm := numB_len am
  have Htx : Hid (txP (k, f, to, am, no) = numB k ++ (textB f ++ (textB to ++ (numB am ++ numB no)))) := hide rfl
  have HT0 := hide hT0
  have hS0 : w0.drew.cell? ⟨w.heap.size, 0, none⟩ = some (.int .i64 k) ∧ w0.drew.cell? ⟨w.heap.size, 1, none⟩ = some (.string f) ∧ w0.drew.cell? ⟨w.heap.size, 2, none⟩ = some (.string to) ∧ w0.drew.cell? ⟨w.heap.size, 3, none⟩ = some (.int .i64 am) ∧ w0.drew.cell? ⟨w.heap.size, 4, none⟩ = some (.int .i64 no) := hT0
  have C1 := hide (specPutNum_any v l k w0.drew hr0 (by omega) b1.1 b1.2)
  have C2 := hide (fun v1 w1 h => specPutText_any v1 (l ++ numB k) f w1 h (by simp; omega) (by omega))
  have C3 := hide (fun v1 w1 h => specPutText_any v1 (l ++ numB k ++ textB f) to w1 h (by simp; omega) (by omega))
  have C4 := hide (fun v1 w1 h => specPutNum_any v1 (l ++ numB k ++ textB f ++ textB to) am w1 h (by simp; omega) b2.1 b2.2)
  have C5 := hide (fun v1 w1 h => specPutNum_any v1 (l ++ numB k ++ textB f ++ textB to ++ numB am) no w1 h (by simp; omega) b3.1 b3.2)
  have Hb0 := hide hb0
  clear hT hT0 hr hr0 hb0 lk lf lt lm
  go_enter Tryz.func78, Tryz.ntmps78
  go_wp2
  go_region_held_law (fun w' => w'.cell? ⟨w.heap.size, 0, none⟩ = some (.int .i64 k) ∧ w'.cell? ⟨w.heap.size, 1, none⟩ = some (.string f) ∧ w'.cell? ⟨w.heap.size, 2, none⟩ = some (.string to) ∧ w'.cell? ⟨w.heap.size, 3, none⟩ = some (.int .i64 am) ∧ w'.cell? ⟨w.heap.size, 4, none⟩ = some (.int .i64 no)) (first | exact hS0 | exact HT1.out | exact HT2.out | exact HT3.out | exact HT4.out | exact HT5.out) (first
    | (go_at_call 75; refine (C5.out _ _ ho4.rd).mono ?_; rintro e w5 ⟨v5, rfl, ho5, hb5⟩; have HT5 := hide (HT4.out.below hb5 (by omega)); have hz5 := hb5.size)
    | (go_at_call 75; refine (C4.out _ _ ho3.rd).mono ?_; rintro e w4 ⟨v4, rfl, ho4, hb4⟩; have HT4 := hide (HT3.out.below hb4 (by omega)); have hz4 := hb4.size)
    | (go_at_call 74; refine (C3.out _ _ ho2.rd).mono ?_; rintro e w3 ⟨v3, rfl, ho3, hb3⟩; have HT3 := hide (HT2.out.below hb3 (by omega)); have hz3 := hb3.size)
    | (go_at_call 74; refine (C2.out _ _ ho1.rd).mono ?_; rintro e w2 ⟨v2, rfl, ho2, hb2⟩; have HT2 := hide (HT1.out.below hb2 (by omega)); have hz2 := hb2.size)
    | (go_at_call 75; refine C1.out.mono ?_; rintro e w1 ⟨v1, rfl, ho1, hb1⟩; have HT1 := hide (HT0.out.below hb1 (by omega)); have hz1 := hb1.size))
  have hB5 : Below w.heap.size w w5 := ((((Hb0.out.trans (hb1.mono (by omega))).trans (hb2.mono (by omega))).trans (hb3.mono (by omega))).trans (hb4.mono (by omega))).trans (hb5.mono (by omega))
  have ho : OwnB w.heap.size w5 v5 (l ++ txP (k, f, to, am, no)) := by
    rw [Htx.out]
    have := OwnB.mono ho5 (show w.heap.size ≤ w4.heap.size by omega)
    simpa [List.append_assoc] using this
  clear ho1 ho2 ho3 ho4 ho5 hb1 hb2 hb3 hb4 hb5
  go_wp2
  go_ret
  exact ⟨_, rfl, ho, hB5⟩
end Go.Proofs.YtcmmdkabocfnfaaGreatDoor
