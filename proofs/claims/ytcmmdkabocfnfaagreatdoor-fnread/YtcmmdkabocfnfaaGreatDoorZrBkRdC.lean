/- The landed code's reader: a certificate of votes. -/
import Derived.Test.YtcmmdkabocfnfaaGreatDoorZrBkRdB
namespace Go.Proofs.YtcmmdkabocfnfaaGreatDoor
open Go.RowKit
set_option linter.unusedVariables false

theorem Blk.oth {S : Nat → Prop} {W W' : World} {B : Nat} {t : TypeId} {cs : List Value} (h : Blk W B t cs) (O : Oth S W W') (hn : ¬ S B) : Blk W' B t cs := (O.block B h.lt hn).trans h
theorem Oth.tight {B : Nat} {W W' : World} (h : Oth (fun g => g = B ∨ W.heap.size ≤ g) W W') : Oth (fun g => g = B) W W' :=
  ⟨h.os, h.tape, h.output, h.size, fun k hk hn => h.block k hk (fun e => by rcases e with e | e; exact hn e; omega)⟩
theorem Oth.wide {B n : Nat} {W W' : World} (h : Oth (fun g => g = B) W W') : Oth (fun g => g = B ∨ n ≤ g) W W' := h.mono (fun _ e => .inl e)
theorem nil_ownI (base : Nat) (w : World) : OwnI base w (.slice none 0 0) [] := ⟨rfl, .inl ⟨rfl, rfl⟩⟩
theorem nil_ownT (base : Nat) (w : World) : OwnT base w (.slice none 0 0) [] := ⟨rfl, .inl ⟨rfl, rfl⟩⟩
theorem nil_ownV (base : Nat) (w : World) : OwnV base w (.slice none 0 0) [] := ⟨rfl, .inl ⟨rfl, rfl⟩⟩
set_option maxRecDepth 20000 in
set_option maxHeartbeats 2000000 in
theorem rdQc_any {w0 W : World} {B : Nat} {v : Value} {l : List UInt8} {s : St} (h : Rd9 w0 W B v l s) :
    Calls Tryz.prog 123 #[.pointer (some ⟨B, 0, none⟩)] W fun e W' => ∃ v', e = .returned (qcV (rN l s) (rN l (sN l s)) v') ∧ OwnS W.heap.size W' v' (rS l (sN l (sN l s))) ∧ Rd9 w0 W' B v l (sS l (sN l (sN l s))) ∧ Oth (fun g => g = B) W W' := by
  have hBl := h.lt
  have hlo := h.lo
  have HN := fun (V : World) (t : St) (hV : Rd9 w0 V B v l t) => rdNum_any hV
  have HS := fun (V : World) (t : St) (hV : Rd9 w0 V B v l t) => rdNames_any hV
  obtain ⟨w2, hw2⟩ : ∃ x, (W.alloc (.cells #[.int .i64 0, .int .i64 0, .slice none 0 0] 25)).alloc (.cells #[.int .i64 0, .int .i64 0, .slice none 0 0] 25) = x := ⟨_, rfl⟩
  have b2 : Below W.heap.size W w2 := by rw [← hw2]; exact ((Below.refl _ W).alloc (Nat.le_refl _) _).alloc (by simp) _
  have s2 : w2.heap.size = W.heap.size + 2 := by rw [← hw2]; simp
  have mR : Blk w2 W.heap.size 25 [.int .i64 0, .int .i64 0, .slice none 0 0] := by
    rw [← hw2]
    exact (Blk.new W 25 [.int .i64 0, .int .i64 0, .slice none 0 0]).below ((Below.refl (W.heap.size + 1) _).alloc (by simp) _) (by omega)
  have mQ : Blk w2 (W.heap.size + 1) 25 [.int .i64 0, .int .i64 0, .slice none 0 0] := by
    rw [← hw2]
    have h := Blk.new (W.alloc (.cells #[.int .i64 0, .int .i64 0, .slice none 0 0] 25)) 25 [.int .i64 0, .int .i64 0, .slice none 0 0]
    simp only [World.size_alloc] at h
    exact h
  have h2 := h.bel b2
  have O2 : Oth (fun g => g = B ∨ W.heap.size ≤ g) W w2 := Oth.of_below b2
  have Hs2 := hide s2
  clear h b2
  go_enter Tryz.func123, Tryz.ntmps123
  go_wp2_with fail
  refine (HN w2 s h2).mono ?_
  rintro e w3 ⟨rfl, h3, O3⟩
  have mR3 := mR.oth O3 (by omega)
  have mQ3 := mQ.oth O3 (by omega)
  have O3' := O2.trans O3.wide
  have q0 := mQ3.cell 0
  have f0 := mQ3.frozen 0
  simp only [List.getElem?_cons_zero] at q0
  have h4 := h3.set (g := W.heap.size + 1) (by omega) (by have := h3.low.size; omega) 0 (.int .i64 (rN l s))
  have mR4 := mR3.otherC (W.heap.size + 1) 0 (.int .i64 (rN l s)) (by omega)
  have mQ4 := mQ3.setC 0 (.int .i64 (rN l s))
  have O4 := O3'.set (g := W.heap.size + 1) (.inr (by omega)) 0 (.int .i64 (rN l s))
  simp only [List.set_cons_zero] at mQ4
  clear hw2 mR mQ h2 O2 h3 O3 mR3 mQ3 O3' s2
  go_wp2_with fail
  obtain ⟨w4, hw4⟩ : ∃ x, w3.setCell ⟨W.heap.size + 1, 0, none⟩ (.int .i64 (rN l s)) = x := ⟨_, rfl⟩
  rw [hw4] at h4 mR4 mQ4 O4 ⊢
  refine (HN w4 _ h4).mono ?_
  rintro e w5 ⟨rfl, h5, O5⟩
  have mR5 := mR4.oth O5 (by omega)
  have mQ5 := mQ4.oth O5 (by omega)
  have O5' := O4.trans O5.wide
  have q1 := mQ5.cell 1
  have f1 := mQ5.frozen 1
  simp only [List.getElem?_cons_zero, List.getElem?_cons_succ] at q1
  have h6 := h5.set (g := W.heap.size + 1) (by omega) (by omega) 1 (.int .i64 (rN l (sN l s)))
  have mR6 := mR5.otherC (W.heap.size + 1) 1 (.int .i64 (rN l (sN l s))) (by omega)
  have mQ6 := mQ5.setC 1 (.int .i64 (rN l (sN l s)))
  have O6 := O5'.set (g := W.heap.size + 1) (.inr (by omega)) 1 (.int .i64 (rN l (sN l s)))
  simp only [List.set_cons_zero, List.set_cons_succ] at mQ6
  clear hw4 mR4 mQ4 h4 O4 h5 O5 mR5 mQ5 O5' q0 f0
  go_wp2_with fail
  obtain ⟨w6, hw6⟩ : ∃ x, w5.setCell ⟨W.heap.size + 1, 1, none⟩ (.int .i64 (rN l (sN l s))) = x := ⟨_, rfl⟩
  rw [hw6] at h6 mR6 mQ6 O6 ⊢
  have z6 := mQ6.lt
  refine (HS w6 _ h6).mono ?_
  rintro e w7 ⟨v7, rfl, o7, h7, O7⟩
  obtain ⟨a7, c7, rfl⟩ := o7.rd.shape
  have mR7 := mR6.oth O7 (by omega)
  have mQ7 := mQ6.oth O7 (by omega)
  have O7' := O6.trans O7.wide
  have q2 := mQ7.cell 2
  have f2 := mQ7.frozen 2
  simp only [List.getElem?_cons_zero, List.getElem?_cons_succ] at q2
  have h8 := h7.set (g := W.heap.size + 1) (by omega) (by omega) 2 (.slice a7 (rS l (sN l (sN l s))).length c7)
  have mR8 := mR7.otherC (W.heap.size + 1) 2 (.slice a7 (rS l (sN l (sN l s))).length c7) (by omega)
  have mQ8 := mQ7.setC 2 (.slice a7 (rS l (sN l (sN l s))).length c7)
  have O8 := O7'.set (g := W.heap.size + 1) (.inr (by omega)) 2 (.slice a7 (rS l (sN l (sN l s))).length c7)
  have o8 := o7.olderC (g := W.heap.size + 1) z6 2 (.slice a7 (rS l (sN l (sN l s))).length c7)
  simp only [List.set_cons_zero, List.set_cons_succ] at mQ8
  obtain ⟨w8, hw8⟩ : ∃ x, w7.setCell ⟨W.heap.size + 1, 2, none⟩ (.slice a7 (rS l (sN l (sN l s))).length c7) = x := ⟨_, rfl⟩
  rw [hw8] at h8 mR8 mQ8 O8 o8
  have a0 := mQ8.cell 0
  have a1 := mQ8.cell 1
  have a2 := mQ8.cell 2
  have x0 := mR8.cell 0
  have x1 := mR8.cell 1
  have x2 := mR8.cell 2
  have g0 := mR8.frozen 0
  have g1 := mR8.frozen 1
  have g2 := mR8.frozen 2
  simp only [List.getElem?_cons_zero, List.getElem?_cons_succ] at a0 a1 a2 x0 x1 x2
  have HR := hide (((h8.set (g := W.heap.size) (by omega) (by omega) 0 (.int .i64 (rN l s))).set (g := W.heap.size) (by omega) (by omega) 1 (.int .i64 (rN l (sN l s)))).set (g := W.heap.size) (by omega) (by omega) 2 (.slice a7 (rS l (sN l (sN l s))).length c7))
  have HO := hide (((O8.set (g := W.heap.size) (.inr (by omega)) 0 (.int .i64 (rN l s))).set (g := W.heap.size) (.inr (by omega)) 1 (.int .i64 (rN l (sN l s)))).set (g := W.heap.size) (.inr (by omega)) 2 (.slice a7 (rS l (sN l (sN l s))).length c7)).tight
  have Hown : Hid (OwnS W.heap.size (((w8.setCell ⟨W.heap.size, 0, none⟩ (.int .i64 (rN l s))).setCell ⟨W.heap.size, 1, none⟩ (.int .i64 (rN l (sN l s)))).setCell ⟨W.heap.size, 2, none⟩ (.slice a7 (rS l (sN l (sN l s))).length c7)) (.slice a7 (rS l (sN l (sN l s))).length c7) (rS l (sN l (sN l s)))) := hide (OwnS.mono (((o8.olderC (g := W.heap.size) (by omega) 0 (.int .i64 (rN l s))).olderC (g := W.heap.size) (by omega) 1 (.int .i64 (rN l (sN l s)))).olderC (g := W.heap.size) (by omega) 2 (.slice a7 (rS l (sN l (sN l s))).length c7)) (show W.heap.size ≤ w6.heap.size by omega))
  clear hw6 mR6 mQ6 h6 O6 h7 O7 mR7 mQ7 O7' q1 f1 mR8 mQ8 h8 O8 o7 o8
  go_wp2
  refine bodyPost_ret (v := .agg #[.int .i64 (rN l s), .int .i64 (rN l (sN l s)), .slice a7 (rS l (sN l (sN l s))).length c7]) (by simp [results, Tryz.f123, go_sem, x0, x1, x2]) rfl ?_
  exact ⟨_, rfl, Hown.out, HR.out, HO.out⟩
end Go.Proofs.YtcmmdkabocfnfaaGreatDoor
