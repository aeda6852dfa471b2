/- The landed code's reader: an order, a certificate. The landed code's reader: a certificate of votes. The model's reader: a number, a text, names, by where it is. -/
import Derived.Test.YtkjlmnhdmlolmaaGreatDoorBkRdA
import Derived.Test.YtkjlmnhdmlolmaaGreatDoorJoin3
import Derived.Test.YtkjlmnhdmlolmaaGreatDoorJoin11
import Derived.Deep.DeepCutAuto
import Derived.Deep.RegionHeldLaw
import Derived.Test.YtkjlmnhdmlolmaaGreatDoorJoin5
import Derived.Test.YtkjlmnhdmlolmaaGreatDoorGetText
import Derived.Test.YtkjlmnhdmlolmaaGreatDoorGetNames
namespace Go.Proofs.YtkjlmnhdmlolmaaGreatDoor
open Go.RowKit
set_option linter.unusedVariables false

theorem txV0 : txV tx0 = .agg #[.int .i64 0, .string { data := #[] }, .string { data := #[] }, .int .i64 0, .int .i64 0] := rfl
set_option maxRecDepth 20000 in
set_option maxHeartbeats 2000000 in
theorem rdTx_any {w0 W : World} {B : Nat} {v : Value} {l : List UInt8} {s : St} (h : Rd9 w0 W B v l s) :
    Calls Tryz.prog 211 #[.pointer (some ⟨B, 0, none⟩)] W fun e W' => e = .returned (txV (rX l s)) ∧ Rd9 w0 W' B v l (sX l s) ∧ Oth (fun g => g = B) W W' := by
  have h' := h
  have hBl := h.lt
  obtain ⟨⟨p, ok, hk, hs, h0, h1⟩, h2, h3, h4, h5⟩ := h'
  obtain ⟨a, cap, rfl⟩ := h2.shape
  subst hs
  obtain ⟨w1, hw1⟩ : ∃ x, W.alloc (.cells #[.int .i64 0, .string { data := #[] }, .string { data := #[] }, .int .i64 0, .int .i64 0] 35) = x := ⟨_, rfl⟩
  have b1 : Below W.heap.size W w1 := by rw [← hw1]; exact (Below.refl _ W).alloc (Nat.le_refl _) _
  have s1 : w1.heap.size = W.heap.size + 1 := by rw [← hw1]; simp
  have m1 : Blk w1 W.heap.size 35 [.int .i64 0, .string { data := #[] }, .string { data := #[] }, .int .i64 0, .int .i64 0] := by rw [← hw1]; exact Blk.new W _ _
  have k1 : Rdr w1 B (.slice a l.length cap) p ok := hk.below b1 hBl
  have c0 := k1.cell 0
  have c1 := k1.cell 1
  have c2 := k1.cell 2
  have x0 := m1.cell 0
  have x1 := m1.cell 1
  have x2 := m1.cell 2
  have x3 := m1.cell 3
  have x4 := m1.cell 4
  have g0 := m1.frozen 0
  have g1 := m1.frozen 1
  have g2 := m1.frozen 2
  have g3 := m1.frozen 3
  have g4 := m1.frozen 4
  simp only [List.getElem?_cons_zero, List.getElem?_cons_succ] at c0 c1 c2 x0 x1 x2 x3 x4
  cases ok
  · have HR := hide ((((((h.bel b1).set (g := W.heap.size) (by omega) (by omega) 0 (.int .i64 0)).set (g := W.heap.size) (by omega) (by omega) 1 (.string { data := #[] })).set (g := W.heap.size) (by omega) (by omega) 2 (.string { data := #[] })).set (g := W.heap.size) (by omega) (by omega) 3 (.int .i64 0)).set (g := W.heap.size) (by omega) (by omega) 4 (.int .i64 0))
    have HO : Hid (Below W.heap.size W (((((w1.setCell ⟨W.heap.size, 0, none⟩ (.int .i64 0)).setCell ⟨W.heap.size, 1, none⟩ (.string { data := #[] })).setCell ⟨W.heap.size, 2, none⟩ (.string { data := #[] })).setCell ⟨W.heap.size, 3, none⟩ (.int .i64 0)).setCell ⟨W.heap.size, 4, none⟩ (.int .i64 0))) := hide (b1.trans (below_put5 w1 W.heap.size _ _ _ _ _))
    clear h h2 h3 hk k1 m1 b1 c0 c1
    go_enter Tryz.func211, Tryz.ntmps211
    go_wp2
    refine bodyPost_ret (v := .agg #[.int .i64 0, .string { data := #[] }, .string { data := #[] }, .int .i64 0, .int .i64 0]) (by simp [results, Tryz.f211, go_sem, x0, x1, x2, x3, x4]) rfl ?_
    exact ⟨rfl, HR.out, Oth.of_below HO.out⟩
  · have hbd := getX_bd l p
    have HC := hide (fun V (hV : Below w1.heap.size w1 V) => implGetTx_any (.slice a l.length cap) l p V (h2.below ((h3.trans (b1.mono h3.size)).trans (hV.mono (Nat.le_trans h3.size b1.size))) (Nat.le_refl _)) h5 (by omega) (by omega))
    have HF : Hid (rX l (some p) = (getX l p).1 ∧ sX l (some p) = if (getX l p).2.2 = true then some (getX l p).2.1 else none) := hide ⟨rfl, rfl⟩
    have e0 : (if true = true then some p else none) = some p := rfl
    rw [e0] at h ⊢
    generalize rX l (some p) = R at HF ⊢
    generalize sX l (some p) = T at HF ⊢
    generalize getX l p = G at HC HF hbd
    obtain ⟨⟨kd, fr, tt, am, no⟩, q, o⟩ := G
    simp only [txV] at HC HF hbd
    have HS1 : Hid (∀ V, Below w1.heap.size w1 V → (V.cell? ⟨B, 0, none⟩ = some (.slice a l.length cap) ∧ V.cell? ⟨B, 1, none⟩ = some (.int .i64 p))) := hide (fun V hv => ⟨(hv.cell (p := ⟨B, 0, none⟩) (show B < w1.heap.size by omega)).trans c0, (hv.cell (p := ⟨B, 1, none⟩) (show B < w1.heap.size by omega)).trans c1⟩)
    have bD1 : Below w1.heap.size w1 w1.drew := (Below.refl _ w1).drew
    have bE1 : Below w1.heap.size w1 (w1.alloc (.cells #[.int .i64 0, .string { data := #[] }, .string { data := #[] }, .int .i64 0, .int .i64 0] 35)).drew := ((Below.refl _ w1).alloc (Nat.le_refl _) _).drew
    have nE1 : Blk (w1.alloc (.cells #[.int .i64 0, .string { data := #[] }, .string { data := #[] }, .int .i64 0, .int .i64 0] 35)).drew w1.heap.size 35 [.int .i64 0, .string { data := #[] }, .string { data := #[] }, .int .i64 0, .int .i64 0] := Blk.new w1 _ _
    have HK := hide k1
    have HM := hide m1
    have H2 := hide h2
    have H3 := hide h3
    have HB1 := hide b1
    have Hs1 := hide s1
    clear h h2 h3 hk k1 m1 b1 x0 x1 x2 x3 x4 g0 g1 g2 g3 g4 s1
    go_enter Tryz.func211, Tryz.ntmps211
    go_upto_region 3 with fail
    clear c0 c1 c2 hw1
    go_cut [3, 4, 5] (fun sp sq so wc => ∃ Ba : Nat, sp = .pointer (some ⟨Ba, 0, none⟩) ∧ sq = .int .i64 q ∧ so = .bool o ∧ Blk wc Ba 35 [.int .i64 kd, .string fr, .string tt, .int .i64 am, .int .i64 no] ∧ Below w1.heap.size w1 wc ∧ w1.heap.size ≤ Ba)
    case first =>
      go_region_held_law (fun w' => w'.cell? ⟨B, 0, none⟩ = some (.slice a l.length cap) ∧ w'.cell? ⟨B, 1, none⟩ = some (.int .i64 p)) ((refine HS1.out _ ?_; repeat (first | with_reducible exact bD1 | with_reducible exact bE1 | with_reducible exact cc1 | with_reducible exact Below.refl _ _ | refine Below.drew ?_ | refine Below.alloc ?_ (by first | omega | (simp; done) | (simp; omega)) _ | refine Below.setCell ?_ (by first | omega | (simp; done)) _))) ((first
        | (go_at_call 223; (with_reducible refine (HC.out w1.drew bD1).mono ?_); rintro en u1 ⟨rfl, hu1⟩; have cc1 := bD1.trans (hu1.mono bD1.size); have zz1 := cc1.size)
        | (go_at_call 223; (with_reducible refine (HC.out (w1.alloc (.cells #[.int .i64 0, .string { data := #[] }, .string { data := #[] }, .int .i64 0, .int .i64 0] 35)).drew bE1).mono ?_); rintro en u1 ⟨rfl, hu1⟩; have cc1 := bE1.trans (hu1.mono bE1.size); have zz1 := cc1.size; have nb1 := nE1.below hu1 nE1.lt; have n0 := nb1.cell 0; have n1 := nb1.cell 1; have n2 := nb1.cell 2; have n3 := nb1.cell 3; have n4 := nb1.cell 4; have m0 := nb1.frozen 0; have m1 := nb1.frozen 1; have m2 := nb1.frozen 2; have m3 := nb1.frozen 3; have m4 := nb1.frozen 4; simp only [List.getElem?_cons_zero, List.getElem?_cons_succ] at n0 n1 n2 n3 n4)))
      all_goals
        go_wp2_with fail
        go_meet
        case rel =>
          first
            | exact ⟨w1.heap.size, rfl, rfl, rfl, blk_put5 nb1 _ _ _ _ _, cc1.trans (below_put5 u1 w1.heap.size _ _ _ _ _), Nat.le_refl _⟩
            | exact ⟨u1.heap.size, rfl, rfl, rfl, Blk.new u1 _ _, cc1.alloc zz1 _, zz1⟩
    obtain ⟨w2, rfl⟩ : ∃ x, x = wc := ⟨_, rfl⟩
    obtain ⟨Ba, rfl, rfl, rfl, kA, bW, hBa⟩ := hcut
    have s1 := Hs1.out
    have k2 : Rdr w2 B (.slice a l.length cap) p true := HK.out.below bW (by omega)
    have m2 := HM.out.below bW (by omega)
    have y1 := k2.cell 1
    have y2 := k2.cell 2
    have f1 := k2.frozen 1
    have f2 := k2.frozen 2
    simp only [List.getElem?_cons_zero, List.getElem?_cons_succ] at y1 y2
    have k3 := blk_two5 k2 (.int .i64 q) (.bool o)
    have hAlt := kA.lt
    have kA3 := (kA.otherC B 1 (.int .i64 q) (by omega)).otherC B 2 (.bool o) (by omega)
    have m3 := (m2.otherC B 1 (.int .i64 q) (by omega)).otherC B 2 (.bool o) (by omega)
    obtain ⟨w3, hw3⟩ : ∃ x, (w2.setCell ⟨B, 1, none⟩ (.int .i64 q)).setCell ⟨B, 2, none⟩ (.bool o) = x := ⟨_, rfl⟩
    rw [hw3] at k3 kA3 m3
    have O3 : Oth (fun g => g = B) W w3 := by rw [← hw3]; exact ((Oth.of_below (S := fun g => g = B) (HB1.out.trans (bW.mono HB1.out.size))).set rfl 1 _).set rfl 2 _
    have s3 : W.heap.size < w3.heap.size := by rw [← hw3]; have := bW.size; simp; omega
    have HR3 : Rd9 w0 w3 B (.slice a l.length cap) l T := ⟨⟨q, o, k3, HF.out.2, hbd.1, hbd.2⟩, H2.out, low_of H3.out h4 O3, h4, h5⟩
    have a0 := kA3.cell 0
    have a1 := kA3.cell 1
    have a2 := kA3.cell 2
    have a3 := kA3.cell 3
    have a4 := kA3.cell 4
    have x0 := m3.cell 0
    have x1 := m3.cell 1
    have x2 := m3.cell 2
    have x3 := m3.cell 3
    have x4 := m3.cell 4
    have g0 := m3.frozen 0
    have g1 := m3.frozen 1
    have g2 := m3.frozen 2
    have g3 := m3.frozen 3
    have g4 := m3.frozen 4
    simp only [List.getElem?_cons_zero, List.getElem?_cons_succ] at a0 a1 a2 a3 a4 x0 x1 x2 x3 x4
    have HR := hide (((((HR3.set (g := W.heap.size) (by omega) (by omega) 0 (.int .i64 kd)).set (g := W.heap.size) (by omega) (by omega) 1 (.string fr)).set (g := W.heap.size) (by omega) (by omega) 2 (.string tt)).set (g := W.heap.size) (by omega) (by omega) 3 (.int .i64 am)).set (g := W.heap.size) (by omega) (by omega) 4 (.int .i64 no))
    have HO : Hid (Oth (fun g => g = B) W (((((w3.setCell ⟨W.heap.size, 0, none⟩ (.int .i64 kd)).setCell ⟨W.heap.size, 1, none⟩ (.string fr)).setCell ⟨W.heap.size, 2, none⟩ (.string tt)).setCell ⟨W.heap.size, 3, none⟩ (.int .i64 am)).setCell ⟨W.heap.size, 4, none⟩ (.int .i64 no))) := hide (by
      have h9 := below_put5 w3 W.heap.size (.int .i64 kd) (.string fr) (.string tt) (.int .i64 am) (.int .i64 no)
      exact ⟨h9.os.trans O3.os, h9.tape.trans O3.tape, h9.output.trans O3.output, Nat.le_trans O3.size h9.size, fun k hk ho => (h9.block k hk).trans (O3.block k hk ho)⟩)
    clear kA kA3 m2 m3 k2 k3 bW O3 HR3 hAlt s1
    go_wp2
    refine bodyPost_ret (v := .agg #[.int .i64 kd, .string fr, .string tt, .int .i64 am, .int .i64 no]) (by simp [results, Tryz.f211, go_sem, x0, x1, x2, x3, x4]) rfl ?_
    exact ⟨by rw [HF.out.1]; rfl, HR.out, HO.out⟩
end Go.Proofs.YtkjlmnhdmlolmaaGreatDoor

namespace Go.Proofs.YtkjlmnhdmlolmaaGreatDoor
open Go.RowKit
set_option linter.unusedVariables false

theorem Blk.oth {S : Nat → Prop} {W W' : World} {B : Nat} {t : TypeId} {cs : List Value} (h : Blk W B t cs) (O : Oth S W W') (hn : ¬ S B) : Blk W' B t cs := (O.block B h.lt hn).trans h
theorem Oth.tight {B : Nat} {W W' : World} (h : Oth (fun g => g = B ∨ W.heap.size ≤ g) W W') : Oth (fun g => g = B) W W' :=
  ⟨h.os, h.tape, h.output, h.size, fun k hk hn => h.block k hk (fun e => by rcases e with e | e; exact hn e; omega)⟩
theorem Oth.wide {B n : Nat} {W W' : World} (h : Oth (fun g => g = B) W W') : Oth (fun g => g = B ∨ n ≤ g) W W' := h.mono (fun _ e => .inl e)
theorem nil_ownI (base : Nat) (w : World) : OwnI base w (.slice none 0 0) [] := ⟨rfl, .inl ⟨rfl, rfl⟩⟩
theorem nil_ownT (base : Nat) (w : World) : OwnT base w (.slice none 0 0) [] := ⟨rfl, .inl ⟨rfl, rfl⟩⟩
theorem nil_ownV (base : Nat) (w : World) : OwnV base w (.slice none 0 0) [] := ⟨rfl, .inl ⟨rfl, rfl⟩⟩
set_option maxRecDepth 20000 in
set_option maxHeartbeats 2000000 in
theorem rdQc_any {w0 W : World} {B : Nat} {v : Value} {l : List UInt8} {s : St} (h : Rd9 w0 W B v l s) :
    Calls Tryz.prog 184 #[.pointer (some ⟨B, 0, none⟩)] W fun e W' => ∃ v', e = .returned (qcV (rN l s) (rN l (sN l s)) v') ∧ OwnS W.heap.size W' v' (rS l (sN l (sN l s))) ∧ Rd9 w0 W' B v l (sS l (sN l (sN l s))) ∧ Oth (fun g => g = B) W W' := by
  have hBl := h.lt
  have hlo := h.lo
  have HN := fun (V : World) (t : St) (hV : Rd9 w0 V B v l t) => rdNum_any hV
  have HS := fun (V : World) (t : St) (hV : Rd9 w0 V B v l t) => rdNames_any hV
  obtain ⟨w2, hw2⟩ : ∃ x, (W.alloc (.cells #[.int .i64 0, .int .i64 0, .slice none 0 0] 41)).alloc (.cells #[.int .i64 0, .int .i64 0, .slice none 0 0] 41) = x := ⟨_, rfl⟩
  have b2 : Below W.heap.size W w2 := by rw [← hw2]; exact ((Below.refl _ W).alloc (Nat.le_refl _) _).alloc (by simp) _
  have s2 : w2.heap.size = W.heap.size + 2 := by rw [← hw2]; simp
  have mR : Blk w2 W.heap.size 41 [.int .i64 0, .int .i64 0, .slice none 0 0] := by
    rw [← hw2]
    exact (Blk.new W 41 [.int .i64 0, .int .i64 0, .slice none 0 0]).below ((Below.refl (W.heap.size + 1) _).alloc (by simp) _) (by omega)
  have mQ : Blk w2 (W.heap.size + 1) 41 [.int .i64 0, .int .i64 0, .slice none 0 0] := by
    rw [← hw2]
    have h := Blk.new (W.alloc (.cells #[.int .i64 0, .int .i64 0, .slice none 0 0] 41)) 41 [.int .i64 0, .int .i64 0, .slice none 0 0]
    simp only [World.size_alloc] at h
    exact h
  have h2 := h.bel b2
  have O2 : Oth (fun g => g = B ∨ W.heap.size ≤ g) W w2 := Oth.of_below b2
  have Hs2 := hide s2
  clear h b2
  go_enter Tryz.func184, Tryz.ntmps184
  go_wp2_with fail
  refine (HN w2 s h2).mono ?_
  rintro e w3 ⟨rfl, h3, O3⟩
  have mR3 := mR.oth O3 (by omega)
  have mQ3 := mQ.oth O3 (by omega)
  have O3' := O2.trans O3.wide
  have q0 := mQ3.cell 0
  have f0 := mQ3.frozen 0
  simp only [List.getElem?_cons_zero] at q0
  have h4 := h3.set (g := W.heap.size + 1) (by omega) (by have := h3.low.size; omega) 0 (.int .i64 (rN l s))
  have mR4 := mR3.otherC (W.heap.size + 1) 0 (.int .i64 (rN l s)) (by omega)
  have mQ4 := mQ3.setC 0 (.int .i64 (rN l s))
  have O4 := O3'.set (g := W.heap.size + 1) (.inr (by omega)) 0 (.int .i64 (rN l s))
  simp only [List.set_cons_zero] at mQ4
  clear hw2 mR mQ h2 O2 h3 O3 mR3 mQ3 O3' s2
  go_wp2_with fail
  obtain ⟨w4, hw4⟩ : ∃ x, w3.setCell ⟨W.heap.size + 1, 0, none⟩ (.int .i64 (rN l s)) = x := ⟨_, rfl⟩
  rw [hw4] at h4 mR4 mQ4 O4 ⊢
  refine (HN w4 _ h4).mono ?_
  rintro e w5 ⟨rfl, h5, O5⟩
  have mR5 := mR4.oth O5 (by omega)
  have mQ5 := mQ4.oth O5 (by omega)
  have O5' := O4.trans O5.wide
  have q1 := mQ5.cell 1
  have f1 := mQ5.frozen 1
  simp only [List.getElem?_cons_zero, List.getElem?_cons_succ] at q1
  have h6 := h5.set (g := W.heap.size + 1) (by omega) (by omega) 1 (.int .i64 (rN l (sN l s)))
  have mR6 := mR5.otherC (W.heap.size + 1) 1 (.int .i64 (rN l (sN l s))) (by omega)
  have mQ6 := mQ5.setC 1 (.int .i64 (rN l (sN l s)))
  have O6 := O5'.set (g := W.heap.size + 1) (.inr (by omega)) 1 (.int .i64 (rN l (sN l s)))
  simp only [List.set_cons_zero, List.set_cons_succ] at mQ6
  clear hw4 mR4 mQ4 h4 O4 h5 O5 mR5 mQ5 O5' q0 f0
  go_wp2_with fail
  obtain ⟨w6, hw6⟩ : ∃ x, w5.setCell ⟨W.heap.size + 1, 1, none⟩ (.int .i64 (rN l (sN l s))) = x := ⟨_, rfl⟩
  rw [hw6] at h6 mR6 mQ6 O6 ⊢
  have z6 := mQ6.lt
  refine (HS w6 _ h6).mono ?_
  rintro e w7 ⟨v7, rfl, o7, h7, O7⟩
  obtain ⟨a7, c7, rfl⟩ := o7.rd.shape
  have mR7 := mR6.oth O7 (by omega)
  have mQ7 := mQ6.oth O7 (by omega)
  have O7' := O6.trans O7.wide
  have q2 := mQ7.cell 2
  have f2 := mQ7.frozen 2
  simp only [List.getElem?_cons_zero, List.getElem?_cons_succ] at q2
  have h8 := h7.set (g := W.heap.size + 1) (by omega) (by omega) 2 (.slice a7 (rS l (sN l (sN l s))).length c7)
  have mR8 := mR7.otherC (W.heap.size + 1) 2 (.slice a7 (rS l (sN l (sN l s))).length c7) (by omega)
  have mQ8 := mQ7.setC 2 (.slice a7 (rS l (sN l (sN l s))).length c7)
  have O8 := O7'.set (g := W.heap.size + 1) (.inr (by omega)) 2 (.slice a7 (rS l (sN l (sN l s))).length c7)
  have o8 := o7.olderC (g := W.heap.size + 1) z6 2 (.slice a7 (rS l (sN l (sN l s))).length c7)
  simp only [List.set_cons_zero, List.set_cons_succ] at mQ8
  obtain ⟨w8, hw8⟩ : ∃ x, w7.setCell ⟨W.heap.size + 1, 2, none⟩ (.slice a7 (rS l (sN l (sN l s))).length c7) = x := ⟨_, rfl⟩
  rw [hw8] at h8 mR8 mQ8 O8 o8
  have a0 := mQ8.cell 0
  have a1 := mQ8.cell 1
  have a2 := mQ8.cell 2
  have x0 := mR8.cell 0
  have x1 := mR8.cell 1
  have x2 := mR8.cell 2
  have g0 := mR8.frozen 0
  have g1 := mR8.frozen 1
  have g2 := mR8.frozen 2
  simp only [List.getElem?_cons_zero, List.getElem?_cons_succ] at a0 a1 a2 x0 x1 x2
  have HR := hide (((h8.set (g := W.heap.size) (by omega) (by omega) 0 (.int .i64 (rN l s))).set (g := W.heap.size) (by omega) (by omega) 1 (.int .i64 (rN l (sN l s)))).set (g := W.heap.size) (by omega) (by omega) 2 (.slice a7 (rS l (sN l (sN l s))).length c7))
  have HO := hide (((O8.set (g := W.heap.size) (.inr (by omega)) 0 (.int .i64 (rN l s))).set (g := W.heap.size) (.inr (by omega)) 1 (.int .i64 (rN l (sN l s)))).set (g := W.heap.size) (.inr (by omega)) 2 (.slice a7 (rS l (sN l (sN l s))).length c7)).tight
  have Hown : Hid (OwnS W.heap.size (((w8.setCell ⟨W.heap.size, 0, none⟩ (.int .i64 (rN l s))).setCell ⟨W.heap.size, 1, none⟩ (.int .i64 (rN l (sN l s)))).setCell ⟨W.heap.size, 2, none⟩ (.slice a7 (rS l (sN l (sN l s))).length c7)) (.slice a7 (rS l (sN l (sN l s))).length c7) (rS l (sN l (sN l s)))) := hide (OwnS.mono (((o8.olderC (g := W.heap.size) (by omega) 0 (.int .i64 (rN l s))).olderC (g := W.heap.size) (by omega) 1 (.int .i64 (rN l (sN l s)))).olderC (g := W.heap.size) (by omega) 2 (.slice a7 (rS l (sN l (sN l s))).length c7)) (show W.heap.size ≤ w6.heap.size by omega))
  clear hw6 mR6 mQ6 h6 O6 h7 O7 mR7 mQ7 O7' q1 f1 mR8 mQ8 h8 O8 o7 o8
  go_wp2
  refine bodyPost_ret (v := .agg #[.int .i64 (rN l s), .int .i64 (rN l (sN l s)), .slice a7 (rS l (sN l (sN l s))).length c7]) (by simp [results, Tryz.f184, go_sem, x0, x1, x2]) rfl ?_
  exact ⟨_, rfl, Hown.out, HR.out, HO.out⟩
end Go.Proofs.YtkjlmnhdmlolmaaGreatDoor

namespace Go.Proofs.YtkjlmnhdmlolmaaGreatDoor
open Go.RowKit
set_option linter.unusedVariables false

theorem getN_zero (l : List UInt8) (p : Int) : (getN l p).2.2 = false → (getN l p).1 = 0 := by
  unfold getN
  split
  · split
    · intro _; rfl
    · split
      · intro _; rfl
      · intro h; cases h
  · intro _; rfl
theorem getT_zero (l : List UInt8) (p : Int) : (getT l p).2.2 = false → (getT l p).1 = [] := by
  unfold getT
  split
  · intro h; cases h
  · intro _; rfl
theorem getNs_zero (l : List UInt8) (p : Int) : (getNs l p).2.2 = false → (getNs l p).1 = [] := by
  unfold getNs
  split
  · split
    · intro _; rfl
    · intro h; cases h
  · intro _; rfl
/-- The model's reader in block B is at s, over the bytes l. -/
def Spr (W : World) (B : Nat) (v : Value) (p : Int) (bad : Bool) : Prop := Blk W B 104 [v, .int .i64 p, .bool bad]
structure Sp9 (w0 W : World) (B : Nat) (v : Value) (l : List UInt8) (s : St) : Prop where
  blk : ∃ p bad, Spr W B v p bad ∧ s = (if bad = true then none else some p) ∧ 0 ≤ p ∧ p ≤ l.length
  rd : RdB w0 v l
  low : Below w0.heap.size w0 W
  lo : w0.heap.size ≤ B
  few : l.length ≤ 4000000
theorem Sp9.lt {w0 W : World} {B : Nat} {v : Value} {l : List UInt8} {s : St} (h : Sp9 w0 W B v l s) : B < W.heap.size := by
  obtain ⟨p, ok, hk, -⟩ := h.blk
  exact Blk.lt hk
theorem Sp9.oth {w0 W W' : World} {B : Nat} {v : Value} {l : List UInt8} {s : St} {S : Nat → Prop} (h : Sp9 w0 W B v l s) (O : Oth S W W') (hS : ∀ g, S g → g ≠ B ∧ w0.heap.size ≤ g) : Sp9 w0 W' B v l s := by
  obtain ⟨⟨p, ok, hk, h1⟩, h2, h3, h4, h5⟩ := h
  refine ⟨⟨p, ok, (O.block B (Blk.lt hk) (fun e => (hS B e).1 rfl)).trans hk, h1⟩, h2, h3.trans (O.below (fun g e => (hS g e).2) h3.size), h4, h5⟩
theorem Sp9.bel {w0 W W' : World} {B : Nat} {v : Value} {l : List UInt8} {s : St} (h : Sp9 w0 W B v l s) (hb : Below W.heap.size W W') : Sp9 w0 W' B v l s := h.oth (S := fun _ => False) (Oth.of_below hb) (fun _ e => e.elim)
theorem Sp9.al {w0 W : World} {B : Nat} {v : Value} {l : List UInt8} {s : St} (h : Sp9 w0 W B v l s) (o : Obj) : Sp9 w0 (W.alloc o) B v l s := h.bel ((Below.refl _ W).alloc (Nat.le_refl _) o)
theorem Sp9.set {w0 W : World} {B : Nat} {v : Value} {l : List UInt8} {s : St} (h : Sp9 w0 W B v l s) {g : Nat} (hg : g ≠ B) (hl : w0.heap.size ≤ g) (j : Nat) (u : Value) : Sp9 w0 (W.setCell ⟨g, j, none⟩ u) B v l s :=
  h.oth (S := fun k => k = g) (Oth.of_grown (grown_set W g j u) (fun k e => by cases e; rfl)) (fun k e => by subst e; exact ⟨hg, hl⟩)
theorem Sp9.none_set {w0 W : World} {B : Nat} {v : Value} {l : List UInt8} {p : Int} {bad : Bool} (hk : Spr W B v p bad) (h0 : 0 ≤ p) (h1 : p ≤ l.length) (h2 : RdB w0 v l) (h3 : Below w0.heap.size w0 W) (h4 : w0.heap.size ≤ B) (h5 : l.length ≤ 4000000) : Sp9 w0 (W.setCell ⟨B, 2, none⟩ (.bool true)) B v l none :=
  ⟨⟨p, true, Blk.setC hk 2 (.bool true), rfl, h0, h1⟩, h2, low_of h3 h4 ((Oth.refl (fun g => g = B) W).set rfl 2 _), h4, h5⟩
theorem Sp9.at_set {w0 W : World} {B : Nat} {v : Value} {l : List UInt8} {p q : Int} (hk : Spr W B v p false) (h0 : 0 ≤ q) (h1 : q ≤ l.length) (h2 : RdB w0 v l) (h3 : Below w0.heap.size w0 W) (h4 : w0.heap.size ≤ B) (h5 : l.length ≤ 4000000) : Sp9 w0 (W.setCell ⟨B, 1, none⟩ (.int .i64 q)) B v l (some q) :=
  ⟨⟨q, false, Blk.setC hk 1 (.int .i64 q), rfl, h0, h1⟩, h2, low_of h3 h4 ((Oth.refl (fun g => g = B) W).set rfl 1 _), h4, h5⟩
theorem Sp9.stay_bad {w0 W : World} {B : Nat} {v : Value} {l : List UInt8} {p : Int} (hk : Spr W B v p true) (h0 : 0 ≤ p) (h1 : p ≤ l.length) (h2 : RdB w0 v l) (h3 : Below w0.heap.size w0 W) (h4 : w0.heap.size ≤ B) (h5 : l.length ≤ 4000000) : Sp9 w0 W B v l none :=
  ⟨⟨p, true, hk, rfl, h0, h1⟩, h2, h3, h4, h5⟩
set_option maxRecDepth 20000 in
set_option maxHeartbeats 2000000 in
theorem spNum_any {w0 W : World} {B : Nat} {v : Value} {l : List UInt8} {s : St} (h : Sp9 w0 W B v l s) :
    Calls Tryz.prog 72 #[.pointer (some ⟨B, 0, none⟩)] W fun e W' => e = .returned (.int .i64 (rN l s)) ∧ Sp9 w0 W' B v l (sN l s) ∧ Oth (fun g => g = B) W W' := by
  obtain ⟨⟨p, bad, hk, hs, h0, h1⟩, h2, h3, h4, h5⟩ := h
  obtain ⟨a, cap, rfl⟩ := h2.shape
  have hrW := h2.below h3 (Nat.le_refl _)
  have HC : Hid (∀ d : Nat, Calls Tryz.prog 142 #[.slice a l.length cap, .int .i64 p] (W.drewN d) fun e w' => e = .returned (tri (getN l p)) ∧ w' = W.drewN d) := hide (fun d => specGetNum_any _ l p _ (hrW.below (below_drewN5 W d) (Nat.le_refl _)) h5 (by omega) (by omega))
  have HF : Hid (rN l (some p) = (getN l p).1 ∧ sN l (some p) = if (getN l p).2.2 = true then some (getN l p).2.1 else none) := hide ⟨rfl, rfl⟩
  have hbd := (getN_bd l p).2.2
  have hz := getN_zero l p
  have c0 := Blk.cell hk 0
  have c1 := Blk.cell hk 1
  have c2 := Blk.cell hk 2
  have f1 := Blk.frozen hk 1
  have f2 := Blk.frozen hk 2
  simp only [List.getElem?_cons_zero, List.getElem?_cons_succ] at c0 c1 c2
  subst hs
  generalize getN l p = G at HC HF hbd hz
  obtain ⟨n, x, o⟩ := G
  simp only [tri] at HC HF hbd hz
  clear hrW
  cases bad
  · have e0 : (if false = true then (none : St) else some p) = some p := rfl
    rw [e0, HF.out.1, HF.out.2]
    cases o
    · have hn : n = 0 := hz rfl
      subst hn
      have HR := fun W' (hW : Spr W' B (.slice a l.length cap) p false) (hb : Below w0.heap.size w0 W') => Sp9.none_set (l := l) hW h0 h1 h2 hb h4 h5
      have HK := hide hk
      have H3 := hide h3
      clear hk h2 h3
      go_enter Tryz.func72, Tryz.ntmps72
      go_wp2
      go_quiet ((go_at_call 142; exact Calls.quiet_of_same (HC.out _)))
      go_wp2
      go_ret
      exact ⟨rfl, HR _ HK.out (H3.out.trans (below_drewN (Below.refl _ _) _)), ((Oth.of_below (S := fun g => g = B) (below_drewN5 W _)).set rfl 2 _)⟩
    · have HR := fun W' (hW : Spr W' B (.slice a l.length cap) p false) (hb : Below w0.heap.size w0 W') => Sp9.at_set (l := l) hW hbd.1 hbd.2 h2 hb h4 h5
      have HK := hide hk
      have H3 := hide h3
      clear hk h2 h3
      go_enter Tryz.func72, Tryz.ntmps72
      go_wp2
      go_quiet ((go_at_call 142; exact Calls.quiet_of_same (HC.out _)))
      go_wp2
      go_ret
      exact ⟨rfl, HR _ HK.out (H3.out.trans (below_drewN (Below.refl _ _) _)), ((Oth.of_below (S := fun g => g = B) (below_drewN5 W _)).set rfl 1 _)⟩
  · have HR := fun W' (hW : Spr W' B (.slice a l.length cap) p true) (hb : Below w0.heap.size w0 W') => Sp9.none_set (l := l) hW h0 h1 h2 hb h4 h5
    have HK := hide hk
    have H3 := hide h3
    clear hk h2 h3
    go_enter Tryz.func72, Tryz.ntmps72
    go_wp2
    go_quiet ((go_at_call 142; exact Calls.quiet_of_same (HC.out _)))
    go_wp2
    go_ret
    exact ⟨rfl, HR _ HK.out (H3.out.trans (below_drewN (Below.refl _ _) _)), ((Oth.of_below (S := fun g => g = B) (below_drewN5 W _)).set rfl 2 _)⟩
set_option maxRecDepth 20000 in
set_option maxHeartbeats 2000000 in
theorem spText_any {w0 W : World} {B : Nat} {v : Value} {l : List UInt8} {s : St} (h : Sp9 w0 W B v l s) :
    Calls Tryz.prog 73 #[.pointer (some ⟨B, 0, none⟩)] W fun e W' => e = .returned (.string (rT l s)) ∧ Sp9 w0 W' B v l (sT l s) ∧ Oth (fun g => g = B) W W' := by
  obtain ⟨⟨p, bad, hk, hs, h0, h1⟩, h2, h3, h4, h5⟩ := h
  obtain ⟨a, cap, rfl⟩ := h2.shape
  have hrW := h2.below h3 (Nat.le_refl _)
  have HC : Hid (∀ d : Nat, Calls Tryz.prog 143 #[.slice a l.length cap, .int .i64 p] (W.drewN d) fun e w' => e = .returned (trs (getT l p)) ∧ w' = W.drewN d) := hide (fun d => specGetText_any _ l p _ (hrW.below (below_drewN5 W d) (Nat.le_refl _)) h5 (by omega) (by omega))
  have HF : Hid (rT l (some p) = ⟨(getT l p).1.toArray⟩ ∧ sT l (some p) = if (getT l p).2.2 = true then some (getT l p).2.1 else none) := hide ⟨rfl, rfl⟩
  have hbd := getT_bd l p
  have hz := getT_zero l p
  have c0 := Blk.cell hk 0
  have c1 := Blk.cell hk 1
  have c2 := Blk.cell hk 2
  have f1 := Blk.frozen hk 1
  have f2 := Blk.frozen hk 2
  simp only [List.getElem?_cons_zero, List.getElem?_cons_succ] at c0 c1 c2
  subst hs
  generalize getT l p = G at HC HF hbd hz
  obtain ⟨n, x, o⟩ := G
  simp only [trs] at HC HF hbd hz
  clear hrW
  cases bad
  · have e0 : (if false = true then (none : St) else some p) = some p := rfl
    rw [e0, HF.out.1, HF.out.2]
    cases o
    · have hn : n = [] := hz rfl
      subst hn
      have HR := fun W' (hW : Spr W' B (.slice a l.length cap) p false) (hb : Below w0.heap.size w0 W') => Sp9.none_set (l := l) hW h0 h1 h2 hb h4 h5
      have HK := hide hk
      have H3 := hide h3
      clear hk h2 h3
      go_enter Tryz.func73, Tryz.ntmps73
      go_wp2
      go_quiet ((go_at_call 143; exact Calls.quiet_of_same (HC.out _)))
      go_wp2
      go_ret
      exact ⟨rfl, HR _ HK.out (H3.out.trans (below_drewN (Below.refl _ _) _)), ((Oth.of_below (S := fun g => g = B) (below_drewN5 W _)).set rfl 2 _)⟩
    · have HR := fun W' (hW : Spr W' B (.slice a l.length cap) p false) (hb : Below w0.heap.size w0 W') => Sp9.at_set (l := l) hW hbd.1 hbd.2 h2 hb h4 h5
      have HK := hide hk
      have H3 := hide h3
      clear hk h2 h3
      go_enter Tryz.func73, Tryz.ntmps73
      go_wp2
      go_quiet ((go_at_call 143; exact Calls.quiet_of_same (HC.out _)))
      go_wp2
      go_ret
      exact ⟨rfl, HR _ HK.out (H3.out.trans (below_drewN (Below.refl _ _) _)), ((Oth.of_below (S := fun g => g = B) (below_drewN5 W _)).set rfl 1 _)⟩
  · have HR := fun W' (hW : Spr W' B (.slice a l.length cap) p true) (hb : Below w0.heap.size w0 W') => Sp9.none_set (l := l) hW h0 h1 h2 hb h4 h5
    have HK := hide hk
    have H3 := hide h3
    clear hk h2 h3
    go_enter Tryz.func73, Tryz.ntmps73
    go_wp2
    go_quiet ((go_at_call 143; exact Calls.quiet_of_same (HC.out _)))
    go_wp2
    go_ret
    exact ⟨rfl, HR _ HK.out (H3.out.trans (below_drewN (Below.refl _ _) _)), ((Oth.of_below (S := fun g => g = B) (below_drewN5 W _)).set rfl 2 _)⟩
set_option maxRecDepth 20000 in
set_option maxHeartbeats 2000000 in
theorem spNames_any {w0 W : World} {B : Nat} {v : Value} {l : List UInt8} {s : St} (h : Sp9 w0 W B v l s) :
    Calls Tryz.prog 74 #[.pointer (some ⟨B, 0, none⟩)] W fun e W' => ∃ v', e = .returned v' ∧ OwnS W.heap.size W' v' (rS l s) ∧ Sp9 w0 W' B v l (sS l s) ∧ Oth (fun g => g = B) W W' := by
  have hBl := h.lt
  obtain ⟨⟨p, bad, hk, hs, h0, h1⟩, h2, h3, h4, h5⟩ := h
  obtain ⟨a, cap, rfl⟩ := h2.shape
  have HC := hide (fun V (hV : Below W.heap.size W V) => specGetNames_any (.slice a l.length cap) l p V (h2.below (h3.trans (hV.mono h3.size)) (Nat.le_refl _)) h5 (by omega) (by omega))
  have HF : Hid (rS l (some p) = (getNs l p).1 ∧ sS l (some p) = if (getNs l p).2.2 = true then some (getNs l p).2.1 else none) := hide ⟨rfl, rfl⟩
  have hbd := getNs_bd l p
  have hz := getNs_zero l p
  have c0 := Blk.cell hk 0
  have c1 := Blk.cell hk 1
  simp only [List.getElem?_cons_zero, List.getElem?_cons_succ] at c0 c1
  have HS : Hid (∀ V, Below W.heap.size W V → V.cell? ⟨B, 0, none⟩ = some (.slice a l.length cap) ∧ V.cell? ⟨B, 1, none⟩ = some (.int .i64 p)) := hide (fun V hV => ⟨(hV.cell (p := ⟨B, 0, none⟩) hBl).trans c0, (hV.cell (p := ⟨B, 1, none⟩) hBl).trans c1⟩)
  have bD : Below W.heap.size W W.drew := (Below.refl _ W).drew
  have HK := hide hk
  have H2 := hide h2
  have H3 := hide h3
  generalize getNs l p = G at HC HF hbd hz
  obtain ⟨ns, q, o⟩ := G
  simp only at HC HF hbd hz
  clear hk h2 h3
  subst hs
  have hdl : W.drew.heap.size = W.heap.size := rfl
  cases bad
  · have e0 : (if false = true then (none : St) else some p) = some p := rfl
    rw [e0, HF.out.1, HF.out.2]
    go_enter Tryz.func74, Tryz.ntmps74
    go_wp2
    clear c0 c1
    go_region_held_law (fun w' => w'.cell? ⟨B, 0, none⟩ = some (.slice a l.length cap) ∧ w'.cell? ⟨B, 1, none⟩ = some (.int .i64 p)) ((refine HS.out _ ?_; repeat (first | with_reducible exact bD | with_reducible exact c2 | with_reducible exact Below.refl _ _ | refine Below.drew ?_)))
      ((go_at_call 144; (with_reducible refine (HC.out _ bD).mono ?_); rintro e w2 ⟨v2, rfl, ho2, hb2⟩; have c2 := bD.trans (hb2.mono bD.size)))
    have k2 : Spr w2 B (.slice a l.length cap) p false := Blk.below HK.out c2 hBl
    have x1 := Blk.cell k2 1
    have x2 := Blk.cell k2 2
    have f1 := Blk.frozen k2 1
    have f2 := Blk.frozen k2 2
    simp only [List.getElem?_cons_zero, List.getElem?_cons_succ] at x1 x2
    obtain ⟨a2, c2', rfl⟩ := ho2.rd.shape
    have z2 := c2.size
    have hlow := H3.out.trans (c2.mono H3.out.size)
    cases o
    · have hn : ns = [] := hz rfl
      subst hn
      have HR := hide ((Sp9.none_set (l := l) k2 h0 h1 H2.out hlow h4 h5).al (.cells #[] 9))
      have HO := hide (((Oth.of_below (S := fun g => g = B) c2).set rfl 2 (.bool true)).trans (Oth.of_below ((Below.refl _ (w2.setCell ⟨B, 2, none⟩ (.bool true))).alloc (Nat.le_refl _) (.cells #[] 9))))
      have HW := hide (own_nilS (w2.setCell ⟨B, 2, none⟩ (.bool true)) W.heap.size (by simp; omega))
      clear k2 ho2 hb2 c2 hlow
      go_wp2
      go_ret
      exact ⟨_, rfl, by simpa using HW.out, HR.out, HO.out⟩
    · have HR := hide (Sp9.at_set (l := l) k2 hbd.1 hbd.2 H2.out hlow h4 h5)
      have HO := hide ((Oth.of_below (S := fun g => g = B) c2).set rfl 1 (.int .i64 q))
      have HW : Hid (OwnS W.heap.size (w2.setCell ⟨B, 1, none⟩ (.int .i64 q)) (.slice a2 ns.length c2') ns) := hide (OwnS.olderC ho2 (by rw [hdl]; exact hBl) 1 _)
      clear k2 ho2 hb2 c2 hlow
      go_wp2
      go_ret
      exact ⟨_, rfl, HW.out, HR.out, HO.out⟩
  · go_enter Tryz.func74, Tryz.ntmps74
    go_wp2
    clear c0 c1
    go_region_held_law (fun w' => w'.cell? ⟨B, 0, none⟩ = some (.slice a l.length cap) ∧ w'.cell? ⟨B, 1, none⟩ = some (.int .i64 p)) ((refine HS.out _ ?_; repeat (first | with_reducible exact bD | with_reducible exact c2 | with_reducible exact Below.refl _ _ | refine Below.drew ?_)))
      ((go_at_call 144; (with_reducible refine (HC.out _ bD).mono ?_); rintro e w2 ⟨v2, rfl, ho2, hb2⟩; have c2 := bD.trans (hb2.mono bD.size)))
    have k2 : Spr w2 B (.slice a l.length cap) p true := Blk.below HK.out c2 hBl
    have x2 := Blk.cell k2 2
    have f2 := Blk.frozen k2 2
    simp only [List.getElem?_cons_zero, List.getElem?_cons_succ] at x2
    have z2 := c2.size
    have hlow := H3.out.trans (c2.mono H3.out.size)
    have HR := hide ((Sp9.none_set (l := l) k2 h0 h1 H2.out hlow h4 h5).al (.cells #[] 9))
    have HO := hide (((Oth.of_below (S := fun g => g = B) c2).set rfl 2 (.bool true)).trans (Oth.of_below ((Below.refl _ (w2.setCell ⟨B, 2, none⟩ (.bool true))).alloc (Nat.le_refl _) (.cells #[] 9))))
    have HW := hide (own_nilS (w2.setCell ⟨B, 2, none⟩ (.bool true)) W.heap.size (by simp; omega))
    clear k2 ho2 hb2 c2 hlow
    go_wp2
    go_ret
    exact ⟨_, rfl, by simpa [rS] using HW.out, HR.out, HO.out⟩
end Go.Proofs.YtkjlmnhdmlolmaaGreatDoor
