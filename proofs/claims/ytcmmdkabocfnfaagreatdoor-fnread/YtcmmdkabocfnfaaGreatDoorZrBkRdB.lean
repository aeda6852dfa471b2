/- The landed code's reader: an order, a certificate. -/
import Derived.Test.YtcmmdkabocfnfaaGreatDoorZrBkRdA
import Derived.Test.YtcmmdkabocfnfaaGreatDoorZrTxBlk
import Derived.Test.YtcmmdkabocfnfaaGreatDoorZrDrawTx5
import Derived.Deep.DeepCutAuto
import Derived.Deep.RegionHeldLaw
namespace Go.Proofs.YtcmmdkabocfnfaaGreatDoor
open Go.RowKit
set_option linter.unusedVariables false

theorem txV0 : txV tx0 = .agg #[.int .i64 0, .string { data := #[] }, .string { data := #[] }, .int .i64 0, .int .i64 0] := rfl
set_option maxRecDepth 20000 in
set_option maxHeartbeats 2000000 in
theorem rdTx_any {w0 W : World} {B : Nat} {v : Value} {l : List UInt8} {s : St} (h : Rd9 w0 W B v l s) :
    Calls Tryz.prog 144 #[.pointer (some ⟨B, 0, none⟩)] W fun e W' => e = .returned (txV (rX l s)) ∧ Rd9 w0 W' B v l (sX l s) ∧ Oth (fun g => g = B) W W' := by
  have h' := h
  have hBl := h.lt
  obtain ⟨⟨p, ok, hk, hs, h0, h1⟩, h2, h3, h4, h5⟩ := h'
  obtain ⟨a, cap, rfl⟩ := h2.shape
  subst hs
  obtain ⟨w1, hw1⟩ : ∃ x, W.alloc (.cells #[.int .i64 0, .string { data := #[] }, .string { data := #[] }, .int .i64 0, .int .i64 0] 52) = x := ⟨_, rfl⟩
  have b1 : Below W.heap.size W w1 := by rw [← hw1]; exact (Below.refl _ W).alloc (Nat.le_refl _) _
  have s1 : w1.heap.size = W.heap.size + 1 := by rw [← hw1]; simp
  have m1 : Blk w1 W.heap.size 52 [.int .i64 0, .string { data := #[] }, .string { data := #[] }, .int .i64 0, .int .i64 0] := by rw [← hw1]; exact Blk.new W _ _
  have k1 : Rdr w1 B (.slice a l.length cap) p ok := hk.below b1 hBl
  have c0 := k1.cell 0
  have c1 := k1.cell 1
  have c2 := k1.cell 2
  have x0 := m1.cell 0
  have x1 := m1.cell 1
  have x2 := m1.cell 2
  have x3 := m1.cell 3
  have x4 := m1.cell 4
  have g0 := m1.frozen 0
  have g1 := m1.frozen 1
  have g2 := m1.frozen 2
  have g3 := m1.frozen 3
  have g4 := m1.frozen 4
  simp only [List.getElem?_cons_zero, List.getElem?_cons_succ] at c0 c1 c2 x0 x1 x2 x3 x4
  cases ok
  · have HR := hide ((((((h.bel b1).set (g := W.heap.size) (by omega) (by omega) 0 (.int .i64 0)).set (g := W.heap.size) (by omega) (by omega) 1 (.string { data := #[] })).set (g := W.heap.size) (by omega) (by omega) 2 (.string { data := #[] })).set (g := W.heap.size) (by omega) (by omega) 3 (.int .i64 0)).set (g := W.heap.size) (by omega) (by omega) 4 (.int .i64 0))
    have HO : Hid (Below W.heap.size W (((((w1.setCell ⟨W.heap.size, 0, none⟩ (.int .i64 0)).setCell ⟨W.heap.size, 1, none⟩ (.string { data := #[] })).setCell ⟨W.heap.size, 2, none⟩ (.string { data := #[] })).setCell ⟨W.heap.size, 3, none⟩ (.int .i64 0)).setCell ⟨W.heap.size, 4, none⟩ (.int .i64 0))) := hide (b1.trans (below_put5 w1 W.heap.size _ _ _ _ _))
    clear h h2 h3 hk k1 m1 b1 c0 c1
    go_enter Tryz.func144, Tryz.ntmps144
    go_wp2
    refine bodyPost_ret (v := .agg #[.int .i64 0, .string { data := #[] }, .string { data := #[] }, .int .i64 0, .int .i64 0]) (by simp [results, Tryz.f144, go_sem, x0, x1, x2, x3, x4]) rfl ?_
    exact ⟨rfl, HR.out, Oth.of_below HO.out⟩
  · have hbd := getX_bd l p
    have HC := hide (fun V (hV : Below w1.heap.size w1 V) => implGetTx_any (.slice a l.length cap) l p V (h2.below ((h3.trans (b1.mono h3.size)).trans (hV.mono (Nat.le_trans h3.size b1.size))) (Nat.le_refl _)) h5 (by omega) (by omega))
    have HF : Hid (rX l (some p) = (getX l p).1 ∧ sX l (some p) = if (getX l p).2.2 = true then some (getX l p).2.1 else none) := hide ⟨rfl, rfl⟩
    have e0 : (if true = true then some p else none) = some p := rfl
    rw [e0] at h ⊢
    generalize rX l (some p) = R at HF ⊢
    generalize sX l (some p) = T at HF ⊢
    generalize getX l p = G at HC HF hbd
    obtain ⟨⟨kd, fr, tt, am, no⟩, q, o⟩ := G
    simp only [txV] at HC HF hbd
    have HS1 : Hid (∀ V, Below w1.heap.size w1 V → (V.cell? ⟨B, 0, none⟩ = some (.slice a l.length cap) ∧ V.cell? ⟨B, 1, none⟩ = some (.int .i64 p))) := hide (fun V hv => ⟨(hv.cell (p := ⟨B, 0, none⟩) (show B < w1.heap.size by omega)).trans c0, (hv.cell (p := ⟨B, 1, none⟩) (show B < w1.heap.size by omega)).trans c1⟩)
    have bD1 : Below w1.heap.size w1 w1.drew := (Below.refl _ w1).drew
    have bE1 : Below w1.heap.size w1 (w1.alloc (.cells #[.int .i64 0, .string { data := #[] }, .string { data := #[] }, .int .i64 0, .int .i64 0] 52)).drew := ((Below.refl _ w1).alloc (Nat.le_refl _) _).drew
    have nE1 : Blk (w1.alloc (.cells #[.int .i64 0, .string { data := #[] }, .string { data := #[] }, .int .i64 0, .int .i64 0] 52)).drew w1.heap.size 52 [.int .i64 0, .string { data := #[] }, .string { data := #[] }, .int .i64 0, .int .i64 0] := Blk.new w1 _ _
    have HK := hide k1
    have HM := hide m1
    have H2 := hide h2
    have H3 := hide h3
    have HB1 := hide b1
    have Hs1 := hide s1
    clear h h2 h3 hk k1 m1 b1 x0 x1 x2 x3 x4 g0 g1 g2 g3 g4 s1
    go_enter Tryz.func144, Tryz.ntmps144
    go_upto_region 3 with fail
    clear c0 c1 c2 hw1
    go_cut [3, 4, 5] (fun sp sq so wc => ∃ Ba : Nat, sp = .pointer (some ⟨Ba, 0, none⟩) ∧ sq = .int .i64 q ∧ so = .bool o ∧ Blk wc Ba 52 [.int .i64 kd, .string fr, .string tt, .int .i64 am, .int .i64 no] ∧ Below w1.heap.size w1 wc ∧ w1.heap.size ≤ Ba)
    case first =>
      go_region_held_law (fun w' => w'.cell? ⟨B, 0, none⟩ = some (.slice a l.length cap) ∧ w'.cell? ⟨B, 1, none⟩ = some (.int .i64 p)) ((refine HS1.out _ ?_; repeat (first | with_reducible exact bD1 | with_reducible exact bE1 | with_reducible exact cc1 | with_reducible exact Below.refl _ _ | refine Below.drew ?_ | refine Below.alloc ?_ (by first | omega | (simp; done) | (simp; omega)) _ | refine Below.setCell ?_ (by first | omega | (simp; done)) _))) ((first
        | (go_at_call 154; (with_reducible refine (HC.out w1.drew bD1).mono ?_); rintro en u1 ⟨rfl, hu1⟩; have cc1 := bD1.trans (hu1.mono bD1.size); have zz1 := cc1.size)
        | (go_at_call 154; (with_reducible refine (HC.out (w1.alloc (.cells #[.int .i64 0, .string { data := #[] }, .string { data := #[] }, .int .i64 0, .int .i64 0] 52)).drew bE1).mono ?_); rintro en u1 ⟨rfl, hu1⟩; have cc1 := bE1.trans (hu1.mono bE1.size); have zz1 := cc1.size; have nb1 := nE1.below hu1 nE1.lt; have n0 := nb1.cell 0; have n1 := nb1.cell 1; have n2 := nb1.cell 2; have n3 := nb1.cell 3; have n4 := nb1.cell 4; have m0 := nb1.frozen 0; have m1 := nb1.frozen 1; have m2 := nb1.frozen 2; have m3 := nb1.frozen 3; have m4 := nb1.frozen 4; simp only [List.getElem?_cons_zero, List.getElem?_cons_succ] at n0 n1 n2 n3 n4)))
      all_goals
        go_wp2_with fail
        go_meet
        case rel =>
          first
            | exact ⟨w1.heap.size, rfl, rfl, rfl, blk_put5 nb1 _ _ _ _ _, cc1.trans (below_put5 u1 w1.heap.size _ _ _ _ _), Nat.le_refl _⟩
            | exact ⟨u1.heap.size, rfl, rfl, rfl, Blk.new u1 _ _, cc1.alloc zz1 _, zz1⟩
    obtain ⟨w2, rfl⟩ : ∃ x, x = wc := ⟨_, rfl⟩
    obtain ⟨Ba, rfl, rfl, rfl, kA, bW, hBa⟩ := hcut
    have s1 := Hs1.out
    have k2 : Rdr w2 B (.slice a l.length cap) p true := HK.out.below bW (by omega)
    have m2 := HM.out.below bW (by omega)
    have y1 := k2.cell 1
    have y2 := k2.cell 2
    have f1 := k2.frozen 1
    have f2 := k2.frozen 2
    simp only [List.getElem?_cons_zero, List.getElem?_cons_succ] at y1 y2
    have k3 := blk_two5 k2 (.int .i64 q) (.bool o)
    have hAlt := kA.lt
    have kA3 := (kA.otherC B 1 (.int .i64 q) (by omega)).otherC B 2 (.bool o) (by omega)
    have m3 := (m2.otherC B 1 (.int .i64 q) (by omega)).otherC B 2 (.bool o) (by omega)
    obtain ⟨w3, hw3⟩ : ∃ x, (w2.setCell ⟨B, 1, none⟩ (.int .i64 q)).setCell ⟨B, 2, none⟩ (.bool o) = x := ⟨_, rfl⟩
    rw [hw3] at k3 kA3 m3
    have O3 : Oth (fun g => g = B) W w3 := by rw [← hw3]; exact ((Oth.of_below (S := fun g => g = B) (HB1.out.trans (bW.mono HB1.out.size))).set rfl 1 _).set rfl 2 _
    have s3 : W.heap.size < w3.heap.size := by rw [← hw3]; have := bW.size; simp; omega
    have HR3 : Rd9 w0 w3 B (.slice a l.length cap) l T := ⟨⟨q, o, k3, HF.out.2, hbd.1, hbd.2⟩, H2.out, low_of H3.out h4 O3, h4, h5⟩
    have a0 := kA3.cell 0
    have a1 := kA3.cell 1
    have a2 := kA3.cell 2
    have a3 := kA3.cell 3
    have a4 := kA3.cell 4
    have x0 := m3.cell 0
    have x1 := m3.cell 1
    have x2 := m3.cell 2
    have x3 := m3.cell 3
    have x4 := m3.cell 4
    have g0 := m3.frozen 0
    have g1 := m3.frozen 1
    have g2 := m3.frozen 2
    have g3 := m3.frozen 3
    have g4 := m3.frozen 4
    simp only [List.getElem?_cons_zero, List.getElem?_cons_succ] at a0 a1 a2 a3 a4 x0 x1 x2 x3 x4
    have HR := hide (((((HR3.set (g := W.heap.size) (by omega) (by omega) 0 (.int .i64 kd)).set (g := W.heap.size) (by omega) (by omega) 1 (.string fr)).set (g := W.heap.size) (by omega) (by omega) 2 (.string tt)).set (g := W.heap.size) (by omega) (by omega) 3 (.int .i64 am)).set (g := W.heap.size) (by omega) (by omega) 4 (.int .i64 no))
    have HO : Hid (Oth (fun g => g = B) W (((((w3.setCell ⟨W.heap.size, 0, none⟩ (.int .i64 kd)).setCell ⟨W.heap.size, 1, none⟩ (.string fr)).setCell ⟨W.heap.size, 2, none⟩ (.string tt)).setCell ⟨W.heap.size, 3, none⟩ (.int .i64 am)).setCell ⟨W.heap.size, 4, none⟩ (.int .i64 no))) := hide (by
      have h9 := below_put5 w3 W.heap.size (.int .i64 kd) (.string fr) (.string tt) (.int .i64 am) (.int .i64 no)
      exact ⟨h9.os.trans O3.os, h9.tape.trans O3.tape, h9.output.trans O3.output, Nat.le_trans O3.size h9.size, fun k hk ho => (h9.block k hk).trans (O3.block k hk ho)⟩)
    clear kA kA3 m2 m3 k2 k3 bW O3 HR3 hAlt s1
    go_wp2
    refine bodyPost_ret (v := .agg #[.int .i64 kd, .string fr, .string tt, .int .i64 am, .int .i64 no]) (by simp [results, Tryz.f144, go_sem, x0, x1, x2, x3, x4]) rfl ?_
    exact ⟨by rw [HF.out.1]; rfl, HR.out, HO.out⟩
end Go.Proofs.YtcmmdkabocfnfaaGreatDoor
