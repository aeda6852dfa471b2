/- The landed code's orders one behind the other. The ledger at a place of a tree, by the landed code. What the row's condition says of the package-level variable that holds a type's handle: its cell. -/
import Derived.Test.YtocaednkhcjkcaaGreatDoorZlLgAllS
import Derived.Test.YtocaednkhcjkcaaGreatDoorZlLaSpec
import Derived.Test.YtocaednkhcjkcaaGreatDoorZlEnImpl
import Derived.Test.YtocaednkhcjkcaaGreatDoorZlLgOrd
import Derived.LaidLaws
import Derived.LaidHandle
import Derived.LaidMore
import Derived.OpenVars
import Derived.Stop.Joined
import Derived.Test.YtocaednkhcjkcaaGreatDoorRows
namespace Go.Proofs.YtocaednkhcjkcaaGreatDoor
open Go.RowKit
set_option linter.unusedVariables false

set_option maxRecDepth 20000 in
set_option maxHeartbeats 4000000 in
theorem implAll_any (e : Int) (v vt : Value) (l : List Ac) (ts : List Tx5) (w : World) (hgh : Gh w) (hr : RdA w v l) (hrt : RdT w vt ts) (hl : l.length ≤ 3999999) (hall : ∀ a ∈ l, a.1.size ≤ maxLen ∧ a.2.2.2.2.length ≤ 3999999) (hts : ts.length ≤ 4000000) (hta : ∀ t ∈ ts, t.2.1.size ≤ maxLen ∧ t.2.2.1.size ≤ maxLen) :
    Calls Tryz.prog 24 #[lgV e v, vt] w fun en w' => ∃ v', en = .returned (.tuple #[lgV e v', .int .i64 ((alA e l ts).2 : Int)]) ∧ OwnA w.heap.size w' v' (alA e l ts).1 ∧ Below w.heap.size w w' := by
  obtain ⟨av, cv, rfl⟩ := hr.shape
  obtain ⟨at_, ct, rfl⟩ := hrt.shape
  have hall2 : ∀ a ∈ l, a.2.2.2.2.length ≤ 4000000 := fun a ha => by have := hall a ha; omega
  simp only [lgV] at *
  obtain ⟨w2, hw2⟩ : ∃ w2, (w.alloc (.cells #[.int .i64 e, .slice av l.length cv] 26)).alloc (.cells #[.int .i64 0, .slice none 0 0] 26) = w2 := ⟨_, rfl⟩
  have hs2 : w2.heap.size = w.heap.size + 2 := by rw [← hw2]; simp
  have hb2 : Below w.heap.size w w2 := by rw [← hw2]; exact ((Below.refl _ w).alloc (Nat.le_refl _) _).alloc (by simp) _
  have kA : Blk w2 w.heap.size 26 [.int .i64 e, .slice av l.length cv] := by
    rw [← hw2]
    exact (Blk.new w 26 [.int .i64 e, .slice av l.length cv]).below ((Below.refl (w.heap.size + 1) _).alloc (by simp) _) (by omega)
  have kR : Blk w2 (w.heap.size + 1) 26 [.int .i64 0, .slice none 0 0] := by
    rw [← hw2]
    have h := Blk.new (w.alloc (.cells #[.int .i64 e, .slice av l.length cv] 26)) 26 [.int .i64 0, .slice none 0 0]
    simp only [World.size_alloc] at h
    exact h
  have HC := hide (implCopiedLg_any e (.slice av l.length cv) l w2 (hr.below hb2 (Nat.le_refl _)) (by omega) hall2)
  simp only [lgV] at HC
  have HS2 := hide hs2
  have Hgh := hide hgh
  clear hgh
  have Hb2 := hide hb2
  have KR := hide kR
  have Hrt := hide (hrt.below hb2 (Nat.le_refl _))
  have Hfew := hide (fun k => alA_few (e := e) (ts.take k) hl hall)
  have Hta := hide hta
  have c0 := kA.cell 0
  have c1 := kA.cell 1
  simp only [List.getElem?_cons_zero, List.getElem?_cons_succ] at c0 c1
  clear hr hrt hb2 kA kR hall hall2 hta hs2
  go_enter Tryz.func24, Tryz.ntmps24
  go_wp2_with fail
  refine HC.out.mono ?_
  rintro en w3 ⟨v3, rfl, o3, hb3⟩
  obtain ⟨a3, c3, rfl⟩ := o3.rd.shape
  obtain ⟨w4, hw4⟩ : ∃ w4, w3.alloc (.cells #[.int .i64 e, .slice a3 l.length c3] 26) = w4 := ⟨_, rfl⟩
  have b4 : Below w3.heap.size w3 w4 := by rw [← hw4]; exact (Below.refl _ w3).alloc (Nat.le_refl _) _
  have K4 : Hid (Blk w4 w3.heap.size 26 [.int .i64 e, .slice a3 l.length c3]) := hide (by rw [← hw4]; exact Blk.new w3 _ _)
  have X4 := hide (o3.ox.below b4 (Nat.le_refl _))
  have B4 := hide (hb3.trans (b4.mono hb3.size))
  have hz3 := hb3.size
  clear o3 hb3 b4 c0 c1 hw2
  go_wp2
  go_loopw [7, 16] (fun nv iv wr => ∃ (i : Nat) (a : Option Addr) (c base hi : Nat), i ≤ ts.length ∧ iv = .int .i64 (i : Int) ∧ nv = .int .i64 ((alA e l (ts.take i)).2 : Int) ∧ Blk wr w3.heap.size 26 [.int .i64 e, .slice a (alA e l (ts.take i)).1.length c] ∧ OwnX base hi wr (.slice a (alA e l (ts.take i)).1.length c) (alA e l (ts.take i)).1 ∧ w2.heap.size ≤ base ∧ (w3.heap.size < base ∨ hi ≤ w3.heap.size) ∧ Below w2.heap.size w2 wr) (fun _ iv _ => ts.length - (intOf iv).toNat)
  case atStart => exact ⟨0, a3, c3, w2.heap.size, w3.heap.size, by omega, rfl, rfl, K4.out, X4.out, Nat.le_refl _, .inr (Nat.le_refl _), B4.out⟩
  case round =>
    obtain ⟨i, a, c, base, hi, hi1, rfl, rfl, kO, x, hbase, hdis, hb⟩ := hrel
    clear K4 X4 B4 hw4
    have hwr := hb.size
    have hO := kO.lt
    have few := Hfew.out i
    have hnl := alA_len e l (ts.take i)
    have htk : (ts.take i).length ≤ ts.length := by simp; omega
    by_cases hlt : i < ts.length
    · obtain ⟨b, off, rfl, hc1, hc2, hbw, hT⟩ := Hrt.out.at hlt
      have htx := Hta.out ts[i] (List.getElem_mem _)
      have Hsn := hide (alA_snoc e l ts i hlt)
      obtain ⟨s, hs⟩ : ∃ s, alA e l (ts.take i) = s := ⟨_, rfl⟩
      rw [hs] at kO x few hnl Hsn ⊢
      obtain ⟨P, n⟩ := s
      simp only at kO x few hnl ⊢
      have HA := hide (fun V v hg h => implApply_any e v P ts[i] V hg h few.1 few.2 htx.1 htx.2)
      simp only [ApPost] at HA
      have Hgd := hide (alS_good (e := e) (s := (P, n)) (t := ts[i]))
      have Hbd := hide (alS_bad (e := e) (s := (P, n)) (t := ts[i]))
      have Hsm := hide (apA_same (e := e) (l := P) (t := ts[i]))
      simp only at Hgd Hbd
      generalize ts[i] = t at hT HA Hgd Hbd Hsm Hsn
      generalize (apA e P t).1 = A at HA Hgd Hsm
      generalize (apA e P t).2 = C at HA Hgd Hbd Hsm
      obtain ⟨p0, p1, p2, p3, p4⟩ := hT
      have q0 := (hb.cell (p := ⟨b, off + i * 5, none⟩) hbw).trans p0
      have q1 := (hb.cell (p := ⟨b, off + i * 5 + 1, none⟩) hbw).trans p1
      have q2 := (hb.cell (p := ⟨b, off + i * 5 + 2, none⟩) hbw).trans p2
      have q3 := (hb.cell (p := ⟨b, off + i * 5 + 3, none⟩) hbw).trans p3
      have q4 := (hb.cell (p := ⟨b, off + i * 5 + 4, none⟩) hbw).trans p4
      obtain ⟨kd, fm, tn, am, nc⟩ := t
      simp only [lgV, txV] at q0 q1 q2 q3 q4 HA
      obtain ⟨w5, hw5⟩ : ∃ w5, wr.alloc (.cells #[.int .i64 kd, .string fm, .string tn, .int .i64 am, .int .i64 nc] 28) = w5 := ⟨_, rfl⟩
      have hb5 : Below wr.heap.size wr w5 := by rw [← hw5]; exact (Below.refl _ wr).alloc (Nat.le_refl _) _
      have kT : Blk w5 wr.heap.size 28 [.int .i64 kd, .string fm, .string tn, .int .i64 am, .int .i64 nc] := by rw [← hw5]; exact Blk.new wr _ _
      replace kO := kO.below hb5 kO.lt
      replace x := x.below hb5 (Nat.le_refl _)
      replace hb := hb.trans (hb5.mono hwr)
      have hwr5 := hb5.size
      have hBw := Hb2.out.trans (hb.mono Hb2.out.size)
      have hli : (i : Int) < (ts.length : Int) := by omega
      have hnb : n ≤ 4000000 := by omega
      have HA5 := hide (HA.out w5 _ (Hgh.out.below hBw) x.rd)
      have t0 := kT.cell 0
      have t1 := kT.cell 1
      have t2 := kT.cell 2
      have t3 := kT.cell 3
      have t4 := kT.cell 4
      have u0 := kO.cell 0
      have u1 := kO.cell 1
      simp only [List.getElem?_cons_zero, List.getElem?_cons_succ] at t0 t1 t2 t3 t4 u0 u1
      have KO := hide kO
      have Hb := hide hb
      have hO5 := kO.lt
      clear kO x hb hb5 kT hBw p0 p1 p2 p3 p4 few htx hs HA
      go_wp2_with fail
      refine HA5.out.mono ?_
      rintro e' wA ⟨vA, rfl, oA, hbA⟩
      obtain ⟨a9, c9, rfl⟩ := oA.rd.shape
      obtain ⟨w9, hw9⟩ : ∃ w9, wA.alloc (.cells #[.int .i64 e, .slice a9 A.length c9] 26) = w9 := ⟨_, rfl⟩
      have bz : Below wA.heap.size wA w9 := by rw [← hw9]; exact (Below.refl _ wA).alloc (Nat.le_refl _) _
      have b9 : Blk w9 wA.heap.size 26 [.int .i64 e, .slice a9 A.length c9] := by rw [← hw9]; exact Blk.new wA _ _
      have x9 := oA.ox.below bz (Nat.le_refl _)
      have hb9 := hbA.trans (bz.mono hbA.size)
      clear t0 t1 t2 t3 t4 u0 u1 oA bz hw5 HA5
      clear q0 q1 q2 q3 q4
      have hB9 := Hb.out.trans (hb9.mono (by omega))
      have k9 := KO.out.below hb9 KO.out.lt
      have hO9 := k9.lt
      have d0 := b9.cell 0
      have d1 := b9.cell 1
      have o0 := k9.cell 0
      have o1 := k9.cell 1
      have o0f := k9.frozen 0
      have o1f := k9.frozen 1
      simp only [List.getElem?_cons_zero, List.getElem?_cons_succ] at d0 d1 o0 o1
      have K9 := hide k9
      have X9 := hide x9
      have HB9 := hide hB9
      clear k9 x9 hB9 hb9 b9 KO hbA
      by_cases hC : C = 0
      · have Hs1 := hide (Hsn.out.trans (Hgd.out hC))
        clear Hgd Hbd Hsm Hsn
        subst hC
        go_wp2
        go_roundw
        case rel =>
          refine ⟨i + 1, a9, c9, w5.heap.size, wA.heap.size, by omega, by go_num, by rw [Hs1.out]; go_num, ?_, ?_, by omega, .inl (by omega), ?_⟩
          · rw [Hs1.out]; exact (K9.out.set 0 _).set 1 _
          · rw [Hs1.out]; exact (X9.out.old (by omega) _ _).old (by omega) _ _
          · exact (HB9.out.setCell (p := ⟨w3.heap.size, 0, none⟩) (show w2.heap.size ≤ w3.heap.size by omega) _).setCell (p := ⟨w3.heap.size, 1, none⟩) (show w2.heap.size ≤ w3.heap.size by omega) _
        case measure => simp [intOf]; omega
      · have hAP : A = P := Hsm.out hC
        have Hs1 := hide (Hsn.out.trans (Hbd.out hC))
        have hCb : (C == 0) = false := by rw [beq_eq_false_iff_ne]; exact hC
        clear Hgd Hbd Hsm Hsn hC
        subst hAP
        go_wp2
        go_roundw
        case rel =>
          refine ⟨i + 1, a9, c9, w5.heap.size, wA.heap.size, by omega, by go_num, by rw [Hs1.out], ?_, ?_, by omega, .inl (by omega), ?_⟩
          · rw [Hs1.out]; exact (K9.out.set 0 _).set 1 _
          · rw [Hs1.out]; exact (X9.out.old (by omega) _ _).old (by omega) _ _
          · exact (HB9.out.setCell (p := ⟨w3.heap.size, 0, none⟩) (show w2.heap.size ≤ w3.heap.size by omega) _).setCell (p := ⟨w3.heap.size, 1, none⟩) (show w2.heap.size ≤ w3.heap.size by omega) _
        case measure => simp [intOf]; omega
    · have ei : i = ts.length := by omega
      subst ei
      rw [List.take_length] at kO x ⊢
      obtain ⟨s, hs⟩ : ∃ s, alA e l ts = s := ⟨_, rfl⟩
      rw [hs] at kO x ⊢
      have Hs := hide hs
      clear hs
      obtain ⟨P, n⟩ := s
      simp only at kO x ⊢
      have kR := KR.out.below hb KR.out.lt
      have d0 := kO.cell 0
      have d1 := kO.cell 1
      have r0 := kR.cell 0
      have r1 := kR.cell 1
      have r0f := kR.frozen 0
      have r1f := kR.frozen 1
      simp only [List.getElem?_cons_zero, List.getElem?_cons_succ] at d0 d1 r0 r1
      have hs2 := HS2.out
      have X9 := hide (((x.old (b := w.heap.size + 1) (by omega) 0 (.int .i64 e)).old (b := w.heap.size + 1) (by omega) 1 (.slice a P.length c)).own.mono (show w.heap.size ≤ base by omega))
      have HB9 := hide (((Hb2.out.trans (hb.mono Hb2.out.size)).setCell (p := ⟨w.heap.size + 1, 0, none⟩) (show w.heap.size ≤ w.heap.size + 1 by omega) (.int .i64 e)).setCell (p := ⟨w.heap.size + 1, 1, none⟩) (show w.heap.size ≤ w.heap.size + 1 by omega) (.slice a P.length c))
      clear kO x hb kR hs2
      go_wp2
      refine bodyPost_ret (v := .tuple #[.agg #[.int .i64 e, .slice a P.length c], .int .i64 (n : Int)]) (by simp [results, Tryz.f24, go_sem, r0, r1]) rfl ?_
      rw [Hs.out]
      exact ⟨_, rfl, X9.out, HB9.out⟩
end Go.Proofs.YtocaednkhcjkcaaGreatDoor

namespace Go.Proofs.YtocaednkhcjkcaaGreatDoor
open Go.RowKit
set_option linter.unusedVariables false

set_option maxRecDepth 20000 in
set_option maxHeartbeats 4000000 in
theorem ledgerBehind_any (e : Int) (v vq : Value) (z : List Ac) (l : List Bk) (al : Option Addr) (cl b off base : Nat) (C : List Nat) (w : World) (hgh : Gh w) (hr : RdA w v z) (hrl : RdKs w (.slice al l.length cl) l) (hq : OwnQ base w vq b off C) (ha : 0 < C.length → al = some ⟨b, off, none⟩) (hclt0 : ∀ x ∈ C, x < l.length) (hcl : C.length ≤ 4000000) (hz : z.length ≤ 3999999) (hall : ∀ a ∈ z, a.1.size ≤ maxLen ∧ a.2.2.2.2.length ≤ 3999999) (hf : ∀ b ∈ l, FewK b) :
    Calls Tryz.prog 61 #[lgV e v, vq] w fun en w' => ∃ v', en = .returned (lgV e v') ∧ OwnA w.heap.size w' v' (foL e z l C) ∧ Below w.heap.size w w' := by
  obtain ⟨av, cv, rfl⟩ := hr.shape
  have hall2 : ∀ a ∈ z, a.2.2.2.2.length ≤ 4000000 := fun a ha => by have := hall a ha; omega
  have Hfew := hide (fun k C => foL_few (e := e) l (List.take k C) z hz hall)
  simp only [lgV] at *
  obtain ⟨w2, hw2⟩ : ∃ w2, (w.alloc (.cells #[.int .i64 e, .slice av z.length cv] 26)).alloc (.cells #[.int .i64 0, .slice none 0 0] 26) = w2 := ⟨_, rfl⟩
  have hs2 : w2.heap.size = w.heap.size + 2 := by rw [← hw2]; simp
  have hb2 : Below w.heap.size w w2 := by rw [← hw2]; exact ((Below.refl _ w).alloc (Nat.le_refl _) _).alloc (by simp) _
  have kA : Blk w2 w.heap.size 26 [.int .i64 e, .slice av z.length cv] := by
    rw [← hw2]
    exact (Blk.new w 26 [.int .i64 e, .slice av z.length cv]).below ((Below.refl (w.heap.size + 1) _).alloc (by simp) _) (by omega)
  have kR : Blk w2 (w.heap.size + 1) 26 [.int .i64 0, .slice none 0 0] := by
    rw [← hw2]
    have h := Blk.new (w.alloc (.cells #[.int .i64 e, .slice av z.length cv] 26)) 26 [.int .i64 0, .slice none 0 0]
    simp only [World.size_alloc] at h
    exact h
  have HC := hide (implCopiedLg_any e (.slice av z.length cv) z w2 (hr.below hb2 (Nat.le_refl _)) (by omega) hall2)
  simp only [lgV] at HC
  have Hf := hide hf
  have Hb2 := hide hb2
  have KR := hide kR
  have c0 := kA.cell 0
  have c1 := kA.cell 1
  simp only [List.getElem?_cons_zero, List.getElem?_cons_succ] at c0 c1
  obtain ⟨qa, qc, rfl⟩ := hq.shape
  have Hrl := hide hrl
  have Hq := hide hq
  have Ha := hide ha
  have Hclt := hide hclt0
  have Hgh := hide hgh
  clear hq ha hclt0 hgh
  clear hr hrl hf hall hall2 hb2 kA kR
  go_enter Tryz.func61, Tryz.ntmps61
  go_wp2_with fail
  refine HC.out.mono ?_
  rintro en w3 ⟨v3, rfl, o3, hb3⟩
  obtain ⟨a3, c3, rfl⟩ := o3.rd.shape
  obtain ⟨w4, hw4⟩ : ∃ w4, w3.alloc (.cells #[.int .i64 e, .slice a3 z.length c3] 26) = w4 := ⟨_, rfl⟩
  have b4 : Below w3.heap.size w3 w4 := by rw [← hw4]; exact (Below.refl _ w3).alloc (Nat.le_refl _) _
  have k4 : Blk w4 w3.heap.size 26 [.int .i64 e, .slice a3 z.length c3] := by rw [← hw4]; exact Blk.new w3 _ _
  have s4 : w4.heap.size = w3.heap.size + 1 := by rw [← hw4]; simp
  have x4 := o3.ox.below b4 (Nat.le_refl _)
  have hB4 := hb3.trans (b4.mono hb3.size)
  have hz3 := hb3.size
  clear o3 hb3 b4 c0 c1 hw2 HC
  have K5 := hide k4
  have X5 := hide x4
  have B5 := hide hB4
  clear k4 x4 hB4
  go_wp2
  go_loopw [12] (fun iv wr => ∃ (i : Nat) (a : Option Addr) (c base hi : Nat), i ≤ C.length ∧ iv = .int .i64 (i : Int) ∧ Blk wr w3.heap.size 26 [.int .i64 e, .slice a (foL e z l (C.take i)).length c] ∧ OwnX base hi wr (.slice a (foL e z l (C.take i)).length c) (foL e z l (C.take i)) ∧ w2.heap.size ≤ base ∧ (w3.heap.size < base ∨ hi ≤ w3.heap.size) ∧ Below w2.heap.size w2 wr) (fun iv _ => C.length - (intOf iv).toNat)
  case atStart => exact ⟨0, a3, c3, w2.heap.size, w3.heap.size, by omega, rfl, K5.out, X5.out, Nat.le_refl _, .inr (Nat.le_refl _), B5.out⟩
  case round =>
    obtain ⟨i, a, c, base, hi, hi1, rfl, kO, x, hbase, hdis, hb⟩ := hrel
    clear K5 X5 B5 hw4
    have hwr := hb.size
    have hO := kO.lt
    have hBw := Hb2.out.trans (hb.mono Hb2.out.size)
    have few := Hfew.out i C
    by_cases hlt : i < C.length
    · have Hsn := hide (foL_snoc e z l C i hlt)
      have hCk := Hclt.out C[i] (List.getElem_mem hlt)
      obtain ⟨gq, rfl, cc0⟩ := Hq.out.cell hlt
      obtain rfl := Ha.out (by omega)
      obtain ⟨b9, off9, e9, h3, hcell⟩ := Hrl.out.parts9 (by omega)
      simp only [Option.some.injEq, Addr.mk.injEq, and_true] at e9
      obtain ⟨rfl, rfl⟩ := e9
      obtain ⟨lv, hat, hrk⟩ := hcell C[i] hCk
      have hqlt := (World.ownsRow.lt Hq.out gq rfl).2
      replace cc0 := (hBw.cell (p := ⟨gq, i, none⟩) hqlt).trans cc0
      have hfk := Hf.out l[C[i]] (List.getElem_mem hCk)
      have ct := (hat.below hBw h3).cells.2.2.2.2.2.2.2.2.2.2.1
      have hrt := hrk.t
      obtain ⟨ta, tc, hte⟩ := hrt.shape
      rw [hte] at ct hrt
      rw [tsAt_eq hCk] at Hsn
      generalize foL e z l (C.take i) = P at kO x few Hsn
      have HAl : Hid (∀ V, Below wr.heap.size wr V → Calls Tryz.prog 24 #[.agg #[.int .i64 e, .slice a P.length c], .slice ta l[C[i]].ts.length tc] V fun en w' => ∃ v', en = .returned (.tuple #[.agg #[.int .i64 e, v'], .int .i64 ((alA e P l[C[i]].ts).2 : Int)]) ∧ OwnA V.heap.size w' v' (alA e P l[C[i]].ts).1 ∧ Below wr.heap.size wr w' ∧ wr.heap.size ≤ V.heap.size) := hide (fun V hV => (implAll_any e (.slice a P.length c) (.slice ta l[C[i]].ts.length tc) P l[C[i]].ts V (Hgh.out.below (hBw.trans (hV.mono hBw.size))) (x.rd.below hV (Nat.le_refl _)) (hrt.below (hBw.trans (hV.mono hBw.size)) (Nat.le_refl _)) few.1 few.2 hfk.t hfk.ts).mono (fun en w' ⟨v', h1, h2, h3⟩ => ⟨v', h1, h2, hV.trans (h3.mono hV.size), hV.size⟩))
      have d0 := kO.cell 0
      have d1 := kO.cell 1
      simp only [List.getElem?_cons_zero, List.getElem?_cons_succ] at d0 d1
      have KO := hide kO
      have Hb := hide hb
      have hki : (i : Int) < (C.length : Int) := by omega
      have hk0 : (0 : Int) ≤ (i : Int) := by omega
      generalize l[C[i]].ts = ts at HAl ct Hsn hrt
      generalize C[i] = j at cc0 ct hCk
      simp only [pk] at cc0
      generalize hAA : alA e P ts = AA at HAl Hsn
      obtain ⟨A, nA⟩ := AA
      simp only at HAl Hsn
      have hji : (j : Int) < (l.length : Int) := by omega
      have hj0 : (0 : Int) ≤ (j : Int) := by omega
      clear hAA hat hrk hcell hfk hte hrt kO x few hb hBw
      go_upto_region 5 with fail
      go_region_law ((go_simp; go_at_call 24; refine (HAl.out _ (by first | exact Below.refl _ _ | exact (Below.refl _ _).drew)).mono ?_; rintro en wA ⟨vA, rfl, oA, bA, zA⟩; have hsh := oA.rd.shape; obtain ⟨aA, cA, hvA⟩ := hsh; subst hvA; have kA := KO.out.below bA KO.out.lt; have q0 := kA.cell 0; have q1 := kA.cell 1; have f0 := kA.frozen 0; have f1 := kA.frozen 1; simp only [List.getElem?_cons_zero, List.getElem?_cons_succ] at q0 q1))
      all_goals
        have kN := (kA.set 0 (.int .i64 e)).set 1 (.slice aA A.length cA)
        have oN := (oA.older (g := w3.heap.size) (by omega) 0 (.int .i64 e)).older (g := w3.heap.size) (by omega) 1 (.slice aA A.length cA)
        have bN := ((Hb.out.trans (bA.mono hwr)).setCell (p := ⟨w3.heap.size, 0, none⟩) (show w2.heap.size ≤ w3.heap.size by omega) (.int .i64 e)).setCell (p := ⟨w3.heap.size, 1, none⟩) (show w2.heap.size ≤ w3.heap.size by omega) (.slice aA A.length cA)
        simp only [List.set_cons_zero, List.set_cons_succ] at kN
        have KN := hide kN
        have XN := hide oN.ox
        have BN := hide bN
        clear kA kN oA oN bA bN
        go_wp2
        go_roundw
        case rel => exact ⟨i + 1, aA, cA, _, _, by omega, by go_num, by rw [Hsn.out]; exact KN.out, by rw [Hsn.out]; exact XN.out, by omega, .inl (by omega), BN.out⟩
        case measure => simp [intOf]; omega
    · obtain rfl : i = C.length := by omega
      rw [List.take_length] at kO x
      have d0 := kO.cell 0
      have d1 := kO.cell 1
      simp only [List.getElem?_cons_zero, List.getElem?_cons_succ] at d0 d1
      have kR := KR.out.below hb KR.out.lt
      have r0 := kR.cell 0
      have r1 := kR.cell 1
      have g0 := kR.frozen 0
      have g1 := kR.frozen 1
      simp only [List.getElem?_cons_zero, List.getElem?_cons_succ] at r0 r1
      have HBx := hide ((hBw.setCell (p := ⟨w.heap.size + 1, 0, none⟩) (show w.heap.size ≤ w.heap.size + 1 by omega) (.int .i64 e)).setCell (p := ⟨w.heap.size + 1, 1, none⟩) (show w.heap.size ≤ w.heap.size + 1 by omega) (.slice a (foL e z l C).length c))
      have HOx := hide (((x.own.older (g := w.heap.size + 1) (by omega) 0 (.int .i64 e)).older (g := w.heap.size + 1) (by omega) 1 (.slice a (foL e z l C).length c)).mono (show w.heap.size ≤ _ by omega))
      clear kO x kR hb hBw few
      obtain ⟨P, hP⟩ : ∃ P, foL e z l C = P := ⟨_, rfl⟩
      rw [hP] at d1 HBx HOx
      have HPe := hide hP
      clear hP
      go_wp2
      refine bodyPost_ret (v := .agg #[.int .i64 e, .slice a P.length c]) (by simp [results, Tryz.f61, go_sem, r0, r1]) rfl ?_
      exact ⟨_, rfl, by rw [HPe.out]; exact HOx.out, HBx.out⟩
set_option maxRecDepth 20000 in
set_option maxHeartbeats 4000000 in
theorem implLedgerAt_any (e : Int) (v vl : Value) (z : List Ac) (l : List Bk) (id : Int) (w : World) (hgh : Gh w) (hr : RdA w v z) (hrl : RdKs w vl l) (hz : z.length ≤ 3999999) (hall : ∀ a ∈ z, a.1.size ≤ maxLen ∧ a.2.2.2.2.length ≤ 3999999) (hl : l.length ≤ 4000000) (hf : ∀ b ∈ l, FewK b) (hbd : ∀ b ∈ l, -9223372036854775808 ≤ b.tr ∧ b.tr ≤ 9223372036854775807) :
    Calls Tryz.prog 30 #[lgV e v, vl, .int .i64 id] w fun en w' => ∃ v', en = .returned (.tuple #[lgV e v', .bool (laA e z l id).2]) ∧ OwnA w.heap.size w' v' (laA e z l id).1 ∧ Below w.heap.size w w' := by
  obtain ⟨av, cv, rfl⟩ := hr.shape
  obtain ⟨al, cl, rfl⟩ := hrl.shape
  have hall2 : ∀ a ∈ z, a.2.2.2.2.length ≤ 4000000 := fun a ha => by have := hall a ha; omega
  obtain ⟨w2, hw2⟩ : ∃ w2, (w.alloc (.cells #[.int .i64 e, .slice av z.length cv] 26)).alloc (.cells #[.int .i64 0, .slice none 0 0] 26) = w2 := ⟨_, rfl⟩
  have hs2 : w2.heap.size = w.heap.size + 2 := by rw [← hw2]; simp
  have hb2 : Below w.heap.size w w2 := by rw [← hw2]; exact ((Below.refl _ w).alloc (Nat.le_refl _) _).alloc (by simp) _
  have kA : Blk w2 w.heap.size 26 [.int .i64 e, .slice av z.length cv] := by
    rw [← hw2]
    exact (Blk.new w 26 [.int .i64 e, .slice av z.length cv]).below ((Below.refl (w.heap.size + 1) _).alloc (by simp) _) (by omega)
  have kR : Blk w2 (w.heap.size + 1) 26 [.int .i64 0, .slice none 0 0] := by
    rw [← hw2]
    have h := Blk.new (w.alloc (.cells #[.int .i64 e, .slice av z.length cv] 26)) 26 [.int .i64 0, .slice none 0 0]
    simp only [World.size_alloc] at h
    exact h
  have HC := hide (fun V (hV : Below w.heap.size w V) => implCopiedLg_any e (.slice av z.length cv) z V (hr.below hV (Nat.le_refl _)) (by omega) hall2)
  have HQ := hide (fun V (hV : Below w.heap.size w V) => chainBlocks_any l al cl id V (hrl.below hV (Nat.le_refl _)) hl hf hbd)
  have hcl := chT_len l id
  have HL := hide (fun (vq : Value) (b off base : Nat) V (hV : Below w.heap.size w V) hq ha => ledgerBehind_any e (.slice av z.length cv) vq z l al cl b off base (chT l id) V (hgh.below hV) (hr.below hV (Nat.le_refl _)) (hrl.below hV (Nat.le_refl _)) hq ha (chT_lt l id) (by omega) hz hall hf)
  have HP : Hid (∀ (P : List Ac) (q : Bool), laA e z l id = (P, q) → ∀ v' w', OwnA w.heap.size w' v' P → Below w.heap.size w w' → ∃ v'', (Ending.returned (.tuple #[.agg #[.int .i64 e, v'], .bool q]) = .returned (.tuple #[.agg #[.int .i64 e, v''], .bool (laA e z l id).2])) ∧ OwnA w.heap.size w' v'' (laA e z l id).1 ∧ Below w.heap.size w w') := hide (fun P q h v' w' ho hb => ⟨v', by rw [h], by rw [h]; exact ho, hb⟩)
  simp only [lgV] at HC HL ⊢
  have KR := hide kR
  have KA := hide kA
  have Hb2 := hide hb2
  have c0 := kA.cell 0
  have c1 := kA.cell 1
  simp only [List.getElem?_cons_zero, List.getElem?_cons_succ] at c0 c1
  clear hr hrl hall hall2 hf hbd hb2 kA kR hgh
  by_cases hid : id = -1
  · subst hid
    go_enter Tryz.func30, Tryz.ntmps30
    go_wp2_with fail
    refine (HC.out w2 Hb2.out).mono ?_
    rintro en w3 ⟨v3, rfl, o3, hb3⟩
    have hB3 := Hb2.out.trans (hb3.mono Hb2.out.size)
    have kR3 := KR.out.below hb3 KR.out.lt
    clear c0 c1
    have r0 := kR3.cell 0
    have r1 := kR3.cell 1
    have g0 := kR3.frozen 0
    have g1 := kR3.frozen 1
    simp only [List.getElem?_cons_zero, List.getElem?_cons_succ] at r0 r1
    obtain ⟨aN, cN, hvN⟩ := o3.rd.shape
    subst hvN
    have HBx := hide ((hB3.setCell (p := ⟨w.heap.size + 1, 0, none⟩) (show w.heap.size ≤ w.heap.size + 1 by omega) (.int .i64 e)).setCell (p := ⟨w.heap.size + 1, 1, none⟩) (show w.heap.size ≤ w.heap.size + 1 by omega) (.slice aN z.length cN))
    have HOx := hide (((o3.older (g := w.heap.size + 1) (by omega) 0 (.int .i64 e)).older (g := w.heap.size + 1) (by omega) 1 (.slice aN z.length cN)).mono (show w.heap.size ≤ _ by omega))
    have HE := hide (show laA e z l (-1) = (z, true) from by unfold laA; rw [if_pos rfl])
    clear o3
    go_wp2
    refine bodyPost_ret (v := .tuple #[.agg #[.int .i64 e, .slice aN z.length cN], .bool (true)]) (by simp [results, Tryz.f30, go_sem, r0, r1]) rfl ?_
    exact HP.out z (true) HE.out _ _ HOx.out HBx.out
  · have hq : (id == -1) = false := by rw [beq_eq_false_iff_ne]; exact hid
    have Hid1 := hide hid
    clear hid
    go_enter Tryz.func30, Tryz.ntmps30
    go_wp2_with fail
    refine (HQ.out w2 Hb2.out).mono ?_
    rintro en w3 ⟨v3, b, off, rfl, hoq, haq, hb3⟩
    have hB3 := Hb2.out.trans (hb3.mono Hb2.out.size)
    have kR3 := KR.out.below hb3 KR.out.lt
    have kA3 := KA.out.below hb3 KA.out.lt
    have s3 := hb3.size
    have HLq := hide (HL.out v3 b off _ w3 hB3 hoq haq)
    have HF := hide (laA_ch (e := e) (z := z) (l := l) Hid1.out)
    obtain ⟨oa, oc, rfl⟩ := hoq.shape
    clear c0 c1 hoq haq HL
    have c0 := kA3.cell 0
    have c1 := kA3.cell 1
    simp only [List.getElem?_cons_zero, List.getElem?_cons_succ] at c0 c1
    generalize chT l id = C at HLq HF hcl ⊢
    go_wp2_with fail
    refine HLq.out.mono ?_
    rintro en w5 ⟨v5, rfl, o5, hb5⟩
    have hB5 := hB3.trans (hb5.mono hB3.size)
    have kR5 := kR3.below hb5 kR3.lt
    clear c0 c1 HLq
    have HF2 : Hid (laA e z l id = (foL e z l C, decide (0 < (C.length : Int)))) := hide (by
      rw [HF.out]
      by_cases h : 0 < C.length
      · rw [decide_eq_true h, decide_eq_true (by omega)]
      · rw [decide_eq_false h, decide_eq_false (by omega)])
    have r0 := kR5.cell 0
    have r1 := kR5.cell 1
    have g0 := kR5.frozen 0
    have g1 := kR5.frozen 1
    simp only [List.getElem?_cons_zero, List.getElem?_cons_succ] at r0 r1
    obtain ⟨aN, cN, hvN⟩ := o5.rd.shape
    subst hvN
    have HBx := hide ((hB5.setCell (p := ⟨w.heap.size + 1, 0, none⟩) (show w.heap.size ≤ w.heap.size + 1 by omega) (.int .i64 e)).setCell (p := ⟨w.heap.size + 1, 1, none⟩) (show w.heap.size ≤ w.heap.size + 1 by omega) (.slice aN (foL e z l C).length cN))
    have HOx := hide (((o5.older (g := w.heap.size + 1) (by omega) 0 (.int .i64 e)).older (g := w.heap.size + 1) (by omega) 1 (.slice aN (foL e z l C).length cN)).mono (show w.heap.size ≤ _ by omega))
    have HE := hide (show laA e z l id = ((foL e z l C), decide (0 < (C.length : Int))) from HF2.out)
    clear o5
    generalize (foL e z l C) = PP at HBx HOx HE ⊢
    go_wp2
    refine bodyPost_ret (v := .tuple #[.agg #[.int .i64 e, .slice aN PP.length cN], .bool (decide (0 < (C.length : Int)))]) (by simp [results, Tryz.f30, go_sem, r0, r1]) rfl ?_
    exact HP.out PP (decide (0 < (C.length : Int))) HE.out _ _ HOx.out HBx.out
end Go.Proofs.YtocaednkhcjkcaaGreatDoor

namespace Go.Proofs.YtocaednkhcjkcaaGreatDoor
open Go.ChangeShapes Go.WideShapes Go.RowKit
set_option linter.unusedVariables false

theorem Tryz.et : Tryz.prog.globalNamed "errors.errorType" = some 0 := by kernel_rfl
theorem Tryz.rt : (Tryz.prog.cutTypes.find? (·.1 == "internal/reflectlite.rtype")).map (·.2) = some 185 := by kernel_rfl
theorem Tryz.oneRow : ((List.range 301).filter fun t => Tryz.prog.rowNamed t [101, 114, 114, 111, 114]) = [74] := by kernel_rfl
theorem Tryz.nTypes : Tryz.prog.types.size = 301 := by kernel_rfl

theorem gh_of_handles {W : World} (h : handlesMet Tryz.prog [("errors.errorType", Rows.laid_errors_errorType)] W) : Gh W := by
  obtain ⟨name, u, ty, e1, e2, e3, e4, e5⟩ := h _ (List.mem_singleton.2 rfl)
  have en : name = [101, 114, 114, 111, 114] := (Option.some.inj e1).symm
  subst en
  obtain rfl := Option.some.inj (Tryz.rt.symm.trans e2)
  have hm : ty ∈ (List.range 301).filter fun t => Tryz.prog.rowNamed t [101, 114, 114, 111, 114] := List.mem_filter.2 ⟨List.mem_range.2 (by rw [← Tryz.nTypes]; exact e3), e4⟩
  rw [Tryz.oneRow] at hm
  obtain rfl := List.mem_singleton.1 hm
  have hh : typeHandle Tryz.prog 74 = .pointer (some ⟨1, 74, none⟩) := by kernel_rfl
  rw [hh] at e5
  unfold Gh
  simpa using World.var?_cell Tryz.et e5 0
/-- The variable's cell laid anew. -/
def handPut : Obj → Obj
  | .cells _ t frozen => .cells #[.iface 185 (.agg #[.pointer (some ⟨1, 74, none⟩)])] t frozen
  | o => o
/-- A world that meets the condition: w0, the variable's cell laid. -/
def laidOn (w0 : World) : World := { w0 with heap := w0.heap.modify 0 handPut }
end Go.Proofs.YtocaednkhcjkcaaGreatDoor
