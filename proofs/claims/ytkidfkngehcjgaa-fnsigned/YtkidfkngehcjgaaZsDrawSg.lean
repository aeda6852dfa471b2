/- A word drawn, with a table and a list of foul ones. -/
import Derived.Test.YtkidfkngehcjgaaZsSgFact
import Derived.Test.YtkidfkngehcjgaaZsDrawNew
namespace Go.Proofs.Ytkidfkngehcjgaa
open Go.RowKit
set_option linter.unusedVariables false
set_option linter.unusedSimpArgs false

theorem RdSg.tail {w : World} {b off n cap : Nat} {l : List Sg} (h : RdSg w (.slice (some ⟨b, off, none⟩) n cap) l) (hn : n = l.length) (h0 : 0 < l.length) : RdSg w (.slice (some ⟨b, off + 5, none⟩) (n - 1) (cap - 1)) l.tail := by
  rcases h with ⟨a', cap', e, rfl, -⟩ | ⟨b', off', cap', hne, e, h1, h2, h3, h4⟩
  · simp at h0
  · simp only [Value.slice.injEq, Option.some.injEq, Addr.mk.injEq, and_true] at e
    obtain ⟨⟨rfl, rfl⟩, -, rfl⟩ := e
    subst hn
    have ht : l.tail.length = l.length - 1 := by simp
    by_cases ht0 : l.tail = []
    · refine .inl ⟨some ⟨b, off + 5, none⟩, cap - 1, ?_, ht0, fun h => by cases h⟩
      rw [ht0] at ht
      simp only [List.length_nil] at ht
      rw [← ht]
    · refine .inr ⟨b, off + 5, cap - 1, ht0, by rw [ht], by omega, by omega, h3, fun i hi => ?_⟩
      have hi' : i + 1 < l.length := by omega
      have h := h4 (i + 1) hi'
      have e1 : off + 5 + i * 5 = off + (i + 1) * 5 := by omega
      rw [e1, List.getElem_tail]
      exact h
theorem OwnSg.at0 {T : TypeId} {base : Nat} {w : World} {a : Option Addr} {n c : Nat} {l : List Sg} (h : OwnSg T base w (.slice a n c) l) (hl : 0 < l.length) : ∃ b, a = some ⟨b, 0, none⟩ := by
  rcases h.2 with ⟨-, hn⟩ | ⟨g, cap, cur, e, -⟩
  · omega
  · simp only [Value.slice.injEq] at e
    exact ⟨g, e.1⟩
theorem OwnSg.room {T : TypeId} {base : Nat} {w : World} {a : Option Addr} {n c : Nat} {l : List Sg} (h : OwnSg T base w (.slice a n c) l) (hl : 0 < l.length) : n ≤ c := by
  rcases h.2 with ⟨-, hn⟩ | ⟨g, cap, cur, e, -, -, hc, -⟩
  · omega
  · simp only [Value.slice.injEq] at e
    omega
theorem Blk.alSg {w : World} {B : Nat} {t : TypeId} {cs : List Value} (h : Blk w B t cs) (o : Obj) : Blk (w.alloc o) B t cs := h.below ((Below.refl _ w).alloc (Nat.le_refl _) o) h.lt
/-- The table: a row of the call's own, or one without its first, or none. -/
def TbO (base : Nat) (w : World) (v : Value) (l : List Sg) : Prop :=
  OwnSg 44 base w v l ∨ (∃ a, v = .slice (some a) 0 0 ∧ l = []) ∨ ∃ (b n c : Nat) (L : List Sg), OwnSg 44 base w (.slice (some ⟨b, 0, none⟩) n c) L ∧ n = L.length ∧ 0 < L.length ∧ v = .slice (some ⟨b, 5, none⟩) (n - 1) (c - 1) ∧ l = L.tail
theorem TbO.rd {base : Nat} {w : World} {v : Value} {l : List Sg} (h : TbO base w v l) : RdSg w v l := by
  rcases h with h | ⟨a, rfl, rfl⟩ | ⟨b, n, c, L, h1, h2, h3, rfl, rfl⟩
  · exact h.rd
  · exact .inl ⟨_, _, rfl, rfl, fun h => by cases h⟩
  · have := RdSg.tail h1.rd h2 h3
    rwa [Nat.zero_add] at this
theorem TbO.notg {base : Nat} {w w' : World} {v : Value} {l : List Sg} {g : Nat} (h : TbO base w v l) (hg : w.grownBy w' (some g)) (hb : g < base) : TbO base w' v l := by
  rcases h with h | h | ⟨b, n, c, L, h1, r⟩
  · exact .inl (row_notg h hg hb)
  · exact .inr (.inl h)
  · exact .inr (.inr ⟨b, n, c, L, row_notg h1 hg hb, r⟩)
theorem TbO.below {B base : Nat} {w w' : World} {v : Value} {l : List Sg} (h : TbO base w v l) (hb : Below B w w') (hB : w.heap.size ≤ B) : TbO base w' v l := by
  rcases h with h | h | ⟨b, n, c, L, h1, r⟩
  · exact .inl (row_below h hb hB)
  · exact .inr (.inl h)
  · exact .inr (.inr ⟨b, n, c, L, row_below h1 hb hB, r⟩)
/-- A word drawn lies in block B; the answer's place is still empty. -/
structure Dg (w0 w W : World) (B bs : Nat) (cv : Value) (code : List UInt8) (m : Mg) (v : Mv) : Prop where
  z : Blk W w.heap.size 37 [.int .i64 0, .string { data := #[] }, .int .i64 0, .slice none 0 0, .int .i64 0, .int .i64 0, .string { data := #[] }, .int .i64 0, .int .i64 0, .string { data := #[] }, .int .i64 0, .int .i64 0, .slice none 0 0, .int .i64 0, .slice none 0 0, .slice none 0 0]
  o : Blk W B 37 (mgC m v)
  om : OwnM bs W m v
  lb : w.heap.size + 1 < bs
  lo : w.heap.size + 1 < B
  cur : Cur w0 W (w.heap.size + 1) cv code
  bl : Below w.heap.size w W
theorem Dg.call {w0 w W W' : World} {B bs : Nat} {cv : Value} {code : List UInt8} {m : Mg} {v : Mv} (h : Dg w0 w W B bs cv code m v) (hc : Cur w0 W' (w.heap.size + 1) cv code) (hg : W.grownBy W' (some (w.heap.size + 1))) : Dg w0 w W' B bs cv code m v :=
  have h1 := h.lo
  have h2 := h.lb
  have h3 := h.o.lt
  ⟨grown_blk h.z hg (fun e => by injection e with e; omega), grown_blk h.o hg (fun e => by injection e with e; omega), h.om.notg hg h.lb, h.lb, h.lo, hc, h.bl.grown hg (by omega) (fun j hj => by cases hj; omega)⟩
theorem Dg.bel {w0 w W W' : World} {B bs : Nat} {cv : Value} {code : List UInt8} {m : Mg} {v : Mv} (h : Dg w0 w W B bs cv code m v) (hb : Below W.heap.size W W') : Dg w0 w W' B bs cv code m v :=
  ⟨h.z.below hb h.z.lt, h.o.below hb h.o.lt, h.om.below hb (Nat.le_refl _), h.lb, h.lo, h.cur.below hb h.cur.lt, h.bl.trans (hb.mono h.bl.size)⟩
theorem grw_reflS (w : World) (row : Option Nat) : w.grownBy w row := ⟨rfl, rfl, rfl, Nat.le_refl _, fun _ _ _ => rfl⟩
theorem grw_drewS {a w : World} {row : Option Nat} (h : a.grownBy w row) : a.grownBy w.drew row := ⟨h.os, h.tape, h.output, h.size, h.block⟩
theorem grw_setS {a w : World} {g j : Nat} {u : Value} (h : a.grownBy w (some g)) : a.grownBy (w.setCell ⟨g, j, none⟩ u) (some g) := grw_trans h (grown_set w g j u)
theorem grw_allocS {a w : World} {row : Option Nat} {o : Obj} (h : a.grownBy w row) : a.grownBy (w.alloc o) row := grw_trans h (grw_of_below row ((Below.refl _ w).alloc (Nat.le_refl _) o) (Nat.le_refl _))
theorem sg_fin {w1 w wA X : World} {B bs bt : Nat} {cv lv fv : Value} {code : List UInt8} {m : Mg} {v : Mv} {T : List Sg} {fs : List ByteArray} (hD : Dg w1 w wA B bs cv code m v) (hT : TbO bt wA lv T) (hbt : w.heap.size < bt) (hS : OwnS (w.heap.size + 2) wA fv fs) (hg : wA.grownBy X (some w.heap.size)) :
    RdSg X lv T ∧ RdS X fv fs ∧ RdM X m v ∧ Below w.heap.size w X :=
  have h1 := hD.lb
  ⟨(hT.notg hg hbt).rd, OwnS.rd (row_notg hS hg (by omega)), (hD.om.notg hg (by omega)).rd, hD.bl.trans ((Below.refl _ wA).grown hg (hD.bl.size) (fun j hj => by cases hj; exact Nat.le_refl _))⟩
theorem sg_end {w1 w wA X : World} {B bs bt : Nat} {cv lv fv : Value} {code : List UInt8} {m : Mg} {v : Mv} {T : List Sg} {fs : List ByteArray} (hD : Dg w1 w wA B bs cv code m v) (hT : TbO bt wA lv T) (hbt : w.heap.size < bt) (hS : OwnS (w.heap.size + 2) wA fv fs) (hF : FcM m) (hM : (∀ s ∈ T, s ∈ sgS m) ∧ T.length ≤ 50000000) (h5 : fs.length ≤ 5) (hg : wA.grownBy X (some w.heap.size)) :
    ∃ (vt vf : Value) (table : List Sg) (foul : List ByteArray) (m' : Mg) (v' : Mv), Ending.returned (.tuple #[lv, fv, mgV m v]) = .returned (.tuple #[vt, vf, mgV m' v']) ∧ RdSg X vt table ∧ RdS X vf foul ∧ RdM X m' v' ∧ FcM m' ∧ (∀ s ∈ table, s ∈ sgS m') ∧ table.length ≤ 50000000 ∧ foul.length ≤ 1000 ∧ Below w.heap.size w X :=
  have q := sg_fin hD hT hbt hS hg
  ⟨lv, fv, T, fs, m, v, rfl, q.1, q.2.1, q.2.2.1, hF, hM.1, hM.2, by omega, q.2.2.2⟩
theorem sg_end0 {w1 w wA X : World} {B bs : Nat} {cv fv : Value} {code : List UInt8} {m : Mg} {v : Mv} {fs : List ByteArray} {a : Addr} (hD : Dg w1 w wA B bs cv code m v) (hS : OwnS (w.heap.size + 2) wA fv fs) (hF : FcM m) (h5 : fs.length ≤ 5) (hg : wA.grownBy X (some w.heap.size)) :
    ∃ (vt vf : Value) (table : List Sg) (foul : List ByteArray) (m' : Mg) (v' : Mv), Ending.returned (.tuple #[.slice (some a) 0 0, fv, mgV m v]) = .returned (.tuple #[vt, vf, mgV m' v']) ∧ RdSg X vt table ∧ RdS X vf foul ∧ RdM X m' v' ∧ FcM m' ∧ (∀ s ∈ table, s ∈ sgS m') ∧ table.length ≤ 50000000 ∧ foul.length ≤ 1000 ∧ Below w.heap.size w X :=
  have h1 := hD.lb
  ⟨_, fv, [], fs, m, v, rfl, .inl ⟨_, 0, rfl, rfl, fun h => by cases h⟩, OwnS.rd (row_notg hS hg (by omega)), (hD.om.notg hg (by omega)).rd, hF, by simp, by simp, by omega, hD.bl.trans ((Below.refl _ wA).grown hg (hD.bl.size) (fun j hj => by cases hj; exact Nat.le_refl _))⟩
theorem blk16 {W : World} {B : Nat} {t : TypeId} {z0 z1 z2 z3 z4 z5 z6 z7 z8 z9 z10 z11 z12 z13 z14 z15 u0 u1 u2 u3 u4 u5 u6 u7 u8 u9 u10 u11 u12 u13 u14 u15 : Value} (h : Blk W B t [z0, z1, z2, z3, z4, z5, z6, z7, z8, z9, z10, z11, z12, z13, z14, z15]) : Blk ((((((((((((((((W.setCell ⟨B, 0, none⟩ u0).setCell ⟨B, 1, none⟩ u1).setCell ⟨B, 2, none⟩ u2).setCell ⟨B, 3, none⟩ u3).setCell ⟨B, 4, none⟩ u4).setCell ⟨B, 5, none⟩ u5).setCell ⟨B, 6, none⟩ u6).setCell ⟨B, 7, none⟩ u7).setCell ⟨B, 8, none⟩ u8).setCell ⟨B, 9, none⟩ u9).setCell ⟨B, 10, none⟩ u10).setCell ⟨B, 11, none⟩ u11).setCell ⟨B, 12, none⟩ u12).setCell ⟨B, 13, none⟩ u13).setCell ⟨B, 14, none⟩ u14).setCell ⟨B, 15, none⟩ u15) B t [u0, u1, u2, u3, u4, u5, u6, u7, u8, u9, u10, u11, u12, u13, u14, u15] := ((((((((((((((((h.setS 0 u0).setS 1 u1).setS 2 u2).setS 3 u3).setS 4 u4).setS 5 u5).setS 6 u6).setS 7 u7).setS 8 u8).setS 9 u9).setS 10 u10).setS 11 u11).setS 12 u12).setS 13 u13).setS 14 u14).setS 15 u15)
theorem sg_gen {K : Act → World → Prop} {Q : Exit → Act → World → Prop} {e : Exit} {a : Act} {W : World} {S : World → Prop} (hS : S W) (h : ∀ X, S X → Exit.then K Q e a X) : Exit.then K Q e a W := h W hS
/-- What DrawSigned answers, where its third result's place holds the word. -/
theorem res_sg {X : World} {a : Act} {R : Ending → World → Prop} {lv fv : Value} {m : Mg} {v : Mv} (g : Nat) (h : Blk X g 37 (mgC m v)) (h2 : a.tmps[2]?.getD undef = lv) (h3 : a.tmps[3]?.getD undef = fv) (h4 : a.tmps[4]?.getD undef = .pointer (some ⟨g, 0, none⟩)) (hd : a.defers = []) (hR : R (.returned (.tuple #[lv, fv, mgV m v])) X) : bodyPost Try.prog Try.f5 R .ret a X := by
  have hl := run_loadVar_mid (P := Try.prog) X g 0 37 (mgC m v) _ (fun j u hu => by rw [Nat.zero_add]; exact (h.cell j).trans hu) Try.underlying37 rfl (by simp only [mgC, List.length_cons, List.length_nil]; kernel_rfl)
  refine bodyPost_ret (v := .tuple #[lv, fv, mgV m v]) ?_ hd hR
  simp [results, Try.f5, h2, h3, h4, asAddr, hl, mgC, mgV]
set_option maxRecDepth 20000 in
set_option maxHeartbeats 8000000 in
theorem drawSigned_any (w : World) (cv : Value) (code : List UInt8) (hr : RdB w cv code) (hl : code.length ≤ 1048576) :
    Calls Try.prog 5 #[cv] w fun e w' => ∃ (vt vf : Value) (table : List Sg) (foul : List ByteArray) (m : Mg) (v : Mv), e = .returned (.tuple #[vt, vf, mgV m v]) ∧ RdSg w' vt table ∧ RdS w' vf foul ∧ RdM w' m v ∧ FcM m ∧ (∀ s ∈ table, s ∈ sgS m) ∧ table.length ≤ 50000000 ∧ foul.length ≤ 1000 ∧ Below w.heap.size w w' := by
  obtain ⟨w1, hw1⟩ : ∃ w1, w.alloc (.cells #[.int .i64 0, .string { data := #[] }, .int .i64 0, .slice none 0 0, .int .i64 0, .int .i64 0, .string { data := #[] }, .int .i64 0, .int .i64 0, .string { data := #[] }, .int .i64 0, .int .i64 0, .slice none 0 0, .int .i64 0, .slice none 0 0, .slice none 0 0] 37) = w1 := ⟨_, rfl⟩
  have hb1 : Below w.heap.size w w1 := by rw [← hw1]; exact (Below.refl _ w).alloc (Nat.le_refl _) _
  have hs1 : w1.heap.size = w.heap.size + 1 := by rw [← hw1]; simp
  have K1 : Hid (Blk w1 w.heap.size 37 [.int .i64 0, .string { data := #[] }, .int .i64 0, .slice none 0 0, .int .i64 0, .int .i64 0, .string { data := #[] }, .int .i64 0, .int .i64 0, .string { data := #[] }, .int .i64 0, .int .i64 0, .slice none 0 0, .int .i64 0, .slice none 0 0, .slice none 0 0]) := hide (by rw [← hw1]; exact Blk.new w _ _)
  have Hn := hide (l1New_any w1 cv code (hr.below hb1 (Nat.le_refl _)) hl)
  have HB1 := hide hb1
  clear hr hb1
  go_enter Try.func5, Try.ntmps5
  go_wp2_with fail
  refine Hn.out.mono ?_
  rintro e w2 ⟨rfl, hc2, hb2⟩
  have hg := hc2.lt
  have hg2 : w.heap.size + 1 < w2.heap.size := by omega
  have K2 := hide (K1.out.below hb2 (by omega))
  have B2 := hide (HB1.out.trans (hb2.mono HB1.out.size))
  have z2 := hb2.size
  rw [hs1] at *
  clear hb2 K1 Hn
  go_wp2_with fail
  refine (l13Draw_any w1 w2 (w.heap.size + 1) cv code hc2 hl).mono ?_
  rintro e w3 ⟨m, v, rfl, om, hF, hc3, hg3⟩
  obtain ⟨vb, vq, vw, vh⟩ := v
  obtain ⟨ab, cb, hvb⟩ := om.b.rd.shape
  obtain ⟨aq, cq, hvq⟩ := (OwnS.rd om.q).shape
  obtain ⟨aw, cw, hvw⟩ := (OwnS.rd om.p).shape
  obtain ⟨ah, ch, hvh⟩ := (OwnI.rd om.h).shape
  simp only at hvb hvq hvw hvh
  subst hvb hvq hvw hvh
  simp only [mgV]
  obtain ⟨w4, hw4⟩ : ∃ x, w3.alloc (.cells #[.int .i64 m.kd, .string m.tn, .int .i64 m.ep, .slice ab m.bs.length cb, .int .i64 m.vr, .int .i64 m.vb, .string m.vw, .int .i64 m.gr, .int .i64 m.gh, .string m.gw, .int .i64 m.qr, .int .i64 m.qb, .slice aq m.qw.length cq, .int .i64 m.tr, .slice aw m.tw.length cw, .slice ah m.th.length ch] 37) = x := ⟨_, rfl⟩
  have b4 : Below w3.heap.size w3 w4 := by rw [← hw4]; exact (Below.refl _ w3).alloc (Nat.le_refl _) _
  have k4 : Blk w4 w3.heap.size 37 [.int .i64 m.kd, .string m.tn, .int .i64 m.ep, .slice ab m.bs.length cb, .int .i64 m.vr, .int .i64 m.vb, .string m.vw, .int .i64 m.gr, .int .i64 m.gh, .string m.gw, .int .i64 m.qr, .int .i64 m.qb, .slice aq m.qw.length cq, .int .i64 m.tr, .slice aw m.tw.length cw, .slice ah m.th.length ch] := by rw [← hw4]; exact Blk.new w3 _ _
  have K4 := hide k4
  have s3 := hg3.size
  have OM4 := hide (om.below b4 (Nat.le_refl _))
  have HF := hide hF
  have hc4 := hc3.below b4 hc3.lt
  have Z4 := hide ((grown_blk K2.out hg3 (fun e => by injection e with e; omega)).below b4 (by have := K2.out.lt; omega))
  have B4 : Hid (Below w.heap.size w w4) := hide (B2.out.trans (((Below.refl _ w2).grown hg3 (by omega) (fun j hj => by cases hj; omega)).trans (b4.mono (by omega))))
  have HG := hide (fun V h => specSigs_any m ⟨.slice ab m.bs.length cb, .slice aq m.qw.length cq, .slice aw m.tw.length cw, .slice ah m.th.length ch⟩ V h hF.bl ⟨hF.q.1, hF.t.1⟩ (fc_two hF))
  have hLl := sgS_len m hF.bl ⟨hF.q.1, hF.t.1⟩ (fc_two hF)
  have HLen : Hid (∀ V x, RdSg V x (sgS m) → ∃ a c, x = .slice a (sgS m).length c) := hide (fun V x h => h.shape)
  simp only [mgV] at HG
  have hgl4 : w.heap.size + 1 < w3.heap.size := by omega
  clear om hF b4 k4 hc3 hg3 K2 B2 hc2
  go_upto_region 3 with fail
  obtain ⟨M, hM⟩ : ∃ M, Value.agg #[.int .i64 m.kd, .string m.tn, .int .i64 m.ep, .slice ab m.bs.length cb, .int .i64 m.vr, .int .i64 m.vb, .string m.vw, .int .i64 m.gr, .int .i64 m.gh, .string m.gw, .int .i64 m.qr, .int .i64 m.qb, .slice aq m.qw.length cq, .int .i64 m.tr, .slice aw m.tw.length cw, .slice ah m.th.length ch] = M := ⟨_, rfl⟩
  rw [hM] at HG
  go_wp2_with (first | (refine loadS_mg _ rfl w3.heap.size rfl K4.out hM (by rfl) ?_) | fail)
  refine (HG.out w4 OM4.out.rd).mono ?_
  rintro e w5 ⟨v5, rfl, o5, hb5⟩
  obtain ⟨a5, c5, hv5⟩ := HLen.out _ _ o5.rd
  subst hv5
  have HD5 : Hid (Dg w1 w w5 w3.heap.size w2.heap.size cv code m ⟨.slice ab m.bs.length cb, .slice aq m.qw.length cq, .slice aw m.tw.length cw, .slice ah m.th.length ch⟩) := hide ⟨Z4.out.below hb5 (by have := Z4.out.lt; omega), K4.out.below hb5 K4.out.lt, OM4.out.below hb5 (Nat.le_refl _), hg2, hgl4, hc4.below hb5 hc4.lt, B4.out.trans (hb5.mono B4.out.size)⟩
  have s45 : w.heap.size + 1 < w4.heap.size := by have := K4.out.lt; omega
  have O5 : Hid (OwnSg 44 w4.heap.size w5 (.slice a5 (sgS m).length c5) (sgS m)) := hide o5
  clear HG OM4 Z4 B4 K4 hc4 o5 hb5 HLen
  generalize hL : sgS m = L at *
  have hLz : (0 : Int) ≤ (L.length : Int) := by omega
  have HLl := hide hLl
  clear hLl
  go_upto_region 4 with fail
  go_cut [21] from 15 (fun bv wc => ∃ o : Bool, bv = .bool o ∧ (o = true → 0 < L.length) ∧ OwnSg 44 w4.heap.size wc (.slice a5 L.length c5) L ∧ Dg w1 w wc w3.heap.size w2.heap.size cv code m ⟨.slice ab m.bs.length cb, .slice aq m.qw.length cq, .slice aw m.tw.length cw, .slice ah m.th.length ch⟩)
  case first =>
    by_cases hL0 : L.length = 0
    · have hLi : ¬ (0 : Int) < (L.length : Int) := by omega
      clear hL0
      go_wp2
      go_meet
      case rel => exact ⟨_, rfl, fun h => (by simp at h), O5.out, HD5.out⟩
    · have hLi : (0 : Int) < (L.length : Int) := by omega
      go_wp2_with fail
      refine (l1Once_any w1 _ (w.heap.size + 1) cv code 3 HD5.out.cur hl (by omega) (by omega)).mono ?_
      rintro e w6 ⟨o1, rfl, hc6, hg6⟩
      have HD6 := hide (HD5.out.call hc6 hg6)
      have O6 := hide (row_notg O5.out hg6 (by omega))
      clear hc6 hg6
      go_wp2
      go_meet
      case rel => exact ⟨_, rfl, fun _ => by omega, O6.out, HD6.out⟩
  case rest =>
  clear HD5 O5
  obtain ⟨o1, rfl, hpos, o6, hD6⟩ := hcut
  have HD6 := hide hD6
  have O6 := hide o6
  clear hD6
  go_upto_if 21 with fail
  go_cut [7] from 9 (fun lv wc => ∃ (T : List Sg) (a : Option Addr) (c : Nat), lv = .slice a T.length c ∧ TbO w4.heap.size wc (.slice a T.length c) T ∧ ((∀ s ∈ T, s ∈ L) ∧ T.length ≤ 50000000) ∧ Dg w1 w wc w3.heap.size w2.heap.size cv code m ⟨.slice ab m.bs.length cb, .slice aq m.qw.length cq, .slice aw m.tw.length cw, .slice ah m.th.length ch⟩)
  case first =>
    cases o1
    · clear o6 hpos
      go_wp2
      go_meet
      case rel => exact ⟨L, _, _, rfl, .inl O6.out, ⟨fun s hs => hs, HLl.out⟩, HD6.out⟩
    · have hp : 0 < L.length := hpos rfl
      have hLi : (0 : Int) < (L.length : Int) := by omega
      obtain ⟨b5, hb5⟩ : ∃ b5, a5 = some ⟨b5, 0, none⟩ := OwnSg.at0 o6 hp
      subst hb5
      have hcp : L.length ≤ c5 := OwnSg.room o6 hp
      have HTl : Hid (∀ s ∈ L.tail, s ∈ L) := hide (fun s hs => List.mem_of_mem_tail hs)
      have htl : L.tail.length = L.length - 1 := by simp
      clear o6 hpos
      by_cases hc1 : c5 = 1
      · have HT0 : Hid (TbO w4.heap.size wc (.slice (some ⟨b5, 0, none⟩) 0 0) []) := hide (.inr (.inl ⟨_, rfl, rfl⟩))
        subst hc1
        clear htl
        go_wp2
        go_meet
        case rel => exact ⟨[], _, _, rfl, HT0.out, ⟨fun s hs => (by cases hs), by simp⟩, HD6.out⟩
      · have HT0 : Hid (TbO w4.heap.size wc (.slice (some ⟨b5, 5, none⟩) (L.length - 1) (c5 - 1)) L.tail) := hide (.inr (.inr ⟨b5, L.length, c5, L, O6.out, rfl, hp, rfl, rfl⟩))
        have HTe := hide htl
        clear htl
        go_wp2
        all_goals first
          | (exfalso; omega)
          | (go_meet
             case rel => exact ⟨L.tail, _, _, by rw [HTe.out], by rw [HTe.out]; exact HT0.out, ⟨HTl.out, by rw [HTe.out]; have := HLl.out; omega⟩, HD6.out⟩)
  case rest =>
  clear HD6 O6 o6 hpos
  obtain ⟨T, at7, ct7, rfl, hT, hM6, hD⟩ := hcut
  have HM6 := hide hM6
  have HT6 := hide hT
  have HD6 := hide hD
  clear hT hD hM6
  obtain ⟨wc6, hwc6⟩ : ∃ x, x = wc := ⟨_, rfl⟩
  subst hwc6
  obtain ⟨w7, hw7⟩ : ∃ x, wc6.alloc (.cells #[] 9) = x := ⟨_, rfl⟩
  have b7 : Below wc6.heap.size wc6 w7 := by rw [← hw7]; exact (Below.refl _ _).alloc (Nat.le_refl _) _
  have HD7 := hide (HD6.out.bel b7)
  have HT7 := hide (HT6.out.below b7 (Nat.le_refl _))
  have hs6 := HD6.out.o.lt
  have HS7 : Hid (OwnS (w.heap.size + 2) w7 (.slice (some ⟨wc6.heap.size, 0, none⟩) 0 0) []) := hide (by rw [← hw7]; exact World.ownsRow_lit _ #[] 0 (by have := HD6.out.lo; omega) (by unfold maxLen; omega) (by simp))
  clear HD6 HT6 b7
  go_wp2_with fail
  refine (l1Once_any w1 _ (w.heap.size + 1) cv code 2 HD7.out.cur hl (by omega) (by omega)).mono ?_
  rintro e w8 ⟨o2, rfl, hc8, hg8⟩
  have HD8 := hide (HD7.out.call hc8 hg8)
  have HT8 := hide (HT7.out.notg hg8 (by omega))
  have HS8 := hide (row_notg HS7.out hg8 (by omega))
  clear HD7 HT7 HS7 hc8 hg8
  go_upto_if 26 with fail
  go_cut [8] from 9 (fun fv wc => ∃ (a : Option Addr) (c : Nat) (fs : List ByteArray), fv = .slice a fs.length c ∧ OwnS (w.heap.size + 2) wc (.slice a fs.length c) fs ∧ fs.length ≤ 5 ∧ Dg w1 w wc w3.heap.size w2.heap.size cv code m ⟨.slice ab m.bs.length cb, .slice aq m.qw.length cq, .slice aw m.tw.length cw, .slice ah m.th.length ch⟩ ∧ TbO w4.heap.size wc (.slice at7 T.length ct7) T)
  case first =>
    cases o2
    · go_wp2
      go_meet
      case rel => exact ⟨_, _, [], rfl, HS8.out, by simp, HD8.out, HT8.out⟩
    · go_wp2_with fail
      refine (l1Names_any w1 _ (w.heap.size + 1) cv code HD8.out.cur hl).mono ?_
      rintro e w9 ⟨vf, fs, rfl, of, hf5, -, hc9, hg9⟩
      obtain ⟨af, cf, rfl⟩ := of.rd.shape
      have HD9 := hide (HD8.out.call hc9 hg9)
      have HT9 := hide (HT8.out.notg hg9 (by omega))
      have HS9 := hide (row_mono (base' := w.heap.size + 2) of (by have := HD8.out.o.lt; have := HD8.out.lo; omega))
      clear of hc9 hg9
      go_wp2
      go_meet
      case rel => exact ⟨_, _, fs, rfl, HS9.out, hf5, HD9.out, HT9.out⟩
  case rest =>
    clear HD8 HT8 HS8
    obtain ⟨af, cf, fs, rfl, hof, hf5, hD, hT⟩ := hcut
    have HDa := hide hD
    have HTa := hide hT
    have HSa := hide hof
    clear hD hT hof
    go_wp2_with fail
    refine (l1Once_any w1 _ (w.heap.size + 1) cv code 4 HDa.out.cur hl (by omega) (by omega)).mono ?_
    rintro e wA ⟨o3, rfl, hcA, hgA⟩
    have HDb := hide (HDa.out.call hcA hgA)
    have HTb := hide (HTa.out.notg hgA (by omega))
    have HSb := hide (row_notg HSa.out hgA (by omega))
    clear HDa HTa HSa hcA hgA
    have t0 := HDb.out.o.cell 0
    have e0 := HDb.out.z.cell 0
    have f0 := HDb.out.z.frozen 0
    have t1 := HDb.out.o.cell 1
    have e1 := HDb.out.z.cell 1
    have f1 := HDb.out.z.frozen 1
    have t2 := HDb.out.o.cell 2
    have e2 := HDb.out.z.cell 2
    have f2 := HDb.out.z.frozen 2
    have t3 := HDb.out.o.cell 3
    have e3 := HDb.out.z.cell 3
    have f3 := HDb.out.z.frozen 3
    have t4 := HDb.out.o.cell 4
    have e4 := HDb.out.z.cell 4
    have f4 := HDb.out.z.frozen 4
    have t5 := HDb.out.o.cell 5
    have e5 := HDb.out.z.cell 5
    have f5 := HDb.out.z.frozen 5
    have t6 := HDb.out.o.cell 6
    have e6 := HDb.out.z.cell 6
    have f6 := HDb.out.z.frozen 6
    have t7 := HDb.out.o.cell 7
    have e7 := HDb.out.z.cell 7
    have f7 := HDb.out.z.frozen 7
    have t8 := HDb.out.o.cell 8
    have e8 := HDb.out.z.cell 8
    have f8 := HDb.out.z.frozen 8
    have t9 := HDb.out.o.cell 9
    have e9 := HDb.out.z.cell 9
    have f9 := HDb.out.z.frozen 9
    have t10 := HDb.out.o.cell 10
    have e10 := HDb.out.z.cell 10
    have f10 := HDb.out.z.frozen 10
    have t11 := HDb.out.o.cell 11
    have e11 := HDb.out.z.cell 11
    have f11 := HDb.out.z.frozen 11
    have t12 := HDb.out.o.cell 12
    have e12 := HDb.out.z.cell 12
    have f12 := HDb.out.z.frozen 12
    have t13 := HDb.out.o.cell 13
    have e13 := HDb.out.z.cell 13
    have f13 := HDb.out.z.frozen 13
    have t14 := HDb.out.o.cell 14
    have e14 := HDb.out.z.cell 14
    have f14 := HDb.out.z.frozen 14
    have t15 := HDb.out.o.cell 15
    have e15 := HDb.out.z.cell 15
    have f15 := HDb.out.z.frozen 15
    simp only [mgC, List.getElem?_cons_zero, List.getElem?_cons_succ] at t0 e0 t1 e1 t2 e2 t3 e3 t4 e4 t5 e5 t6 e6 t7 e7 t8 e8 t9 e9 t10 e10 t11 e11 t12 e12 t13 e13 t14 e14 t15 e15
    have hlo := HDb.out.lo
    subst hM
    cases o3
    · go_wp2
      go_region
      all_goals
        refine sg_gen (S := fun X => Blk X w.heap.size 37 [.int .i64 m.kd, .string m.tn, .int .i64 m.ep, .slice ab m.bs.length cb, .int .i64 m.vr, .int .i64 m.vb, .string m.vw, .int .i64 m.gr, .int .i64 m.gh, .string m.gw, .int .i64 m.qr, .int .i64 m.qb, .slice aq m.qw.length cq, .int .i64 m.tr, .slice aw m.tw.length cw, .slice ah m.th.length ch] ∧ wA.grownBy X (some w.heap.size)) ⟨Blk.drewR (blk16 HDb.out.z), ?_⟩ ?_
        · repeat (first | (with_reducible exact grw_reflS _ _) | (with_reducible refine grw_drewS ?_) | (with_reducible refine grw_setS ?_) | (with_reducible refine grw_allocS ?_))
        rintro X ⟨hX, hgX⟩
        have HX := hide hX
        have HGX := hide hgX
        clear hX hgX
        go_wp2
        refine res_sg (m := m) (v := ⟨.slice ab m.bs.length cb, .slice aq m.qw.length cq, .slice aw m.tw.length cw, .slice ah m.th.length ch⟩) w.heap.size HX.out (by rfl) (by rfl) (by rfl) rfl ?_
        exact sg_end HDb.out HTb.out (by omega) HSb.out HF.out (hL ▸ HM6.out) hf5 HGX.out
    · have T0 := (HDb.out.o.alSg (.cells #[] 44)).cell 0
      have E0 := (HDb.out.z.alSg (.cells #[] 44)).cell 0
      have G0 := (HDb.out.z.alSg (.cells #[] 44)).frozen 0
      have T1 := (HDb.out.o.alSg (.cells #[] 44)).cell 1
      have E1 := (HDb.out.z.alSg (.cells #[] 44)).cell 1
      have G1 := (HDb.out.z.alSg (.cells #[] 44)).frozen 1
      have T2 := (HDb.out.o.alSg (.cells #[] 44)).cell 2
      have E2 := (HDb.out.z.alSg (.cells #[] 44)).cell 2
      have G2 := (HDb.out.z.alSg (.cells #[] 44)).frozen 2
      have T3 := (HDb.out.o.alSg (.cells #[] 44)).cell 3
      have E3 := (HDb.out.z.alSg (.cells #[] 44)).cell 3
      have G3 := (HDb.out.z.alSg (.cells #[] 44)).frozen 3
      have T4 := (HDb.out.o.alSg (.cells #[] 44)).cell 4
      have E4 := (HDb.out.z.alSg (.cells #[] 44)).cell 4
      have G4 := (HDb.out.z.alSg (.cells #[] 44)).frozen 4
      have T5 := (HDb.out.o.alSg (.cells #[] 44)).cell 5
      have E5 := (HDb.out.z.alSg (.cells #[] 44)).cell 5
      have G5 := (HDb.out.z.alSg (.cells #[] 44)).frozen 5
      have T6 := (HDb.out.o.alSg (.cells #[] 44)).cell 6
      have E6 := (HDb.out.z.alSg (.cells #[] 44)).cell 6
      have G6 := (HDb.out.z.alSg (.cells #[] 44)).frozen 6
      have T7 := (HDb.out.o.alSg (.cells #[] 44)).cell 7
      have E7 := (HDb.out.z.alSg (.cells #[] 44)).cell 7
      have G7 := (HDb.out.z.alSg (.cells #[] 44)).frozen 7
      have T8 := (HDb.out.o.alSg (.cells #[] 44)).cell 8
      have E8 := (HDb.out.z.alSg (.cells #[] 44)).cell 8
      have G8 := (HDb.out.z.alSg (.cells #[] 44)).frozen 8
      have T9 := (HDb.out.o.alSg (.cells #[] 44)).cell 9
      have E9 := (HDb.out.z.alSg (.cells #[] 44)).cell 9
      have G9 := (HDb.out.z.alSg (.cells #[] 44)).frozen 9
      have T10 := (HDb.out.o.alSg (.cells #[] 44)).cell 10
      have E10 := (HDb.out.z.alSg (.cells #[] 44)).cell 10
      have G10 := (HDb.out.z.alSg (.cells #[] 44)).frozen 10
      have T11 := (HDb.out.o.alSg (.cells #[] 44)).cell 11
      have E11 := (HDb.out.z.alSg (.cells #[] 44)).cell 11
      have G11 := (HDb.out.z.alSg (.cells #[] 44)).frozen 11
      have T12 := (HDb.out.o.alSg (.cells #[] 44)).cell 12
      have E12 := (HDb.out.z.alSg (.cells #[] 44)).cell 12
      have G12 := (HDb.out.z.alSg (.cells #[] 44)).frozen 12
      have T13 := (HDb.out.o.alSg (.cells #[] 44)).cell 13
      have E13 := (HDb.out.z.alSg (.cells #[] 44)).cell 13
      have G13 := (HDb.out.z.alSg (.cells #[] 44)).frozen 13
      have T14 := (HDb.out.o.alSg (.cells #[] 44)).cell 14
      have E14 := (HDb.out.z.alSg (.cells #[] 44)).cell 14
      have G14 := (HDb.out.z.alSg (.cells #[] 44)).frozen 14
      have T15 := (HDb.out.o.alSg (.cells #[] 44)).cell 15
      have E15 := (HDb.out.z.alSg (.cells #[] 44)).cell 15
      have G15 := (HDb.out.z.alSg (.cells #[] 44)).frozen 15
      simp only [mgC, List.getElem?_cons_zero, List.getElem?_cons_succ] at T0 E0 T1 E1 T2 E2 T3 E3 T4 E4 T5 E5 T6 E6 T7 E7 T8 E8 T9 E9 T10 E10 T11 E11 T12 E12 T13 E13 T14 E14 T15 E15
      go_wp2
      go_region
      all_goals
        refine sg_gen (S := fun X => Blk X w.heap.size 37 [.int .i64 m.kd, .string m.tn, .int .i64 m.ep, .slice ab m.bs.length cb, .int .i64 m.vr, .int .i64 m.vb, .string m.vw, .int .i64 m.gr, .int .i64 m.gh, .string m.gw, .int .i64 m.qr, .int .i64 m.qb, .slice aq m.qw.length cq, .int .i64 m.tr, .slice aw m.tw.length cw, .slice ah m.th.length ch] ∧ wA.grownBy X (some w.heap.size)) ⟨(by first | (with_reducible exact Blk.drewR (blk16 (HDb.out.z.alSg _))) | (with_reducible exact Blk.drewR (blk16 HDb.out.z))), ?_⟩ ?_
        · repeat (first | (with_reducible exact grw_reflS _ _) | (with_reducible refine grw_drewS ?_) | (with_reducible refine grw_setS ?_) | (with_reducible refine grw_allocS ?_))
        rintro X ⟨hX, hgX⟩
        have HX := hide hX
        have HGX := hide hgX
        clear hX hgX
        go_wp2
        refine res_sg (m := m) (v := ⟨.slice ab m.bs.length cb, .slice aq m.qw.length cq, .slice aw m.tw.length cw, .slice ah m.th.length ch⟩) w.heap.size HX.out (by rfl) (by rfl) (by rfl) rfl ?_
        exact sg_end0 HDb.out HSb.out HF.out hf5 HGX.out
end Go.Proofs.Ytkidfkngehcjgaa
