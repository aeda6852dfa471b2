/- Orders of a pool that fit, one behind the other, on both sides. -/
import Derived.Test.YtbbkeebfginlfaaGreatDoorZgGdImpl
import Derived.Test.YtbbkeebfginlfaaGreatDoorZgLgAllI
import Derived.Test.YtbbkeebfginlfaaGreatDoorZgLgApplyS
import Derived.Test.YtbbkeebfginlfaaGreatDoorZgTxApp
namespace Go.Proofs.YtbbkeebfginlfaaGreatDoor
open Go.RowKit
set_option linter.unusedVariables false

/-- Those of these orders that are good one behind the other. -/
def fiA (e : Int) (l : List Ac) (ts : List Tx5) : List Tx5 := (gdA e l ts ts.length).2
theorem fiA_len (e : Int) (l : List Ac) (ts : List Tx5) : (fiA e l ts).length ≤ ts.length := gdA_len e l ts ts.length
theorem row_agr {base : Nat} {w W : World} {e : TypeId} {size : Nat} {v : Value} {n : Nat} {xs : List Value} (h : w.ownsRow base e size v n xs) (hb : ∀ k, v.ownBlock = some k → W.heap[k]? = w.heap[k]?) : W.ownsRow base e size v n xs := by
  refine ⟨h.1, ?_⟩
  rcases h.2 with h' | ⟨g, cap, cur, hv, hbb, hg, r⟩
  · exact .inl h'
  · exact .inr ⟨g, cap, cur, hv, hbb, (hb g (by rw [hv]; rfl)).trans hg, r⟩
theorem OwnX.agr {base hi : Nat} {w W : World} {v : Value} {l : List Ac} (h : OwnX base hi w v l) (hb : ∀ k, base ≤ k → k < hi → W.heap[k]? = w.heap[k]?) : OwnX base hi W v l := by
  obtain ⟨g, cap, Z, h1, rfl, h3, h4, h5, h6⟩ := h
  have hg := (World.ownsRow.lt h3 g rfl).1
  refine ⟨g, cap, Z, h1, rfl, row_agr h3 (fun k hk => by have : g = k := by simpa [Value.ownBlock] using hk
                                                         subst this; exact hb g hg h5), ⟨fun i hi' => row_agr (h4.own i hi') (fun k hk => hb k ((h4.own i hi').ge k hk) (h6 _ (List.getElem_mem hi') k hk)), h4.far, h4.apart⟩, h5, h6⟩
theorem kpA_ox {N base hi : Nat} {w : World} {v : Value} {P : List Ac} (h : OwnX base hi w v P) (hN : N ≤ w.heap.size) (hh : hi ≤ w.heap.size) : KpA N base hi w v P :=
  ⟨hN, hh, fun W hW => (h.agr (fun k h1 h2 => hW.block k (.inr ⟨h1, h2⟩))).rd⟩
set_option maxRecDepth 20000 in
set_option maxHeartbeats 4000000 in
theorem specFit_any (e : Int) (v vt : Value) (l : List Ac) (ts : List Tx5) (w : World) (hr : RdA w v l) (hrt : RdT w vt ts) (hl : l.length ≤ 3999999) (hall : ∀ a ∈ l, a.1.size ≤ maxLen ∧ a.2.2.2.2.length ≤ 3999999) (hts : ts.length ≤ 4000000) (hta : ∀ t ∈ ts, t.2.1.size ≤ maxLen ∧ t.2.2.1.size ≤ maxLen) :
    Calls Tryz.prog 7 #[vt, lgV e v] w fun en w' => ∃ v', en = .returned v' ∧ OwnT w.heap.size w' v' (fiA e l ts) ∧ Below w.heap.size w w' := by
  obtain ⟨av, cv, rfl⟩ := hr.shape
  obtain ⟨at_, ct, rfl⟩ := hrt.shape
  simp only [lgV] at *
  obtain ⟨w1, hw1⟩ : ∃ w1, w.alloc (.cells #[.int .i64 e, .slice av l.length cv] 33) = w1 := ⟨_, rfl⟩
  have hs1 : w1.heap.size = w.heap.size + 1 := by rw [← hw1]; simp
  have hb1 : Below w.heap.size w w1 := by rw [← hw1]; exact (Below.refl _ w).alloc (Nat.le_refl _) _
  have k1 : Blk w1 w.heap.size 33 [.int .i64 e, .slice av l.length cv] := by rw [← hw1]; exact Blk.new w _ _
  have Ho := hide (own_nilT w1 w1.heap.size (Nat.le_refl _))
  have hb2 : Below w1.heap.size w1 (w1.alloc (.cells #[] 48)) := (Below.refl _ w1).alloc (Nat.le_refl _) _
  have Hk := hide (k1.below hb2 k1.lt)
  have Hb := hide (hb1.trans (hb2.mono hb1.size))
  have XA := hide (kpA_old hr Hb.out)
  have Hrt := hide hrt
  have Hs1 := hide hs1
  have Hfew := hide (fun k => gdA_few (e := e) (ts.take k) ts.length hl hall)
  have Hta := hide hta
  clear hr hrt hb1 k1 hb2 hs1 hall hta
  go_enter Tryz.func7, Tryz.ntmps7
  go_wp2
  go_loopw [5, 6] (fun ov iv wr => ∃ (i : Nat) (a ga : Option Addr) (c gc base hi : Nat), i ≤ ts.length ∧ iv = .int .i64 (i : Int) ∧ ov = .slice ga (gdA e l (ts.take i) ts.length).2.length gc ∧ Blk wr w.heap.size 33 [.int .i64 e, .slice a (gdA e l (ts.take i) ts.length).1.length c] ∧ KpA w.heap.size base hi wr (.slice a (gdA e l (ts.take i) ts.length).1.length c) (gdA e l (ts.take i) ts.length).1 ∧ OwnT w1.heap.size wr (.slice ga (gdA e l (ts.take i) ts.length).2.length gc) (gdA e l (ts.take i) ts.length).2 ∧ (∀ k, (Value.slice ga (gdA e l (ts.take i) ts.length).2.length gc).ownBlock = some k → k < base ∨ hi ≤ k) ∧ (w1.heap.size ≤ base ∨ hi = 0) ∧ w1.heap.size ≤ wr.heap.size ∧ Below w.heap.size w wr) (fun _ iv _ => ts.length - (intOf iv).toNat)
  case atStart => exact ⟨0, av, some ⟨w1.heap.size, 0, none⟩, cv, 0, 0, 0, by omega, rfl, by first | rfl | (rw [hw1]; rfl), Hk.out, XA.out, Ho.out, (fun k hk => .inr (Nat.zero_le _)), .inr rfl, by simp, Hb.out⟩
  case round =>
    obtain ⟨i, a, ga, c, gc, base, hi, hi1, rfl, rfl, kO, x, hG, hap, hdis, hsz, hb⟩ := hrel
    clear Ho Hk Hb XA hw1
    have hwr := hb.size
    have hO := kO.lt
    have few := Hfew.out i
    have hnl := gdA_len e l (ts.take i) ts.length
    have htk : (ts.take i).length ≤ i := by simp; omega
    by_cases hlt : i < ts.length
    · obtain ⟨b, off, rfl, hc1, hc2, hbw, hT⟩ := Hrt.out.at hlt
      have htx := Hta.out ts[i] (List.getElem_mem _)
      have Hsn := hide (gdA_snoc e l ts ts.length i hlt)
      have hne : (gdA e l (ts.take i) ts.length).2.length ≠ ts.length := by omega
      obtain ⟨s, hs⟩ : ∃ s, gdA e l (ts.take i) ts.length = s := ⟨_, rfl⟩
      rw [hs] at kO x hG hap few hnl Hsn hne ⊢
      obtain ⟨P, G⟩ := s
      simp only at kO x hG hap few hnl hne ⊢
      have HA := hide (fun V v h => specApply_any e v P ts[i] V h few.1 few.2 htx.1 htx.2)
      have Hgd := hide (gdS_good (e := e) (most := ts.length) (s := (P, G)) (t := ts[i]) hne)
      have Hbd := hide (gdS_bad (e := e) (most := ts.length) (s := (P, G)) (t := ts[i]) hne)
      simp only at Hgd Hbd
      have HTw := hide hT
      generalize ts[i] = t at hT HA Hgd Hbd Hsn HTw
      generalize (apA e P t).1 = A at HA Hgd
      generalize (apA e P t).2 = C at HA Hgd Hbd
      obtain ⟨p0, p1, p2, p3, p4⟩ := hT
      have q0 := (hb.cell (p := ⟨b, off + i * 5, none⟩) hbw).trans p0
      have q1 := (hb.cell (p := ⟨b, off + i * 5 + 1, none⟩) hbw).trans p1
      have q2 := (hb.cell (p := ⟨b, off + i * 5 + 2, none⟩) hbw).trans p2
      have q3 := (hb.cell (p := ⟨b, off + i * 5 + 3, none⟩) hbw).trans p3
      have q4 := (hb.cell (p := ⟨b, off + i * 5 + 4, none⟩) hbw).trans p4
      obtain ⟨kd, fm, tn, am, nc⟩ := t
      simp only [lgV, txV] at q0 q1 q2 q3 q4 HA
      have hbr : b < wr.heap.size := by omega
      have HS : Hid (∀ V, Below wr.heap.size wr V → (V.cell? ⟨w.heap.size, 0, none⟩ = some (.int .i64 e) ∧ V.cell? ⟨w.heap.size, 1, none⟩ = some (.slice a P.length c) ∧ V.cell? ⟨b, off + i * 5, none⟩ = some (.int .i64 kd) ∧ V.cell? ⟨b, off + i * 5 + 1, none⟩ = some (.string fm) ∧ V.cell? ⟨b, off + i * 5 + 2, none⟩ = some (.string tn) ∧ V.cell? ⟨b, off + i * 5 + 3, none⟩ = some (.int .i64 am) ∧ V.cell? ⟨b, off + i * 5 + 4, none⟩ = some (.int .i64 nc))) := hide (fun V hv => ⟨(kO.below hv kO.lt).cell 0, (kO.below hv kO.lt).cell 1, (hv.cell (p := ⟨b, off + i * 5, none⟩) hbr).trans q0, (hv.cell (p := ⟨b, off + i * 5 + 1, none⟩) hbr).trans q1, (hv.cell (p := ⟨b, off + i * 5 + 2, none⟩) hbr).trans q2, (hv.cell (p := ⟨b, off + i * 5 + 3, none⟩) hbr).trans q3, (hv.cell (p := ⟨b, off + i * 5 + 4, none⟩) hbr).trans q4⟩)
      have bD : Below wr.heap.size wr wr.drew := (Below.refl _ wr).drew
      have bE : Below wr.heap.size wr (wr.alloc (.cells #[.int .i64 0, .slice none 0 0] 33)).drew := ((Below.refl _ wr).alloc (Nat.le_refl _) _).drew
      have nE : Blk (wr.alloc (.cells #[.int .i64 0, .slice none 0 0] 33)).drew wr.heap.size 33 [.int .i64 0, .slice none 0 0] := Blk.new wr 33 [.int .i64 0, .slice none 0 0]
      have rD := x.rd.below bD (Nat.le_refl _)
      have rE := x.rd.below bE (Nat.le_refl _)
      have zD : wr.drew.heap.size = wr.heap.size := rfl
      have zE : (wr.alloc (.cells #[.int .i64 0, .slice none 0 0] 33)).drew.heap.size = wr.heap.size + 1 := by simp
      have HL : Hid (∀ (V : World) (v : Value), RdA V v A → ∃ a c, v = .slice a A.length c) := hide (fun V v h => h.shape)
      have hli : (i : Int) < (ts.length : Int) := by omega
      have KO := hide kO
      have Xx := hide x
      have Hb := hide hb
      have HG := hide hG
      have Hap := hide hap
      have hgl : G.length ≤ 4000000 := by omega
      clear kO x hb hG hap p0 p1 p2 p3 p4 q0 q1 q2 q3 q4 few htx hs hne
      go_upto_region 5 with fail
      go_cut [7, 8] (fun sp sc wc => ∃ (B : Nat) (a' : Option Addr) (c' base' hi' : Nat), sp = .pointer (some ⟨B, 0, none⟩) ∧ sc = .int .i64 C ∧ Blk wc B 33 [.int .i64 e, .slice a' A.length c'] ∧ OwnX base' hi' wc (.slice a' A.length c') A ∧ wr.heap.size ≤ base' ∧ hi' ≤ wc.heap.size ∧ (B < base' ∨ hi' ≤ B) ∧ wr.heap.size ≤ B ∧ Below wr.heap.size wr wc)
      case first =>
        go_region_held_law (fun w' => w'.cell? ⟨w.heap.size, 0, none⟩ = some (.int .i64 e) ∧ w'.cell? ⟨w.heap.size, 1, none⟩ = some (.slice a P.length c) ∧ w'.cell? ⟨b, off + i * 5, none⟩ = some (.int .i64 kd) ∧ w'.cell? ⟨b, off + i * 5 + 1, none⟩ = some (.string fm) ∧ w'.cell? ⟨b, off + i * 5 + 2, none⟩ = some (.string tn) ∧ w'.cell? ⟨b, off + i * 5 + 3, none⟩ = some (.int .i64 am) ∧ w'.cell? ⟨b, off + i * 5 + 4, none⟩ = some (.int .i64 nc)) ((refine HS.out _ ?_; repeat (first | with_reducible exact bD | with_reducible exact bE | with_reducible exact bA | with_reducible exact Below.refl _ _ | refine Below.drew ?_ | refine Below.alloc ?_ (by first | omega | (simp; done) | (simp; omega) | (dsimp only; omega)) _ | refine Below.setCell ?_ (by first | omega | (simp; done) | (simp; omega) | (dsimp only; omega)) _))) ((first
          | (go_at_call 24; with_reducible refine (HA.out wr.drew _ rD).mono ?_; rintro e' wA ⟨vA, rfl, oA, hbA⟩; have bA := bD.trans (hbA.mono bD.size); have zA := hbA.size; have xA := oA.ox; have hsh := HL.out _ _ xA.rd; obtain ⟨aA, cA, hvA⟩ := hsh; subst hvA)
          | (go_at_call 24; with_reducible refine (HA.out (wr.alloc (.cells #[.int .i64 0, .slice none 0 0] 33)).drew _ rE).mono ?_; rintro e' wA ⟨vA, rfl, oA, hbA⟩; have bA := bE.trans (hbA.mono bE.size); have zA := hbA.size; have xA := oA.ox; have hsh := HL.out _ _ xA.rd; obtain ⟨aA, cA, hvA⟩ := hsh; subst hvA; have hBlt := nE.lt; have nb := nE.below hbA nE.lt; have y0 := nb.cell 0; have y1 := nb.cell 1; have y0f := nb.frozen 0; have y1f := nb.frozen 1; simp only [List.getElem?_cons_zero, List.getElem?_cons_succ] at y0 y1)))
        all_goals
          go_wp2_with fail
          go_meet
          case rel =>
            first
              | exact ⟨wA.heap.size, aA, cA, _, wA.heap.size, rfl, rfl, Blk.new wA _ _, xA.below ((Below.refl _ wA).alloc (Nat.le_refl _) _) (Nat.le_refl _), by first | omega | (simp; omega), by simp, .inr (Nat.le_refl _), by omega, bA.alloc (by omega) _⟩
              | exact ⟨_, aA, cA, _, wA.heap.size, rfl, rfl, (nb.set 0 _).set 1 _, (xA.old (by first | omega | (simp; done) | (simp; omega) | (dsimp only; omega)) _ _).old (by first | omega | (simp; done) | (simp; omega) | (dsimp only; omega)) _ _, by first | omega | (simp; omega), by simp, .inl (by first | omega | (simp; done) | (simp; omega) | (dsimp only; omega)), by omega, (bA.setCell (p := ⟨_, 0, none⟩) (by dsimp only; omega) _).setCell (p := ⟨_, 1, none⟩) (by dsimp only; omega) _⟩
      obtain ⟨w9, rfl⟩ : ∃ z, z = wc := ⟨_, rfl⟩
      obtain ⟨B9, a9, c9, base9, hi9, rfl, rfl, b9, x9, h9_1, h9_2, h9_3, h9_4, hb9⟩ := hcut
      clear HS bD bE nE rD rE zD zE
      have hB9 := Hb.out.trans (hb9.mono hwr)
      have k9 := KO.out.below hb9 KO.out.lt
      have hO9 := k9.lt
      by_cases hC : C = 0
      · have Hs1c := hide (Hsn.out.trans (Hgd.out hC))
        obtain ⟨wS, hwS⟩ : ∃ z, ((w9.setCell ⟨w.heap.size, 0, none⟩ (.int .i64 e)).setCell ⟨w.heap.size, 1, none⟩ (.slice a9 A.length c9)) = z := ⟨_, rfl⟩
        have hzS : wS.heap.size = w9.heap.size := by rw [← hwS]; simp [World.setCell]
        have hbS : Below w.heap.size w9 wS := by rw [← hwS]; exact ((Below.refl _ w9).setCell (p := ⟨w.heap.size, 0, none⟩) (Nat.le_refl _) _).setCell (p := ⟨w.heap.size, 1, none⟩) (Nat.le_refl _) _
        have KS : Hid (Blk wS w.heap.size 33 [.int .i64 e, .slice a9 A.length c9]) := hide (by rw [← hwS]; exact (k9.set 0 _).set 1 _)
        have hz9 := hb9.size
        have GS : Hid (OwnT w1.heap.size wS (.slice ga G.length gc) G) := hide (by
          rw [← hwS]
          exact row_set (row_set (HG.out.below hb9 (Nat.le_refl _)) w.heap.size 0 _ (fun k hk => by have := (HG.out.lt k hk).1; have := Hs1.out; omega)) w.heap.size 1 _ (fun k hk => by have := (HG.out.lt k hk).1; have := Hs1.out; omega))
        have XS : Hid (KpA w.heap.size base9 hi9 wS (.slice a9 A.length c9) A) := hide (by
          rw [← hwS]
          exact ((kpA_ox x9 (by omega) h9_2).set (b := w.heap.size) (Nat.le_refl _) (.inl (by omega)) 0 (.int .i64 e)).set (b := w.heap.size) (Nat.le_refl _) (.inl (by omega)) 1 (.slice a9 A.length c9))
        have BS := hide (hB9.trans hbS)
        have d0 := b9.cell 0
        have d1 := b9.cell 1
        have o0 := k9.cell 0
        have o1 := k9.cell 1
        have o0f := k9.frozen 0
        have o1f := k9.frozen 1
        simp only [List.getElem?_cons_zero, List.getElem?_cons_succ] at d0 d1 o0 o1
        obtain ⟨t0, t1, t2, t3, t4⟩ := HTw.out.below BS.out hbw
        simp only at t0 t1 t2 t3 t4
        have HB5 : Below wS.heap.size wS (wS.alloc (.cells #[.int .i64 kd, .string fm, .string tn, .int .i64 am, .int .i64 nc] 48)) := (Below.refl _ wS).alloc (Nat.le_refl _) _
        have H5 := hide (Blk.new wS 48 [.int .i64 kd, .string fm, .string tn, .int .i64 am, .int .i64 nc])
        have G5 := hide (GS.out.below HB5 (Nat.le_refl _))
        have K5 := hide (KS.out.below HB5 KS.out.lt)
        have X5 := hide (XS.out.below HB5)
        have B5 := hide (BS.out.trans (HB5.mono BS.out.size))
        have HGlt : Hid (∀ k, (Value.slice ga G.length gc).ownBlock = some k → w1.heap.size ≤ k ∧ k < wr.heap.size) := hide (fun k hk => HG.out.lt k hk)
        have hsz9 : w1.heap.size ≤ w9.heap.size := by omega
        have HB5' := hide HB5
        have HzS := hide hzS
        have hszS : w1.heap.size ≤ wS.heap.size := by omega
        clear HB5 GS KS XS BS k9 x9 hB9 hb9 b9 Hgd Hbd Hsn Xx KO HG hbS Hap hzS
        subst hC
        go_wp2_with (at_builtin; (try rw [hwS]); refine app_ownT1 _ rfl _ _ rfl w1.heap.size _ _ G (kd, fm, tn, am, nc) rfl rfl G5.out H5.out (by omega) (by simp; omega) ?_; intro v' w' ho' hg' hl'; obtain ⟨a', c', rfl⟩ := ho'.rd.shape)
        have hin : Below w1.heap.size (wS.alloc (.cells #[.int .i64 kd, .string fm, .string tn, .int .i64 am, .int .i64 nc] 48)) w' := (Below.refl _ _).grown hg' (by simp; omega) (fun k hk => (HGlt.out k hk).1)
        go_roundw
        case rel =>
          refine ⟨i + 1, a9, a', c9, c', base9, hi9, by omega, by go_num, by rw [Hs1c.out]; simp, ?_, ?_, ?_, ?_, .inl (by omega), by have := hin.size; have := HzS.out; simp at *; omega, B5.out.trans (hin.mono (by have := Hs1.out; omega))⟩
          · rw [Hs1c.out]; exact K5.out.below hin (by have := Hs1.out; omega)
          · rw [Hs1c.out]; exact X5.out.grown hg' (fun k hk => by have := HGlt.out k hk; have := Hs1.out; exact ⟨by omega, .inl (by omega)⟩)
          · rw [Hs1c.out]; exact ho'
          · rw [Hs1c.out]
            intro k hk
            rcases hl' with h | h
            · have hk2 : (Value.slice ga G.length gc).ownBlock = some k := h.symm.trans hk
              have := HGlt.out k hk2
              exact .inl (by omega)
            · have hk2 : some (wS.alloc (.cells #[.int .i64 kd, .string fm, .string tn, .int .i64 am, .int .i64 nc] 48)).heap.size = some k := h.symm.trans hk
              have := Option.some.inj hk2
              simp at this
              have := HzS.out
              exact .inr (by omega)
        case measure => simp [intOf]; omega
      · have Hs1c := hide (Hsn.out.trans (Hbd.out hC))
        have K9 := hide k9
        have X9 := hide (Xx.out.below hb9)
        have G9 := hide (HG.out.below hb9 (Nat.le_refl _))
        have HB9 := hide hB9
        have hCb : (C == 0) = false := by rw [beq_eq_false_iff_ne]; exact hC
        have hz9 := hb9.size
        clear k9 x9 hB9 hb9 b9 Hgd Hbd Hsn Xx KO hC HG
        go_wp2
        go_roundw
        case rel =>
          refine ⟨i + 1, a, ga, c, gc, base, hi, by omega, by go_num, by rw [Hs1c.out], ?_, ?_, ?_, ?_, hdis, by omega, HB9.out⟩
          · rw [Hs1c.out]; exact K9.out
          · rw [Hs1c.out]; exact X9.out
          · rw [Hs1c.out]; exact G9.out
          · rw [Hs1c.out]; exact Hap.out
        case measure => simp [intOf]; omega
    · have ei : i = ts.length := by omega
      have He : Hid (gdA e l (ts.take i) ts.length = gdA e l ts ts.length) := hide (by rw [ei, List.take_length])
      rw [He.out] at hG ⊢
      have Hm := hide (hG.monoG (base' := w.heap.size) (by have := Hs1.out; omega))
      clear hG ei He kO x hap
      go_wp2
      go_ret
      exact ⟨_, rfl, Hm.out, hb⟩
set_option maxRecDepth 20000 in
set_option maxHeartbeats 4000000 in
theorem implFit_any (e : Int) (v vt : Value) (l : List Ac) (ts : List Tx5) (w : World) (hgh : Gh w) (hr : RdA w v l) (hrt : RdT w vt ts) (hl : l.length ≤ 3999999) (hall : ∀ a ∈ l, a.1.size ≤ maxLen ∧ a.2.2.2.2.length ≤ 3999999) (hts : ts.length ≤ 4000000) (hta : ∀ t ∈ ts, t.2.1.size ≤ maxLen ∧ t.2.2.1.size ≤ maxLen) :
    Calls Tryz.prog 10 #[vt, lgV e v] w fun en w' => ∃ v', en = .returned v' ∧ OwnT w.heap.size w' v' (fiA e l ts) ∧ Below w.heap.size w w' := by
  obtain ⟨av, cv, rfl⟩ := hr.shape
  obtain ⟨at_, ct, rfl⟩ := hrt.shape
  obtain ⟨w1, hw1⟩ : ∃ w1, w.alloc (.cells #[.int .i64 e, .slice av l.length cv] 33) = w1 := ⟨_, rfl⟩
  have hb1 : Below w.heap.size w w1 := by rw [← hw1]; exact (Below.refl _ w).alloc (Nat.le_refl _) _
  have k1 : Blk w1 w.heap.size 33 [.int .i64 e, .slice av l.length cv] := by rw [← hw1]; exact Blk.new w _ _
  have HG := hide (goodOnes_any e (.slice av l.length cv) (.slice at_ ts.length ct) l ts ts.length w1 (hgh.below hb1) (hr.below hb1 (Nat.le_refl _)) (hrt.below hb1 (Nat.le_refl _)) hl hall hts hta)
  have c0 := k1.cell 0
  have c1 := k1.cell 1
  simp only [lgV, List.getElem?_cons_zero, List.getElem?_cons_succ] at HG c0 c1
  simp only [lgV]
  unfold fiA
  generalize gdA e l ts ts.length = X at HG ⊢
  obtain ⟨P, G⟩ := X
  simp only at HG ⊢
  have Hb := hide hb1
  clear hr hrt hgh hall hta hb1 k1
  go_enter Tryz.func10, Tryz.ntmps10
  go_wp2_with fail
  refine HG.out.mono ?_
  rintro en w2 ⟨vg, v2, rfl, o2, r2, hb2⟩
  obtain ⟨a2, c2, rfl⟩ := o2.rd.shape
  obtain ⟨a3, c3, rfl⟩ := r2.shape
  have O2 := hide (o2.monoG (base' := w.heap.size) Hb.out.size)
  have B2 := hide (Hb.out.trans (hb2.mono Hb.out.size))
  clear o2 r2 hb2 c0 c1
  go_wp2
  go_ret
  have ba := (Below.refl w2.heap.size w2).alloc (Nat.le_refl _) (.cells #[.int .i64 e, .slice a3 P.length c3] 33)
  exact ⟨_, rfl, O2.out.below ba (Nat.le_refl _), B2.out.trans (ba.mono B2.out.size)⟩
end Go.Proofs.YtbbkeebfginlfaaGreatDoor
