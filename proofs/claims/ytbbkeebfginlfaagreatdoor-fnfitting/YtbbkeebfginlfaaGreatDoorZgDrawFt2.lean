/- Drawn orders of a ledger; a drawn pool and a ledger at which it is to fit. A drawn pool and a ledger at which it is to fit, whole; what fits is good one behind the other (plain). -/
import Derived.Test.YtbbkeebfginlfaaGreatDoorZgDrawAp
import Derived.Test.YtbbkeebfginlfaaGreatDoorZgCtMem
import Derived.Test.YtbbkeebfginlfaaGreatDoorZgPlFit
import Derived.Test.YtbbkeebfginlfaaGreatDoorZgLgApF
namespace Go.Proofs.YtbbkeebfginlfaaGreatDoor
open Go.RowKit
set_option linter.unusedVariables false

/-- Accounts that read so as long as what lies from base to hi stays, and of what was there at w nothing changes but the cursor. -/
def KpG (w : World) (g base hi : Nat) (W : World) (v : Value) (P : List Ac) : Prop := hi ≤ W.heap.size ∧ ∀ V, w.grownBy V (some g) → (∀ k, base ≤ k → k < hi → V.heap[k]? = W.heap[k]?) → RdA V v P
theorem KpG.next {w : World} {g base hi : Nat} {W W' : World} {v : Value} {P : List Ac} (h : KpG w g base hi W v P) (hz : W.heap.size ≤ W'.heap.size) (ha : ∀ k, base ≤ k → k < hi → W'.heap[k]? = W.heap[k]?) : KpG w g base hi W' v P :=
  ⟨Nat.le_trans h.1 hz, fun V hV h2 => h.2 V hV (fun k h3 h4 => (h2 k h3 h4).trans (ha k h3 h4))⟩
theorem KpG.below {w : World} {g base hi : Nat} {W W' : World} {v : Value} {P : List Ac} (h : KpG w g base hi W v P) (hb : Below W.heap.size W W') : KpG w g base hi W' v P :=
  h.next hb.size (fun k _ h2 => hb.block k (Nat.lt_of_lt_of_le h2 h.1))
theorem KpG.grown {w : World} {g base hi : Nat} {W W' : World} {v : Value} {P : List Ac} {row : Option Nat} (h : KpG w g base hi W v P) (hg : W.grownBy W' row) (hr : ∀ k, row = some k → k < base ∨ hi ≤ k) : KpG w g base hi W' v P :=
  h.next hg.size (fun k h1 h2 => hg.block k (Nat.lt_of_lt_of_le h2 h.1) (fun e => by have := hr k e.symm; omega))
theorem KpG.rd {w : World} {g base hi : Nat} {W : World} {v : Value} {P : List Ac} (h : KpG w g base hi W v P) (hg : w.grownBy W (some g)) : RdA W v P := h.2 W hg (fun _ _ _ => rfl)
theorem KpG.sty {w : World} {g base hi : Nat} {W : World} {v : Value} {P : List Ac} (h : KpG w g base hi W v P) (hg : w.grownBy W (some g)) (hn : g < base ∨ hi ≤ g) : Sty g W v P :=
  ⟨h.rd hg, fun V hV => (h.grown hV (fun k hk => by cases hk; exact hn)).rd (grw_trans hg hV)⟩
theorem kpG_old {w : World} {g : Nat} {v : Value} {P : List Ac} (h : Sty g w v P) : KpG w g 0 0 w v P := ⟨Nat.zero_le _, fun V hV _ => h.2 V hV⟩
theorem kpG_ox {w : World} {g base hi : Nat} {W : World} {v : Value} {P : List Ac} (h : OwnX base hi W v P) (hh : hi ≤ W.heap.size) : KpG w g base hi W v P := ⟨hh, fun V _ ha => (h.agr ha).rd⟩
/-- Few accounts, with short names. -/
def FwA (P : List Ac) : Prop := P.length ≤ 1000 ∧ ∀ a ∈ P, a.1.size ≤ 9 ∧ a.2.2.2.2.length ≤ 1000
theorem acs_nine {l : List Ac} (h : acsB l = true) : ∀ a ∈ l, a.1.size ≤ 9 := by
  intro a ha
  obtain ⟨j, hj, rfl⟩ := List.mem_iff_getElem.1 ha
  unfold acsB at h
  rw [Bool.and_eq_true, List.all_eq_true] at h
  have := h.1 j (List.mem_range.2 hj)
  rw [acAt_eq l j l[j] hj rfl, Bool.and_eq_true] at this
  have h2 := this.1
  unfold acB nmB inB at h2
  simp only [Bool.and_eq_true, decide_eq_true_eq] at h2
  have h3 := h2.1.2.2
  omega
theorem FwA.apply {e : Int} {P : List Ac} {t : Tx5} (h : FwA P) : FwA (apA e P t).1 := by
  rcases apA_is e P t with h1 | h1
  · rw [h1]; exact h
  · have h2 := acs_len' h1
    have h3 := acs_four h1
    exact ⟨by omega, fun a ha => ⟨acs_nine h1 a ha, by have := h3 a ha; omega⟩⟩
/-- Drawn orders: few, of short names. -/
def DrO (w0 w : World) (g : Nat) (cv : Value) (code : List UInt8) (most : Nat) (e : Ending) (w' : World) : Prop := ∃ (v : Value) (l : List Tx5), e = .returned v ∧ OwnT w.heap.size w' v l ∧ l.length ≤ most ∧ (∀ x ∈ l, x.2.1.size ≤ 9 ∧ x.2.2.1.size ≤ 9) ∧ Cur w0 w' g cv code ∧ w.grownBy w' (some g)
theorem few_fit {P : List Ac} (h : FwA P) : P.length ≤ 3999999 ∧ ∀ a ∈ P, a.1.size ≤ maxLen ∧ a.2.2.2.2.length ≤ 3999999 :=
  ⟨by have := h.1; omega, fun a ha => by have := h.2 a ha; unfold maxLen; omega⟩
set_option maxRecDepth 20000 in
set_option maxHeartbeats 2000000 in
theorem l6Txs_any (w0 w : World) (g : Nat) (cv : Value) (code : List UInt8) (e : Int) (v : Value) (l : List Ac) (most : Nat) (hc : Cur w0 w g cv code) (hl : code.length ≤ 1048576) (hs : Sty g w v l) (hfw : FwA l) (hm : most ≤ 1000) :
    Calls Tryz.prog 37 #[.pointer (some ⟨g, 0, none⟩), lgV e v, .int .i64 (most : Int)] w fun en w' => DrO w0 w g cv code most en w' := by
  have hgl := hc.lt
  obtain ⟨av, cvv, rfl⟩ := hs.1.shape
  simp only [lgV]
  obtain ⟨w1, hw1⟩ : ∃ x, w.alloc (.cells #[.int .i64 e, .slice av l.length cvv] 33) = x := ⟨_, rfl⟩
  have hs1 : w1.heap.size = w.heap.size + 1 := by rw [← hw1]; simp
  have hb1 : Below w.heap.size w w1 := by rw [← hw1]; exact (Below.refl _ w).alloc (Nat.le_refl _) _
  have k1 : Blk w1 w.heap.size 33 [.int .i64 e, .slice av l.length cvv] := by rw [← hw1]; exact Blk.new w _ _
  have hb2 : Below w1.heap.size w1 (w1.alloc (.cells #[] 48)) := (Below.refl _ w1).alloc (Nat.le_refl _) _
  have hbb : Below w.heap.size w (w1.alloc (.cells #[] 48)) := hb1.trans (hb2.mono hb1.size)
  have HC1 := hide (hc.below hbb hgl)
  have Ho := hide (own_nilT w1 w1.heap.size (Nat.le_refl _))
  have HG1 := hide (grw_of_below (some g) hbb (Nat.le_refl _))
  have HK1 := hide (k1.below hb2 k1.lt)
  have HP1 := hide ((kpG_old hs).below hbb)
  have S1 := hide hs1
  have Hfw := hide hfw
  clear hc hs hb1 k1 hb2 hbb hs1 hfw
  go_enter Tryz.func37, Tryz.ntmps37
  go_wp2_with fail
  refine (l1Below_any w0 _ g cv code (most : Int) HC1.out hl (by omega) (by omega)).mono ?_
  rintro en w2 ⟨n, rfl, hn1, hn2, hc2, hg2⟩
  have hn : n ≤ most := by
    by_cases h : (0 : Int) < (most : Int)
    · have := hn1 h; omega
    · have := hn2 (by omega); omega
  have HC2 := hide hc2
  have HG2 := hide (grw_trans HG1.out hg2)
  have HO2 := hide (Ho.out.notg hg2 (by have := S1.out; omega))
  have HK2 := hide (blk_notg5 HK1.out hg2 (by omega))
  have HP2 := hide (HP1.out.grown hg2 (fun k hk => .inr (Nat.zero_le _)))
  have hz2 := hg2.size
  have Hz2 : Hid (w1.heap.size ≤ w2.heap.size) := hide (by simp at hz2; omega)
  clear hn1 hn2 hc2 hg2 Ho HG1 HC1 HK1 HP1 hz2
  go_wp2
  go_loopw [7, 8] (fun ov iv wr => ∃ (i : Nat) (L : List Tx5) (P : List Ac) (a ao : Option Addr) (c co base hi : Nat), L.length + i ≤ most ∧ iv = .int .i64 (i : Int) ∧ ov = .slice ao L.length co ∧ OwnT w1.heap.size wr (.slice ao L.length co) L ∧ (∀ x ∈ L, x.2.1.size ≤ 9 ∧ x.2.2.1.size ≤ 9) ∧ Blk wr w.heap.size 33 [.int .i64 e, .slice a P.length c] ∧ KpG w g base hi wr (.slice a P.length c) P ∧ FwA P ∧ (∀ k, (Value.slice ao L.length co).ownBlock = some k → k < base ∨ hi ≤ k) ∧ (w1.heap.size ≤ base ∨ hi = 0) ∧ w1.heap.size ≤ wr.heap.size ∧ Cur w0 wr g cv code ∧ w.grownBy wr (some g)) (fun _ iv _ => (intOf iv).toNat)
  case atStart => exact ⟨n, [], l, av, some ⟨w1.heap.size, 0, none⟩, cvv, 0, 0, 0, by simp; omega, rfl, rfl, HO2.out, (fun x hx => by cases hx), HK2.out, HP2.out, Hfw.out, (fun k hk => .inr (Nat.zero_le _)), .inr rfl, Hz2.out, HC2.out, HG2.out⟩
  case round =>
    obtain ⟨i, L, P, a, ao, c, co, base, hi, hil, rfl, rfl, ho, hsm, kO, x, hfw, hap, hdis, hsz, hc, hg⟩ := hrel
    clear HO2 HC2 HG2 HK2 HP2 Hz2 hw1
    have s1 := S1.out
    have HO := hide ho
    have HS := hide hsm
    have HC := hide hc
    have HG := hide hg
    have KO := hide kO
    have X := hide x
    have FW := hide hfw
    have HOl : Hid (∀ k, (Value.slice ao L.length co).ownBlock = some k → w1.heap.size ≤ k ∧ k < wr.heap.size) := hide (fun k hk => ho.lt k hk)
    have Hap := hide hap
    have Hst := hide (x.sty hg (by omega))
    have d0 := kO.cell 0
    have d1 := kO.cell 1
    simp only [List.getElem?_cons_zero, List.getElem?_cons_succ] at d0 d1
    have hbx := kO.lt
    clear ho hsm hc hg kO x hfw hap s1
    by_cases h0 : 0 < i
    · have hpos : (0 : Int) < (i : Int) := by omega
      go_wp2_with fail
      refine (l6Tx_any w0 wr g cv code e _ P HC.out hl Hst.out FW.out.1 (fun a ha => (FW.out.2 a ha).1)).mono ?_
      rintro en w3 ⟨t, rfl, ht1, ht2, hc3, hg3⟩
      have hz3 := hg3.size
      have few := few_fit (FW.out)
      have HA := hide (fun V v h => specApply_any e v P t V h few.1 few.2 (by unfold maxLen; omega) (by unfold maxLen; omega))
      have FWA := hide (FW.out.apply (e := e) (t := t))
      generalize apA e P t = R at HA FWA
      obtain ⟨A, C⟩ := R
      obtain ⟨kd, fm, tn, am, nc⟩ := t
      simp only [txV, lgV] at HA FWA ht1 ht2 ⊢
      obtain ⟨w4, hw4⟩ : ∃ z, w3.alloc (.cells #[.int .i64 kd, .string fm, .string tn, .int .i64 am, .int .i64 nc] 48) = z := ⟨_, rfl⟩
      have hs4 : w4.heap.size = w3.heap.size + 1 := by rw [← hw4]; simp
      have hb4 : Below w3.heap.size w3 w4 := by rw [← hw4]; exact (Below.refl _ w3).alloc (Nat.le_refl _) _
      have k4 : Blk w4 w3.heap.size 48 [.int .i64 kd, .string fm, .string tn, .int .i64 am, .int .i64 nc] := by rw [← hw4]; exact Blk.new w3 _ _
      have hb5 : Below w4.heap.size w4 (w4.alloc (.cells #[.int .i64 kd, .string fm, .string tn, .int .i64 am, .int .i64 nc] 48)) := (Below.refl _ w4).alloc (Nat.le_refl _) _
      have H5 := hide (Blk.new w4 48 [.int .i64 kd, .string fm, .string tn, .int .i64 am, .int .i64 nc])
      have b35 : Below w3.heap.size w3 (w4.alloc (.cells #[.int .i64 kd, .string fm, .string tn, .int .i64 am, .int .i64 nc] 48)) := hb4.trans (hb5.mono (by omega))
      have s1 := S1.out
      have O5 := hide ((HO.out.notg hg3 (by omega)).below b35 (Nat.le_refl _))
      have K5 := hide ((blk_notg5 KO.out hg3 (by omega)).below b35 (by omega))
      have KT5 := hide (k4.below hb5 k4.lt)
      have X5 := hide ((X.out.grown hg3 (fun k hk => by cases hk; omega)).below b35)
      have C5 := hide (hc3.below b35 hc3.lt)
      have G5 := hide (grw_below (grw_trans HG.out hg3) b35 (by have := HG.out.size; omega))
      have t0 := k4.cell 0
      have t1 := k4.cell 1
      have t2 := k4.cell 2
      have t3 := k4.cell 3
      have t4 := k4.cell 4
      simp only [List.getElem?_cons_zero, List.getElem?_cons_succ] at t0 t1 t2 t3 t4
      have HS4 := hide hs4
      have hz34 : w1.heap.size ≤ w4.heap.size := by omega
      have Hz34 : Hid (wr.heap.size ≤ w3.heap.size) := hide hz3
      clear hs4 hb4 k4 hb5 b35 s1 d0 d1 HO KO X HG HC Hst hc3 hg3 hz3
      go_wp2_with (at_builtin; (try rw [hw4]); refine app_ownT1 _ rfl _ _ rfl w1.heap.size _ _ L (kd, fm, tn, am, nc) rfl rfl O5.out H5.out (by omega) (by simp; omega) ?_; intro v6 w6 o6 hg6 hl6; obtain ⟨a6, c6, hv6⟩ := o6.rd.shape; rw [List.length_append, List.length_singleton] at hv6; subst hv6; have k6 := K5.out.grownN hg6 (fun h => by have := HOl.out _ h; have := S1.out; omega); have kt6 := KT5.out.grownN hg6 (fun h => by have := HOl.out _ h; have := Hz34.out; omega); have u0 := k6.cell 0; have u1 := k6.cell 1; have y0 := kt6.cell 0; have y1 := kt6.cell 1; have y2 := kt6.cell 2; have y3 := kt6.cell 3; have y4 := kt6.cell 4; simp only [List.getElem?_cons_zero, List.getElem?_cons_succ] at u0 u1 y0 y1 y2 y3 y4)
      have hB6 : Below w1.heap.size (w4.alloc (.cells #[.int .i64 kd, .string fm, .string tn, .int .i64 am, .int .i64 nc] 48)) w6 := (Below.refl _ _).grown hg6 (by simp; omega) (fun k hk => (HOl.out k hk).1)
      have s1 := S1.out
      have G6 : w.grownBy w6 (some g) := ⟨hB6.os.trans G5.out.os, hB6.tape.trans G5.out.tape, hB6.output.trans G5.out.output, Nat.le_trans G5.out.size hB6.size, fun k hk hn => (hB6.block k (by omega)).trans (G5.out.block k hk hn)⟩
      have X6 := X5.out.grown hg6 (fun k hk => Hap.out k hk)
      have HA6 := hide (HA.out w6 _ (X6.rd G6))
      have C6 := hide (C5.out.below hB6 (by omega))
      have hz6 := hB6.size
      have hz6' : w1.heap.size ≤ w6.heap.size := by simp at hz6; omega
      have O6 := hide o6
      have K6 := hide k6
      have HG6 := hide G6
      clear hB6 s1 G6 X6 o6 k6 kt6 hg6 hl6 hz6 C5 G5 K5 O5 H5 KT5 X5 t0 t1 t2 t3 t4 HA Hap
      go_wp2_with fail
      refine HA6.out.mono ?_
      rintro en w7 ⟨v7, rfl, o7, hb7⟩
      obtain ⟨a7, c7, rfl⟩ := o7.rd.shape
      have k7 := K6.out.below hb7 K6.out.lt
      have hz7 := hb7.size
      have s1 := S1.out
      have r0 := k7.cell 0
      have r1 := k7.cell 1
      have r0f := k7.frozen 0
      have r1f := k7.frozen 1
      simp only [List.getElem?_cons_zero, List.getElem?_cons_succ] at r0 r1
      have hb8 : Below w.heap.size w7 ((w7.setCell ⟨w.heap.size, 0, none⟩ (.int .i64 e)).setCell ⟨w.heap.size, 1, none⟩ (.slice a7 A.length c7)) := ((Below.refl _ w7).setCell (p := ⟨w.heap.size, 0, none⟩) (Nat.le_refl _) _).setCell (p := ⟨w.heap.size, 1, none⟩) (Nat.le_refl _) _
      have O8 : Hid (OwnT w1.heap.size ((w7.setCell ⟨w.heap.size, 0, none⟩ (.int .i64 e)).setCell ⟨w.heap.size, 1, none⟩ (.slice a7 A.length c7)) (.slice a6 (L.length + 1) c6) (L ++ [(kd, fm, tn, am, nc)])) := hide (((O6.out.below hb7 (Nat.le_refl _)).notg (grown_set _ w.heap.size 0 _) (by omega)).notg (grown_set _ w.heap.size 1 _) (by omega))
      have K8 : Hid (Blk ((w7.setCell ⟨w.heap.size, 0, none⟩ (.int .i64 e)).setCell ⟨w.heap.size, 1, none⟩ (.slice a7 A.length c7)) w.heap.size 33 [.int .i64 e, .slice a7 A.length c7]) := hide ((k7.set 0 _).set 1 _)
      have X8 : Hid (KpG w g w6.heap.size w7.heap.size ((w7.setCell ⟨w.heap.size, 0, none⟩ (.int .i64 e)).setCell ⟨w.heap.size, 1, none⟩ (.slice a7 A.length c7)) (.slice a7 A.length c7) A) := hide (((kpG_ox o7.ox (Nat.le_refl _)).grown (grown_set _ w.heap.size 0 (.int .i64 e)) (fun k hk => by cases hk; exact .inl (by omega))).grown (grown_set _ w.heap.size 1 (.slice a7 A.length c7)) (fun k hk => by cases hk; exact .inl (by omega)))
      have C8 : Hid (Cur w0 ((w7.setCell ⟨w.heap.size, 0, none⟩ (.int .i64 e)).setCell ⟨w.heap.size, 1, none⟩ (.slice a7 A.length c7)) g cv code) := hide ((C6.out.below hb7 C6.out.lt).below hb8 hgl)
      have G8 : Hid (w.grownBy ((w7.setCell ⟨w.heap.size, 0, none⟩ (.int .i64 e)).setCell ⟨w.heap.size, 1, none⟩ (.slice a7 A.length c7)) (some g)) := hide ⟨hb8.os.trans (hb7.os.trans HG6.out.os), hb8.tape.trans (hb7.tape.trans HG6.out.tape), hb8.output.trans (hb7.output.trans HG6.out.output), Nat.le_trans HG6.out.size (Nat.le_trans hb7.size hb8.size), fun k hk hn => (hb8.block k hk).trans ((hb7.block k (by have := HG6.out.size; omega)).trans (HG6.out.block k hk hn))⟩
      have HL8 : Hid (∀ k, (Value.slice a6 (L.length + 1) c6).ownBlock = some k → k < w6.heap.size ∨ w7.heap.size ≤ k) := hide (fun k hk => .inl (O6.out.lt k hk).2)
      have Z8 : Hid (w1.heap.size ≤ ((w7.setCell ⟨w.heap.size, 0, none⟩ (.int .i64 e)).setCell ⟨w.heap.size, 1, none⟩ (.slice a7 A.length c7)).heap.size) := hide (by have := hb8.size; omega)
      have hsm8 : Hid (∀ x ∈ L ++ [(kd, fm, tn, am, nc)], x.2.1.size ≤ 9 ∧ x.2.2.1.size ≤ 9) := hide (fun y hy => by
        rcases List.mem_append.1 hy with h | h
        · exact HS.out y h
        · rw [List.mem_singleton.1 h]; exact ⟨ht1, ht2⟩)
      clear hb8 k7 o7 hb7 O6 K6 C6 HG6 s1 u0 u1 y0 y1 y2 y3 y4
      go_wp2
      go_roundw
      case rel => exact ⟨i - 1, L ++ [(kd, fm, tn, am, nc)], A, a7, a6, c7, c6, w6.heap.size, w7.heap.size, by simp; omega, by first | go_num | (congr 1; omega), by simp, by rw [List.length_append, List.length_singleton]; exact O8.out, hsm8.out, K8.out, X8.out, FWA.out, by rw [List.length_append, List.length_singleton]; exact HL8.out, .inl hz6', Z8.out, C8.out, G8.out⟩
      case measure => simp [intOf]; omega
    · have hpos : ¬ ((0 : Int) < (i : Int)) := by omega
      go_wp2
      go_ret
      exact ⟨_, L, rfl, own_to HO.out (by have := S1.out; omega), by omega, HS.out, HC.out, HG.out⟩
end Go.Proofs.YtbbkeebfginlfaaGreatDoor

namespace Go.Proofs.YtbbkeebfginlfaaGreatDoor
open Go.RowKit
set_option linter.unusedVariables false

theorem fi_all {e : Int} {most : Nat} : ∀ (ts : List Tx5) (s : List Ac × List Tx5) (n : Nat), s.2.length + ts.length ≤ most →
    ∃ G, (ts.foldl (gdS e most) s).2 = s.2 ++ G ∧ G.foldl (alS e) (s.1, n) = ((ts.foldl (gdS e most) s).1, n + G.length)
  | [], s, n, _ => ⟨[], by simp, rfl⟩
  | t :: ts, s, n, h => by
    rw [List.length_cons] at h
    rw [List.foldl_cons]
    have hn : s.2.length ≠ most := by omega
    by_cases h2 : (apA e s.1 t).2 = 0
    · rw [gdS_good (e := e) (t := t) hn h2]
      obtain ⟨G, q1, q2⟩ := fi_all (e := e) (most := most) ts ((apA e s.1 t).1, s.2 ++ [t]) (n + 1) (by simp; omega)
      refine ⟨t :: G, by rw [q1]; simp, ?_⟩
      have e2 : alS e (s.1, n) t = ((apA e s.1 t).1, n + 1) := alS_good (s := (s.1, n)) h2
      rw [List.foldl_cons, e2, q2, List.length_cons]
      congr 1
      omega
    · rw [gdS_bad (e := e) (t := t) hn h2]
      exact fi_all (e := e) (most := most) ts s n (by omega)
/-- What fits is good, one behind the other: ApplyAll counts all of it; and of all orders it counts as many. -/
theorem fit_counts (e : Int) (l : List Ac) (ts : List Tx5) : (alA e l (fiA e l ts)).2 = (fiA e l ts).length ∧ (alA e l ts).2 = (fiA e l ts).length := by
  constructor
  · obtain ⟨G, q1, q2⟩ := fi_all (e := e) (most := ts.length) ts (l, []) 0 (by simp)
    have q3 : fiA e l ts = G := by unfold fiA gdA; rw [q1]; rfl
    rw [q3]
    show (G.foldl (alS e) (l, 0)).2 = _
    rw [q2]
    simp
  · obtain ⟨_, q2, _⟩ := gd_all (e := e) (most := ts.length) ts (l, []) (by simp)
    exact q2.symm
theorem gd_mem {e : Int} {most : Nat} : ∀ (ts : List Tx5) (s : List Ac × List Tx5) (x : Tx5), x ∈ (ts.foldl (gdS e most) s).2 → x ∈ s.2 ∨ x ∈ ts
  | [], s, x, h => .inl h
  | t :: ts, s, x, h => by
    rw [List.foldl_cons] at h
    rcases gd_mem (e := e) (most := most) ts _ x h with h1 | h1
    · unfold gdS at h1
      split at h1
      · exact .inl h1
      · split at h1
        · rcases List.mem_append.1 h1 with h2 | h2
          · exact .inl h2
          · exact .inr (by rw [List.mem_singleton.1 h2]; exact List.mem_cons_self)
        · exact .inl h1
    · exact .inr (List.mem_cons_of_mem _ h1)
theorem fiA_mem {e : Int} {l : List Ac} {ts : List Tx5} {x : Tx5} (h : x ∈ fiA e l ts) : x ∈ ts := by
  rcases gd_mem (e := e) (most := ts.length) ts (l, []) x h with h1 | h1
  · cases h1
  · exact h1
set_option maxRecDepth 20000 in
set_option maxHeartbeats 2000000 in
theorem drawPoolFit_any (w : World) (cv : Value) (code : List UInt8) (hr : RdB w cv code) (hl : code.length ≤ 1048576) :
    Calls Tryz.prog 17 #[cv] w fun en w' => ∃ (v : Value) (ts : List Tx5) (e : Int) (u : Value) (l : List Ac), en = .returned (.tuple #[v, lgV e u]) ∧ RdT w' v ts ∧ ts.length ≤ 20 ∧ (∀ x ∈ ts, x.2.1.size ≤ 9 ∧ x.2.2.1.size ≤ 9) ∧ RdA w' u l ∧ FwA l ∧ Below w.heap.size w w' := by
  obtain ⟨w1, hw1⟩ : ∃ w1, w.alloc (.cells #[.int .i64 0, .slice none 0 0] 33) = w1 := ⟨_, rfl⟩
  have b1 : Below w.heap.size w w1 := by rw [← hw1]; exact (Below.refl _ w).alloc (Nat.le_refl _) _
  have k1 : Blk w1 w.heap.size 33 [.int .i64 0, .slice none 0 0] := by rw [← hw1]; exact Blk.new w _ _
  have s1 : w1.heap.size = w.heap.size + 1 := by rw [← hw1]; simp
  have hr1 := hr.below b1 (Nat.le_refl _)
  have HN := hide (l1New_any w1 cv code hr1 hl)
  have Hr := hide (fun V (hV : Below w1.heap.size w1 V) => hr1.below hV (Nat.le_refl _))
  obtain ⟨a, c, rfl⟩ : ∃ a c, cv = .slice a code.length c := by
    rcases hr with ⟨a, c, h1, h2, -⟩ | ⟨b, off, c, h0, h1, _⟩
    · subst h2; exact ⟨a, c, h1⟩
    · exact ⟨_, c, h1⟩
  have K1 := hide k1
  have B1 := hide b1
  have S1 := hide s1
  clear hr hr1 k1 b1 s1
  go_enter Tryz.func17, Tryz.ntmps17
  go_wp2_with fail
  refine HN.out.mono ?_
  rintro en w2 ⟨rfl, hc2, hb2⟩
  have hgl : w1.heap.size < w2.heap.size := hc2.lt
  have K2 := hide (K1.out.below hb2 K1.out.lt)
  have HB2 := hide hb2
  clear hw1 HN K1 hb2
  go_wp2_with fail
  refine (l6Any_any w1 w2 w1.heap.size _ code hc2 hl).mono ?_
  rintro en w3 ⟨e, v, Z, rfl, hd3, hs3, hc3, hg3⟩
  unfold lgV
  obtain ⟨⟨G, cap, rfl⟩, -⟩ := id hd3
  have z3 := hg3.size
  have hZ6 : Z.length ≤ 6 := hs3.1
  have hZs : ∀ a ∈ Z.map (·.1), a.1.size ≤ 9 ∧ a.2.2.2.2.length ≤ 4 := fun a ha => by obtain ⟨q, hq, rfl⟩ := List.mem_map.1 ha; exact hs3.2 q hq
  have HFw : Hid (FwA (Z.map (·.1))) := hide ⟨by simp; omega, fun a ha => by have := hZs a ha; omega⟩
  have hml : Hid ((Z.map (·.1)).length = Z.length) := hide (by simp)
  obtain ⟨w4, hw4⟩ : ∃ x, w3.alloc (.cells #[.int .i64 e, .slice (some ⟨G, 0, none⟩) Z.length cap] 33) = x := ⟨_, rfl⟩
  have b4 : Below w3.heap.size w3 w4 := by rw [← hw4]; exact (Below.refl _ w3).alloc (Nat.le_refl _) _
  have g4 : Blk w4 w3.heap.size 33 [.int .i64 e, .slice (some ⟨G, 0, none⟩) Z.length cap] := by rw [← hw4]; exact Blk.new w3 _ _
  have s4 : w4.heap.size = w3.heap.size + 1 := by rw [← hw4]; simp
  have K4 := hide ((blk_notg5 K2.out hg3 (by have := S1.out; omega)).below b4 (by have := S1.out; omega))
  have D4 := hide (hd3.notg (grw_of_below (some w1.heap.size) b4 (Nat.le_refl _)) hgl)
  have C4 := hide (hc3.below b4 hc3.lt)
  have G4 := hide g4
  have HB4 : Hid (Below w1.heap.size w1 w4) := hide (hc3.bel.trans (b4.mono hc3.bel.size))
  have S4 := hide s4
  clear hd3 hs3 hc2 hc3 hg3 b4 g4 K2 hZs s4
  go_wp2_with fail
  refine (l1Size_any (.slice a code.length c) code 8 w4 (Hr.out w4 HB4.out) hl (by omega)).mono ?_
  rintro en w4 ⟨⟨n, rfl, hn⟩, rfl⟩
  go_wp2_with fail
  refine (l12Any_any w1 w4 w1.heap.size _ code n C4.out hl (by omega)).mono ?_
  rintro en w5 ⟨v5, ts, rfl, o5, hlen5, hsm5, hc5, hg5⟩
  obtain ⟨a5, c5, rfl⟩ := o5.rd.shape
  have z5 := hg5.size
  have s4 := S4.out
  have K5 := hide (blk_notg5 K4.out hg5 (by have := S1.out; omega))
  have G5 := hide (blk_notg5 G4.out hg5 (by omega))
  have D5 := hide (D4.out.notg hg5 hgl)
  have O5 := hide o5
  have HS5 : Hid (∀ x ∈ ts, x.2.1.size ≤ 9 ∧ x.2.2.1.size ≤ 9) := hide (fun x hx => ⟨(hsm5 x hx).1, (hsm5 x hx).2.1⟩)
  clear o5 hsm5 hg5 K4 G4 D4 C4 HB4 hw4
  go_wp2_with fail
  refine (l1Once_any w1 w5 w1.heap.size _ code 2 hc5 hl (by omega) (by omega)).mono ?_
  rintro en w6 ⟨bo, rfl, hc6, hg6⟩
  have z6 := hg6.size
  have K6 := hide (blk_notg5 K5.out hg6 (by have := S1.out; omega))
  have G6 := hide (blk_notg5 G5.out hg6 (by omega))
  have D6 := hide (D5.out.notg hg6 hgl)
  have O6 := hide (O5.out.notg hg6 (by omega))
  have C6 := hide hc6
  clear hc5 hc6 hg6 K5 G5 D5 O5
  cases bo
  · have k6 := K6.out
    have g6 := G6.out
    have p0 := k6.cell 0
    have p1 := k6.cell 1
    have f0 := k6.frozen 0
    have f1 := k6.frozen 1
    have q0 := g6.cell 0
    have q1 := g6.cell 1
    simp only [List.getElem?_cons_zero, List.getElem?_cons_succ] at p0 p1 q0 q1
    have DX := hide ((D6.out.notg (grown_set w6 w.heap.size 0 (.int .i64 e)) (by have := S1.out; omega)).notg (grown_set _ w.heap.size 1 (.slice (some ⟨G, 0, none⟩) Z.length cap)) (by have := S1.out; omega))
    have OX := hide ((O6.out.notg (grown_set w6 w.heap.size 0 (.int .i64 e)) (by have := S1.out; omega)).notg (grown_set _ w.heap.size 1 (.slice (some ⟨G, 0, none⟩) Z.length cap)) (by have := S1.out; omega))
    have BX := hide (((B1.out.trans (C6.out.bel.mono (by have := S1.out; omega))).setCell (p := ⟨w.heap.size, 0, none⟩) (Nat.le_refl _) (.int .i64 e)).setCell (p := ⟨w.heap.size, 1, none⟩) (Nat.le_refl _) (.slice (some ⟨G, 0, none⟩) Z.length cap))
    clear k6 g6 K6 G6 D6 O6 C6
    go_wp2
    go_region
    all_goals
      go_wp2
      refine bodyPost_ret (v := .tuple #[.slice a5 ts.length c5, .agg #[.int .i64 e, .slice (some ⟨G, 0, none⟩) Z.length cap]]) (by simp [results, Tryz.f17, go_sem, p0, p1]) rfl ?_
      exact ⟨_, ts, e, _, Z.map (·.1), rfl, OX.out.rd.below ((Below.refl _ _).drew) (Nat.le_refl _), by omega, HS5.out, DX.out.rd.below ((Below.refl _ _).drew) (Nat.le_refl _), HFw.out, BX.out.drew⟩
  · have g6 := G6.out
    have q0 := g6.cell 0
    have q1 := g6.cell 1
    simp only [List.getElem?_cons_zero, List.getElem?_cons_succ] at q0 q1
    have HX := hide (l6Txs_any w1 w6 w1.heap.size _ code e (.slice (some ⟨G, 0, none⟩) Z.length cap) (Z.map (·.1)) 8 C6.out hl (D6.out.sty hgl) HFw.out (by omega))
    unfold lgV at HX
    clear g6 O6 C6 HS5
    go_wp2_with fail
    refine HX.out.mono ?_
    rintro en w7 ⟨v7, us, rfl, o7, hlen7, hsm7, hc7, hg7⟩
    obtain ⟨a7, c7, rfl⟩ := o7.rd.shape
    have z7 := hg7.size
    have k7 := blk_notg5 K6.out hg7 (by have := S1.out; omega)
    have g7 := blk_notg5 G6.out hg7 (by omega)
    have p0 := k7.cell 0
    have p1 := k7.cell 1
    have f0 := k7.frozen 0
    have f1 := k7.frozen 1
    have r0 := g7.cell 0
    have r1 := g7.cell 1
    simp only [List.getElem?_cons_zero, List.getElem?_cons_succ] at p0 p1 r0 r1
    have DX := hide (((D6.out.notg hg7 hgl).notg (grown_set w7 w.heap.size 0 (.int .i64 e)) (by have := S1.out; omega)).notg (grown_set _ w.heap.size 1 (.slice (some ⟨G, 0, none⟩) Z.length cap)) (by have := S1.out; omega))
    have OX := hide ((o7.notg (grown_set w7 w.heap.size 0 (.int .i64 e)) (by have := S1.out; omega)).notg (grown_set _ w.heap.size 1 (.slice (some ⟨G, 0, none⟩) Z.length cap)) (by have := S1.out; omega))
    have BX := hide (((B1.out.trans (hc7.bel.mono (by have := S1.out; omega))).setCell (p := ⟨w.heap.size, 0, none⟩) (Nat.le_refl _) (.int .i64 e)).setCell (p := ⟨w.heap.size, 1, none⟩) (Nat.le_refl _) (.slice (some ⟨G, 0, none⟩) Z.length cap))
    have HS7 := hide hsm7
    clear k7 g7 K6 G6 D6 o7 hc7 hg7 q0 q1 hsm7 HX
    go_wp2
    go_region
    all_goals
      go_wp2
      refine bodyPost_ret (v := .tuple #[.slice a7 us.length c7, .agg #[.int .i64 e, .slice (some ⟨G, 0, none⟩) Z.length cap]]) (by simp [results, Tryz.f17, go_sem, p0, p1]) rfl ?_
      exact ⟨_, us, e, _, Z.map (·.1), rfl, OX.out.rd.below ((Below.refl _ _).drew) (Nat.le_refl _), by omega, HS7.out, DX.out.rd.below ((Below.refl _ _).drew) (Nat.le_refl _), HFw.out, BX.out.drew⟩
end Go.Proofs.YtbbkeebfginlfaaGreatDoor
