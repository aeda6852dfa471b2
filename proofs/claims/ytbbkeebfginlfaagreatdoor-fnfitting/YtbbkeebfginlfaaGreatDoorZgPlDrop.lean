/- Old orders are dropped, on both sides. -/
import Derived.Test.YtbbkeebfginlfaaGreatDoorZgTxApp
import Derived.Test.YtbbkeebfginlfaaGreatDoorZgAcSpec
import Derived.Test.YtbbkeebfginlfaaGreatDoorZgLgVal
import Derived.Lib.QuietBelow
import Derived.BigQuiet
import Derived.Deep.LoopGhost
namespace Go.Proofs.YtbbkeebfginlfaaGreatDoor
open Go.RowKit Go.Sort
set_option linter.unusedVariables false

def acN : Ac := (ByteArray.empty, 0, 0, 0, [])
/-- Whether an order is kept: From's account is there, and its number is not above. -/
def drB (l : List Ac) (t : Tx5) : Bool := decide (0 ≤ atA l t.2.1) && decide ((l.getD (atA l t.2.1).toNat acN).2.2.1 ≤ t.2.2.2.2)
def drT (l : List Ac) (ts : List Tx5) : List Tx5 := ts.filter (drB l)
theorem drT_snoc (l : List Ac) (ts : List Tx5) (k : Nat) (h : k < ts.length) : drT l (ts.take (k + 1)) = drT l (ts.take k) ++ (if drB l ts[k] = true then [ts[k]] else []) := by
  unfold drT
  rw [List.take_succ_eq_append_getElem h, List.filter_append, List.filter_cons, List.filter_nil]
theorem drT_len (l : List Ac) (ts : List Tx5) (k : Nat) : (drT l (ts.take k)).length ≤ ts.length := by
  have h1 : (drT l (ts.take k)).length ≤ (ts.take k).length := List.length_filter_le _ _
  have h2 : (ts.take k).length ≤ ts.length := by simp; omega
  omega
theorem atF_at (s : ByteArray) : ∀ (l : List Ac) (n : Nat), (atF s l n = -1 ∧ ∀ j (hj : j < l.length), l[j].1 ≠ s) ∨ ∃ k, ∃ h : k < l.length, atF s l n = ((n + k : Nat) : Int) ∧ l[k].1 = s
  | [], n => .inl ⟨rfl, fun j hj => by simp at hj⟩
  | a :: l, n => by
    by_cases h : a.1 = s
    · exact .inr ⟨0, by simp, by rw [atF, if_pos h]; simp, by simpa using h⟩
    · rw [atF, if_neg h]
      rcases atF_at s l (n + 1) with ⟨h1, h2⟩ | ⟨k, hk, h1, h2⟩
      · refine .inl ⟨h1, fun j hj => ?_⟩
        cases j with
        | zero => exact h
        | succ j => simpa using h2 j (by simpa using hj)
      · exact .inr ⟨k + 1, by simpa using hk, by rw [h1]; omega, by simpa using h2⟩
/-- A name is nowhere, or at its place. -/
theorem atA_at (l : List Ac) (s : ByteArray) : (atA l s = -1) ∨ ∃ k, ∃ h : k < l.length, atA l s = (k : Int) ∧ l[k].1 = s := by
  rcases atF_at s l 0 with ⟨h1, _⟩ | ⟨k, hk, h1, h2⟩
  · exact .inl h1
  · exact .inr ⟨k, hk, by unfold atA; rw [h1, Nat.zero_add], h2⟩
theorem drB_none {l : List Ac} {t : Tx5} (h : atA l t.2.1 = -1) : drB l t = false := by unfold drB; rw [h]; rfl
theorem drB_at {l : List Ac} {t : Tx5} {k : Nat} (hk : k < l.length) (h : atA l t.2.1 = (k : Int)) : drB l t = decide (l[k].2.2.1 ≤ t.2.2.2.2) := by
  unfold drB
  rw [h, decide_eq_true (by omega), Bool.true_and, Int.toNat_natCast, List.getD_eq_getElem?_getD, List.getElem?_eq_getElem hk]
  rfl
theorem OwnT.kept1 {base : Nat} {w w' : World} {v : Value} {l : List Tx5} {row : Option Nat} (h : OwnT base w v l) (hg : w.grownBy w' row) (hn : ∀ k, v.ownBlock = some k → row ≠ some k) : OwnT base w' v l := by
  refine ⟨h.1, ?_⟩
  rcases h.2 with h2 | ⟨g, cap, cur, rfl, hb, hh, hrest⟩
  · exact .inl h2
  · exact .inr ⟨g, cap, cur, rfl, hb, (hg.block g (Array.getElem?_eq_some_iff.1 hh).1 (fun e => hn g rfl e.symm)).trans hh, hrest⟩
theorem RdT.at1 {w : World} {a : Option Addr} {cap i : Nat} {l : List Tx5} (h : RdT w (.slice a l.length cap) l) (hi : i < l.length) : ∃ b off, a = some ⟨b, off, none⟩ ∧ b < w.heap.size ∧ TxAt w b (off + i * 5) l[i] := by
  rcases h with ⟨a', cap', hv, rfl, -⟩ | ⟨b, off, cap', h0, hv, h1, h2, h3, h4⟩
  · simp at hi
  · cases hv; exact ⟨b, off, rfl, h3, h4 i hi⟩
theorem RdA.at1 {w : World} {a : Option Addr} {cap i : Nat} {l : List Ac} (h : RdA w (.slice a l.length cap) l) (hi : i < l.length) : ∃ b off av cv, a = some ⟨b, off, none⟩ ∧ b < w.heap.size ∧ AcAt w b (off + i * 5) l[i] (.slice av l[i].2.2.2.2.length cv) := by
  rcases h with ⟨a', cap', hv, rfl, -⟩ | ⟨b, off, cap', h0, hv, h1, h2, h3, h4⟩
  · simp at hi
  · cases hv; obtain ⟨lv, h5, h6⟩ := h4 i hi; obtain ⟨av, cv, rfl⟩ := h6.shape; exact ⟨b, off, av, cv, rfl, h3, h5⟩
set_option maxRecDepth 20000 in
set_option maxHeartbeats 2000000 in
theorem specDrop_any (e : Int) (v vt : Value) (l : List Ac) (ts : List Tx5) (w : World) (hr : RdA w v l) (hrt : RdT w vt ts) (hl : l.length ≤ 4000000) (hts : ts.length ≤ 4000000) :
    Calls Tryz.prog 21 #[vt, lgV e v] w fun en w' => ∃ v', en = .returned v' ∧ OwnT w.heap.size w' v' (drT l ts) ∧ Below w.heap.size w w' := by
  obtain ⟨av, cv, rfl⟩ := hr.shape
  obtain ⟨at_, ct, rfl⟩ := hrt.shape
  simp only [lgV] at *
  obtain ⟨w1, hw1⟩ : ∃ w1, w.alloc (.cells #[.int .i64 e, .slice av l.length cv] 33) = w1 := ⟨_, rfl⟩
  have hs1 : w1.heap.size = w.heap.size + 1 := by rw [← hw1]; simp
  have hb1 : Below w.heap.size w w1 := by rw [← hw1]; exact (Below.refl _ w).alloc (Nat.le_refl _) _
  have k1 : Blk w1 w.heap.size 33 [.int .i64 e, .slice av l.length cv] := by rw [← hw1]; exact Blk.new w _ _
  have Ho := hide (own_nilT w1 w1.heap.size (Nat.le_refl _))
  have hb2 : Below w1.heap.size w1 (w1.alloc (.cells #[] 48)) := (Below.refl _ w1).alloc (Nat.le_refl _) _
  have Hk := hide (k1.below hb2 k1.lt)
  have Hb := hide (hb1.trans (hb2.mono hb1.size))
  have Hr := hide hr
  have Hrt := hide hrt
  have Hs1 := hide hs1
  clear hr hrt hb1 k1 hb2 hs1
  go_enter Tryz.func21, Tryz.ntmps21
  go_wp2
  go_loopw [5, 6] (fun ov iv wr => ∃ (i : Nat) (a : Option Addr) (c : Nat), i ≤ ts.length ∧ iv = .int .i64 (i : Int) ∧ ov = .slice a (drT l (ts.take i)).length c ∧ OwnT w1.heap.size wr (.slice a (drT l (ts.take i)).length c) (drT l (ts.take i)) ∧ Blk wr w.heap.size 33 [.int .i64 e, .slice av l.length cv] ∧ w1.heap.size ≤ wr.heap.size ∧ Below w.heap.size w wr) (fun _ iv _ => ts.length - (intOf iv).toNat)
  case atStart => exact ⟨0, some ⟨w1.heap.size, 0, none⟩, 0, Nat.zero_le _, rfl, by first | rfl | (simp [drT]; done) | (rw [hw1]; simp [drT]), Ho.out, Hk.out, by simp, Hb.out⟩
  case round =>
    obtain ⟨i, a, c, hi, rfl, rfl, ho, hk, hsz, hb⟩ := hrel
    clear Ho Hk Hb
    have hdl := drT_len l ts i
    by_cases hlt : i < ts.length
    · obtain ⟨b, off, rfl, hbw, hT⟩ := Hrt.out.at1 hlt
      replace hT := hT.below hb hbw
      have hli : (i : Int) < (ts.length : Int) := by omega
      have Hsn := hide (drT_snoc l ts i hlt)
      have Hat := hide (atA_at l ts[i].2.1)
      have HdN := hide (drB_none (l := l) (t := ts[i]))
      have HdA := hide (fun k hk => drB_at (l := l) (t := ts[i]) (k := k) hk)
      generalize drT l (ts.take i) = D at ho Hsn hdl ⊢
      generalize ts[i] = t at hT Hsn Hat HdN HdA
      obtain ⟨kd, fm, tn, am, nc⟩ := t
      obtain ⟨p0, p1, p2, p3, p4⟩ := hT
      simp only at p0 p1 p2 p3 p4 Hat HdN HdA
      have e1 := hk.cell 1
      simp only [List.getElem?_cons_zero, List.getElem?_cons_succ] at e1
      have g1 := cell_regrown e1
      have q1 := cell_regrown p1
      have HQ := hide (fun (d : Nat) (os : Array Obj) => Calls.regrown_of (specAcctAt_any (.slice av l.length cv) l fm (grow (redrawn wr d) os) ((Hr.out.below hb (Nat.le_refl _)).below (below_regrown wr d os) (Nat.le_refl _)) hl))
      have Hp : Hid (TxAt wr b (off + i * 5) (kd, fm, tn, am, nc)) := hide ⟨p0, p1, p2, p3, p4⟩
      have Hk := hide hk
      have Hb := hide hb
      have Ho := hide ho
      have hbr : b < wr.heap.size := Nat.lt_of_lt_of_le hbw hb.size
      clear p0 p1 p2 p3 p4 hk hb ho e1
      obtain ⟨K, hK⟩ : ∃ K, atA l fm = K := ⟨_, rfl⟩
      rw [hK] at HQ Hat HdN HdA
      clear hK
      go_wp2
      refine wp_region_quiet_below (by kernel_rfl) (by kernel_rfl) ?_
      repeat (go_big_quiet_step ((go_at_call 40; exact HQ.out _ _)))
      refine wpQuiet_nil ?_
      intro _ hw'
      obtain ⟨⟨dq, osq⟩, hw''⟩ := hw'
      subst hw''
      obtain ⟨w3, hw3⟩ : ∃ w3, grow (redrawn wr dq) osq = w3 := ⟨_, rfl⟩
      have hB3 : Below wr.heap.size wr w3 := by rw [← hw3]; exact below_regrown wr dq osq
      rw [hw3]
      clear hw3 g1 q1 HQ
      have Hp := hide (Hp.out.below hB3 hbr)
      have Hk := hide (Hk.out.below hB3 Hk.out.lt)
      have Ho := hide (Ho.out.below hB3 (Nat.le_refl _))
      have hsz : w1.heap.size ≤ w3.heap.size := Nat.le_trans hsz hB3.size
      have Hb := hide (Hb.out.trans (hB3.mono Hb.out.size))
      have hbr : b < w3.heap.size := Nat.lt_of_lt_of_le hbr hB3.size
      rcases Hat.out with hKn | ⟨k, hkl, hKk, hkn⟩
      · subst hKn
        have Hsn : Hid (drT l (ts.take (i + 1)) = D) := hide (by rw [Hsn.out, HdN.out rfl, if_neg (by simp), List.append_nil])
        clear Hat HdN HdA
        go_wp2
        refine wp_region_quiet_below (by kernel_rfl) (by kernel_rfl) ?_
        repeat (go_big_quiet_step (fail))
        refine wpQuiet_nil ?_
        intro _ hw'
        obtain ⟨⟨dq, osq⟩, hw''⟩ := hw'
        subst hw''
        have hB4 := below_regrown w3 dq osq
        go_wp2
        go_roundw
        case rel => exact ⟨i + 1, a, c, by omega, by go_num, by rw [Hsn.out], by rw [Hsn.out]; exact Ho.out.below hB4 (Nat.le_refl _), Hk.out.below hB4 Hk.out.lt, Nat.le_trans hsz hB4.size, Hb.out.trans (hB4.mono Hb.out.size)⟩
        case measure => simp [intOf]; omega
      · subst hKk
        obtain ⟨ba, oa, al, cl, rfl, hba, hA⟩ := Hr.out.at1 hkl
        have e1 := Hk.out.cell 1
        simp only [List.getElem?_cons_zero, List.getElem?_cons_succ] at e1
        have g1 := cell_regrown e1
        have a2 := cell_regrown ((hA.below Hb.out hba).c2)
        have e4 := Hp.out.c4
        simp only at e4
        have q4 := cell_regrown e4
        clear e1 e4
        have HdA := hide (HdA.out k hkl rfl)
        have hki : (k : Int) < (l.length : Int) := by omega
        have hk0 : (0 : Int) ≤ (k : Int) := by omega
        clear Hat HdN hA hkn
        generalize l[k].2.2.1 = N at a2 HdA
        by_cases hN : N ≤ nc
        · have Hsn : Hid (drT l (ts.take (i + 1)) = D ++ [(kd, fm, tn, am, nc)]) := hide (by rw [Hsn.out, HdA.out, decide_eq_true hN, if_pos rfl])
          have hge : nc ≥ N := hN
          go_wp2
          refine wp_region_quiet_below (by kernel_rfl) (by kernel_rfl) ?_
          repeat (go_big_quiet_step (fail))
          refine wpQuiet_nil ?_
          intro _ hw'
          obtain ⟨⟨dq, osq⟩, hw''⟩ := hw'
          subst hw''
          obtain ⟨w4, hw4⟩ : ∃ w4, grow (redrawn w3 dq) osq = w4 := ⟨_, rfl⟩
          have hB4 : Below w3.heap.size w3 w4 := by rw [← hw4]; exact below_regrown w3 dq osq
          rw [hw4]
          clear hw4 g1 a2 q4
          obtain ⟨p0, p1, p2, p3, p4⟩ := Hp.out.below hB4 hbr
          simp only at p0 p1 p2 p3 p4
          have hB5 : Below w4.heap.size w4 (w4.alloc (.cells #[.int .i64 kd, .string fm, .string tn, .int .i64 am, .int .i64 nc] 48)) := (Below.refl _ w4).alloc (Nat.le_refl _) _
          have H5 := hide (Blk.new w4 48 [.int .i64 kd, .string fm, .string tn, .int .i64 am, .int .i64 nc])
          have Ho5 := hide ((Ho.out.below hB4 (Nat.le_refl _)).below hB5 (Nat.le_refl _))
          have Hk5 := hide ((Hk.out.below hB4 Hk.out.lt).below hB5 (Nat.lt_of_lt_of_le Hk.out.lt hB4.size))
          have Hb5 := hide ((Hb.out.trans (hB4.mono Hb.out.size)).trans (hB5.mono (Nat.le_trans Hb.out.size hB4.size)))
          have hsz5 : w1.heap.size ≤ w4.heap.size := Nat.le_trans hsz hB4.size
          clear hB5 hB4 Ho Hk Hb Hp
          go_wp2_with (at_builtin; refine app_ownT1 _ rfl _ _ rfl w1.heap.size _ _ D (kd, fm, tn, am, nc) rfl rfl Ho5.out H5.out (by omega) (by simp; omega) ?_; intro v' w' ho' hg' hl')
          obtain ⟨a', c', rfl⟩ := ho'.rd.shape
          have hin : Below w1.heap.size (w4.alloc (.cells #[.int .i64 kd, .string fm, .string tn, .int .i64 am, .int .i64 nc] 48)) w' := (Below.refl _ _).grown hg' (by simp; omega) (fun g hg => (Ho5.out.lt g hg).1)
          go_roundw
          case rel => exact ⟨i + 1, a', c', by omega, by go_num, by rw [Hsn.out], by rw [Hsn.out]; exact ho', Hk5.out.below hin (by rw [Hs1.out]; omega), by have := hin.size; simp at this; omega, Hb5.out.trans (hin.mono (by rw [Hs1.out]; omega))⟩
          case measure => simp [intOf]; omega
        · have Hsn : Hid (drT l (ts.take (i + 1)) = D) := hide (by rw [Hsn.out, HdA.out, decide_eq_false hN, if_neg (by simp), List.append_nil])
          have hge : ¬ (nc ≥ N) := hN
          go_wp2
          refine wp_region_quiet_below (by kernel_rfl) (by kernel_rfl) ?_
          repeat (go_big_quiet_step (fail))
          refine wpQuiet_nil ?_
          intro _ hw'
          obtain ⟨⟨dq, osq⟩, hw''⟩ := hw'
          subst hw''
          have hB4 := below_regrown w3 dq osq
          go_wp2
          go_roundw
          case rel => exact ⟨i + 1, a, c, by omega, by go_num, by rw [Hsn.out], by rw [Hsn.out]; exact Ho.out.below hB4 (Nat.le_refl _), Hk.out.below hB4 Hk.out.lt, Nat.le_trans hsz hB4.size, Hb.out.trans (hB4.mono Hb.out.size)⟩
          case measure => simp [intOf]; omega
    · have hil : i = ts.length := by omega
      have He : Hid (drT l (ts.take i) = drT l ts) := hide (by rw [hil, List.take_length])
      rw [He.out] at ho ⊢
      have Hm := hide (show OwnT w.heap.size wr (.slice a (drT l ts).length c) (drT l ts) from by
        refine ⟨ho.1, ?_⟩
        rcases ho.2 with h2 | ⟨g, cap, cur, h3, h4, h5⟩
        · exact .inl h2
        · exact .inr ⟨g, cap, cur, h3, by have := Hs1.out; omega, h5⟩)
      clear ho hil He
      go_wp2
      go_ret
      exact ⟨_, rfl, Hm.out, hb⟩
set_option maxRecDepth 20000 in
set_option maxHeartbeats 2000000 in
theorem implDrop_any (e : Int) (v vt : Value) (l : List Ac) (ts : List Tx5) (w : World) (hr : RdA w v l) (hrt : RdT w vt ts) (hl : l.length ≤ 4000000) (hts : ts.length ≤ 4000000) :
    Calls Tryz.prog 19 #[vt, lgV e v] w fun en w' => ∃ v', en = .returned v' ∧ OwnT w.heap.size w' v' (drT l ts) ∧ Below w.heap.size w w' := by
  obtain ⟨av, cv, rfl⟩ := hr.shape
  obtain ⟨at_, ct, rfl⟩ := hrt.shape
  simp only [lgV] at *
  obtain ⟨w1, hw1⟩ : ∃ w1, w.alloc (.cells #[.int .i64 e, .slice av l.length cv] 33) = w1 := ⟨_, rfl⟩
  have hs1 : w1.heap.size = w.heap.size + 1 := by rw [← hw1]; simp
  have hb1 : Below w.heap.size w w1 := by rw [← hw1]; exact (Below.refl _ w).alloc (Nat.le_refl _) _
  have k1 : Blk w1 w.heap.size 33 [.int .i64 e, .slice av l.length cv] := by rw [← hw1]; exact Blk.new w _ _
  have Ho := hide (own_nilT w1 w1.heap.size (Nat.le_refl _))
  have hb2 : Below w1.heap.size w1 (w1.alloc (.cells #[] 48)) := (Below.refl _ w1).alloc (Nat.le_refl _) _
  have Hk := hide (k1.below hb2 k1.lt)
  have Hb := hide (hb1.trans (hb2.mono hb1.size))
  have Hr := hide hr
  have Hrt := hide hrt
  have Hs1 := hide hs1
  clear hr hrt hb1 k1 hb2 hs1
  go_enter Tryz.func19, Tryz.ntmps19
  go_wp2
  go_step3
  go_wp2
  go_step3
  go_wp2
  go_loopg [5, 13] ts.length (fun g ov iv wr => ∃ (i : Nat) (a : Option Addr) (c : Nat), i + g = ts.length ∧ iv = .int .i64 (i : Int) ∧ ov = .slice a (drT l (ts.take i)).length c ∧ OwnT w1.heap.size wr (.slice a (drT l (ts.take i)).length c) (drT l (ts.take i)) ∧ Blk wr w.heap.size 33 [.int .i64 e, .slice av l.length cv] ∧ w1.heap.size ≤ wr.heap.size ∧ Below w.heap.size w wr)
  case atStart => exact ⟨0, some ⟨w1.heap.size, 0, none⟩, 0, by omega, rfl, by first | rfl | (simp [drT]; done) | (rw [hw1]; simp [drT]), Ho.out, Hk.out, by simp, Hb.out⟩
  case round =>
    obtain ⟨i, a, c, hig, rfl, rfl, ho, hk, hsz, hb⟩ := hrel
    clear Ho Hk Hb
    have hdl := drT_len l ts i
    cases gk with
    | zero =>
      have hil : i = ts.length := by omega
      have He : Hid (drT l (ts.take i) = drT l ts) := hide (by rw [hil, List.take_length])
      have hli : ¬ ((i : Int) < (ts.length : Int)) := by omega
      rw [He.out] at ho ⊢
      have Hm := hide (show OwnT w.heap.size wr (.slice a (drT l ts).length c) (drT l ts) from by
        refine ⟨ho.1, ?_⟩
        rcases ho.2 with h2 | ⟨g, cap, cur, h3, h4, h5⟩
        · exact .inl h2
        · exact .inr ⟨g, cap, cur, h3, by have := Hs1.out; omega, h5⟩)
      clear ho hil He hig
      go_wp2
      try rw [Exit.noGoto_ret]
      go_ret
      exact ⟨_, rfl, Hm.out, hb⟩
    | succ g =>
      have hlt : i < ts.length := by omega
      obtain ⟨b, off, rfl, hbw, hT⟩ := Hrt.out.at1 hlt
      replace hT := hT.below hb hbw
      have hli : (i : Int) < (ts.length : Int) := by omega
      have Hsn := hide (drT_snoc l ts i hlt)
      have HdN := hide (drB_none (l := l) (t := ts[i]))
      have HdA := hide (fun k hk => drB_at (l := l) (t := ts[i]) (k := k) hk)
      have HfN : Hid ((∀ q (hq : q < l.length), l[q].1 ≠ ts[i].2.1) → atA l ts[i].2.1 = -1) := hide (fun h => atF_none ts[i].2.1 l 0 h)
      have HfA : Hid (∀ k (hk : k < l.length), l[k].1 = ts[i].2.1 → (∀ q (hq : q < k), (l[q]'(by omega)).1 ≠ ts[i].2.1) → atA l ts[i].2.1 = ((0 + k : Nat) : Int)) := hide (fun k hk h1 h2 => atF_found ts[i].2.1 l 0 k hk h1 h2)
      generalize drT l (ts.take i) = D at ho Hsn hdl ⊢
      generalize ts[i] = t at hT Hsn HdN HdA HfN HfA
      obtain ⟨kd, fm, tn, am, nc⟩ := t
      obtain ⟨p0, p1, p2, p3, p4⟩ := hT
      simp only at p0 p1 p2 p3 p4 HdN HdA HfN HfA
      obtain ⟨w5, hw5⟩ : ∃ w5, wr.alloc (.cells #[.int .i64 kd, .string fm, .string tn, .int .i64 am, .int .i64 nc] 48) = w5 := ⟨_, rfl⟩
      have hs5 : w5.heap.size = wr.heap.size + 1 := by rw [← hw5]; simp
      have hb5 : Below wr.heap.size wr w5 := by rw [← hw5]; exact (Below.refl _ wr).alloc (Nat.le_refl _) _
      have k5 : Blk w5 wr.heap.size 48 [.int .i64 kd, .string fm, .string tn, .int .i64 am, .int .i64 nc] := by rw [← hw5]; exact Blk.new wr _ _
      have Hk := hide (hk.below hb5 hk.lt)
      have e1 := Hk.out.cell 1
      simp only [List.getElem?_cons_zero, List.getElem?_cons_succ] at e1
      have Hb := hide (hb.trans (hb5.mono hb.size))
      have Ho := hide (ho.below hb5 (Nat.le_refl _))
      have H5 := hide k5
      have Hsz : Hid (w1.heap.size ≤ w5.heap.size) := hide (by omega)
      have Hgi := hide hig
      clear hk hb ho hb5 k5 hs5 hig hsz
      go_wp2
      clear p0 p1 p2 p3 p4 e1
      go_loopg [5, 20] l.length (fun g2 ov jv wy => ∃ j : Nat, j + g2 = l.length ∧ jv = .int .i64 (j : Int) ∧ ov = .slice a D.length c ∧ (∀ q (h : q < l.length), q < j → l[q].1 ≠ fm) ∧ Below w5.heap.size w5 wy)
      case atStart => exact ⟨0, by omega, rfl, rfl, fun q _ hq => by omega, Below.refl _ _⟩
      case round =>
        obtain ⟨j, hjg, rfl, rfl, hno, hby⟩ := hrel
        obtain ⟨wy, rfl⟩ : ∃ x, x = wr := ⟨_, rfl⟩
        have Hno := hide hno
        clear hno
        cases gk with
        | zero =>
          have hjl : ¬ ((j : Int) < (l.length : Int)) := by omega
          have Hsn : Hid (drT l (ts.take (i + 1)) = D) := hide (by rw [Hsn.out, HdN.out (HfN.out (fun q hq => Hno.out q hq (by omega))), if_neg (by simp), List.append_nil])
          have Hby := hide hby
          clear hby hw5
          go_wp2
          go_roundg g
          case rel => exact ⟨i + 1, a, c, by have := Hgi.out; omega, by go_num, by rw [Hsn.out], by rw [Hsn.out]; exact Ho.out.below Hby.out (Nat.le_refl _), Hk.out.below Hby.out Hk.out.lt, Nat.le_trans Hsz.out Hby.out.size, Hb.out.trans (Hby.out.mono Hb.out.size)⟩
          case measure => omega
        | succ g2 =>
          have hjl : j < l.length := by omega
          have hji : (j : Int) < (l.length : Int) := by omega
          obtain ⟨ba, oa, al, cl, rfl, hba, hA⟩ := Hr.out.at1 hjl
          have hA := hA.below (Hb.out.trans (hby.mono Hb.out.size)) hba
          have HdA := hide (HdA.out j hjl)
          have HfA := hide (HfA.out j hjl)
          have Hnx : Hid (l[j].1 ≠ fm → ∀ q (h : q < l.length), q < j + 1 → l[q].1 ≠ fm) := hide (fun he q h hq => by
            by_cases e : q = j
            · subst e; exact he
            · exact Hno.out q h (by omega))
          generalize l[j] = aj at hA HdA HfA Hnx
          obtain ⟨nm, fr, no, st, ls⟩ := aj
          obtain ⟨c0, c1, c2, c3, c4⟩ := hA
          simp only at c0 c1 c2 c3 c4 HdA HfA Hnx
          obtain ⟨w6, hw6⟩ : ∃ w6, wy.alloc (.cells #[.string nm, .int .i64 fr, .int .i64 no, .int .i64 st, .slice al ls.length cl] 51) = w6 := ⟨_, rfl⟩
          have hb6 : Below wy.heap.size wy w6 := by rw [← hw6]; exact (Below.refl _ wy).alloc (Nat.le_refl _) _
          have k6 : Blk w6 wy.heap.size 51 [.string nm, .int .i64 fr, .int .i64 no, .int .i64 st, .slice al ls.length cl] := by rw [← hw6]; exact Blk.new wy _ _
          have Hby := hide (hby.trans (hb6.mono hby.size))
          have k5 := H5.out.below Hby.out H5.out.lt
          have d0 := k6.cell 0
          have d2 := k6.cell 2
          have x0 := k5.cell 0
          have x1 := k5.cell 1
          have x2 := k5.cell 2
          have x3 := k5.cell 3
          have x4 := k5.cell 4
          simp only [List.getElem?_cons_zero, List.getElem?_cons_succ] at d0 d2 x0 x1 x2 x3 x4
          clear hby hb6 k6 k5 hw5
          by_cases he : nm = fm
          · subst he
            have Hat := hide (HfA.out rfl (fun q hq => Hno.out q (by omega) hq))
            have HdA := hide (HdA.out (by rw [Hat.out]; omega))
            clear HfA Hnx Hno Hat
            by_cases hN : no ≤ nc
            · have Hsn : Hid (drT l (ts.take (i + 1)) = D ++ [(kd, nm, tn, am, nc)]) := hide (by rw [Hsn.out, HdA.out, decide_eq_true hN, if_pos rfl])
              have hge : nc ≥ no := hN
              have hB7 : Below w6.heap.size w6 (w6.alloc (.cells #[.int .i64 kd, .string nm, .string tn, .int .i64 am, .int .i64 nc] 48)) := (Below.refl _ w6).alloc (Nat.le_refl _) _
              have H7 := hide (Blk.new w6 48 [.int .i64 kd, .string nm, .string tn, .int .i64 am, .int .i64 nc])
              have Hby7 := hide (Hby.out.trans (hB7.mono Hby.out.size))
              have Ho7 := hide (Ho.out.below Hby7.out (Nat.le_refl _))
              have Hk7 := hide (Hk.out.below Hby7.out Hk.out.lt)
              have Hb7 := hide (Hb.out.trans (Hby7.out.mono Hb.out.size))
              have hsz7 : w1.heap.size ≤ w6.heap.size := Nat.le_trans Hsz.out Hby.out.size
              clear hB7
              go_wp2_with (at_builtin; refine app_ownT1 _ rfl _ _ rfl w1.heap.size _ _ D (kd, nm, tn, am, nc) rfl rfl Ho7.out H7.out (by omega) (by simp; omega) ?_; intro v' w' ho' hg' hl'; obtain ⟨a', c', rfl⟩ := ho'.rd.shape)
              have hin : Below w1.heap.size (w6.alloc (.cells #[.int .i64 kd, .string nm, .string tn, .int .i64 am, .int .i64 nc] 48)) w' := (Below.refl _ _).grown hg' (by simp; omega) (fun g hg => (Ho7.out.lt g hg).1)
              go_roundg g
              case rel => exact ⟨i + 1, a', c', by have := Hgi.out; omega, by go_num, by rw [Hsn.out]; simp, by rw [Hsn.out]; exact ho', Hk7.out.below hin (by rw [Hs1.out]; omega), by have := hin.size; simp at this; omega, Hb7.out.trans (hin.mono (by rw [Hs1.out]; omega))⟩
              case measure => omega
            · have Hsn : Hid (drT l (ts.take (i + 1)) = D) := hide (by rw [Hsn.out, HdA.out, decide_eq_false hN, if_neg (by simp), List.append_nil])
              have hge : ¬ (nc ≥ no) := hN
              go_wp2
              go_roundg g
              case rel => exact ⟨i + 1, a, c, by have := Hgi.out; omega, by go_num, by rw [Hsn.out], by rw [Hsn.out]; exact Ho.out.below Hby.out (Nat.le_refl _), Hk.out.below Hby.out Hk.out.lt, Nat.le_trans Hsz.out Hby.out.size, Hb.out.trans (Hby.out.mono Hb.out.size)⟩
              case measure => omega
          · have hq := bytes_ne he
            have Hnx := hide (Hnx.out he)
            have hjg' : Hid (j + 1 + g2 = l.length) := hide (by omega)
            clear he HfA HdA Hno
            go_wp2
            go_roundg g2
            case rel => exact ⟨j + 1, hjg'.out, by go_num, rfl, Hnx.out, Hby.out⟩
            case measure => omega
end Go.Proofs.YtbbkeebfginlfaaGreatDoor
