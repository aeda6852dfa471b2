/- At all names and ledgers NodeNew of the program answers as the model's NodeNew, writes into no argument, and its answer owns its memory: the law FnExactNodeNew returns true, with no condition. -/
import Derived.Test.YtljkmoffpgpeoaaRows
import Derived.Test.YtljkmoffpgpeoaaLgOpen
import Derived.Test.YtljkmoffpgpeoaaVsEq
import Derived.Test.YtljkmoffpgpeoaaVsMark
import Derived.Test.YtljkmoffpgpeoaaNdNew
import Derived.Test.YtljkmoffpgpeoaaNdVal
import Derived.Test.YtljkmoffpgpeoaaLgFacts
import Derived.Test.YtljkmoffpgpeoaaAcHeld
import Derived.Test.YtljkmoffpgpeoaaAcCutA
import Derived.WalkKit
import Derived.ProofKit
import Derived.OpenShut
import Derived.ShutString
import Derived.ChangeOld
import Derived.Below
import Derived.SliceStrings
namespace Go.Proofs.Ytljkmoffpgpeoaa
open Go.ChangeShapes Go.WideShapes Go.ChangeAt Go.RowKit
open Go.ChangeMaps (open_string shut_string)
set_option linter.unusedVariables false

theorem fnExactNodeNew_own : ownKnob Try.prog.godebug = none := by kernel_rfl
theorem fnExactNodeNew_laidOut : laidOutB Try.prog = true := by kernel_rfl

theorem ld20 {ops : Array Oper} {rest : List Oper} {op : Oper} {a : Act} {w : World} {Q : Exit → Act → World → Prop} (x : Operand) (ho : op.op = .load 42 x) (B : Nat) (hx : a.eval x = .pointer (some ⟨B, 0, none⟩)) {u0 u1 u2 u3 u4 u5 u6 u7 u8 u9 u10 u11 u12 u13 u14 u15 u16 u17 u18 u19 : Value} (h : Blk w B 42 [u0, u1, u2, u3, u4, u5, u6, u7, u8, u9, u10, u11, u12, u13, u14, u15, u16, u17, u18, u19])
    (hw : Region.wanted op (yielded ops a.tmps) = true) (hK : wpList Try.prog ops Q rest (a.put op.dst (.agg #[u0, u1, u2, u3, u4, u5, u6, u7, u8, u9, u10, u11, u12, u13, u14, u15, u16, u17, u18, u19])) w) : wpList Try.prog ops Q (op :: rest) a w := by
  unfold wpList
  rw [if_pos hw]
  exact .inl (wp_load_mid 42 x ho B 0 hx [u0, u1, u2, u3, u4, u5, u6, u7, u8, u9, u10, u11, u12, u13, u14, u15, u16, u17, u18, u19] _ (fun j v hv => by rw [Nat.zero_add]; exact (h.cell j).trans hv) Try.underlying42 rfl (by kernel_rfl) hK)
open Classical in
set_option maxRecDepth 20000 in
set_option maxHeartbeats 8000000 in
theorem nodeNew_real (a0 : ByteArray) (a1 : Int) (y1 : Value) (z1 : List Ac) (w : World) (w0 : a0.size ≤ maxLen) (hok : (nmB a0 && lgB a1 z1) = true) (w1x : RdA w y1 z1 ∧ z1.length ≤ maxLen ∧ ∀ q ∈ z1, q.1.size ≤ maxLen ∧ q.2.2.2.2.length ≤ maxLen) :
    Calls Try.prog 3 #[.string a0, lgV a1 y1] w fun e w' => e = .returned (.bool true) ∧ Below w.heap.size w w' := by
  obtain ⟨hr, hlm, hsm⟩ := w1x
  obtain ⟨av, cv, rfl⟩ := hr.shape
  have hlm' : z1.length ≤ 9223372036854775807 := by unfold maxLen at hlm; omega
  have hsm' : ∀ a ∈ z1, a.1.size ≤ 9223372036854775807 ∧ a.2.2.2.2.length ≤ 9223372036854775807 := fun a ha => by have := hsm a ha; unfold maxLen at this; omega
  obtain ⟨w1, hw1⟩ : ∃ w1, w.alloc (.cells #[.int .i64 a1, .slice av z1.length cv] 24) = w1 := ⟨_, rfl⟩
  have hb1 : Below w.heap.size w w1 := by rw [← hw1]; exact (Below.refl _ w).alloc (Nat.le_refl _) _
  have k1 : Blk w1 w.heap.size 24 [.int .i64 a1, .slice av z1.length cv] := by rw [← hw1]; exact Blk.new w _ _
  have Hz := hide (szLedger_any a1 _ z1 1048576 w1 (hr.below hb1 (Nat.le_refl _)) (by omega) hlm' hsm')
  have Hr := hide hr
  have Hsm := hide hsm
  have Hnm : Hid (a0.size ≤ maxLen) := hide w0
  have l1 : w1.heap.size = w.heap.size + 1 := by rw [← hw1]; simp
  have c0 := k1.cell 0
  have c1 := k1.cell 1
  simp only [List.getElem?_cons_zero, List.getElem?_cons_succ] at c0 c1
  simp only [lgV] at *
  clear hr hsm hsm' hlm w0
  by_cases hbig : (1048576 : Int) < (a0.size : Int)
  · go_enter Try.func3, Try.ntmps3
    go_wp2
    go_ret
    exact ⟨rfl, hb1⟩
  go_enter Try.func3, Try.ntmps3
  go_wp2_with fail
  refine Hz.out.mono ?_
  rintro e w2 ⟨r, rfl, hfit, hb2⟩
  have hB2 : Below w.heap.size w w2 := hb1.trans (hb2.mono hb1.size)
  have k2 := k1.below hb2 k1.lt
  clear c0 c1 k1
  by_cases hneg : r < 0
  · clear hfit
    go_wp2
    go_ret
    exact ⟨rfl, hB2⟩
  · have hl := hfit (by omega)
    have hl4 : z1.length ≤ 4000000 := by omega
    have hlv : ∀ a ∈ z1, a.2.2.2.2.length ≤ 4000000 := fun a ha => by have h1 := totA_at z1 a ha; unfold wgA at h1; omega
    have hnl : ∀ a ∈ z1, a.1.size ≤ maxLen ∧ a.2.2.2.2.length ≤ 4000000 := fun a ha => ⟨(Hsm.out a ha).1, hlv a ha⟩
    have hnz : nxs 1 z1 ≤ 90000000 := by have := nxs_tot 1 z1; omega
    have hn1 : 1 ≤ nxs 1 z1 := nxs_ge 1 z1
    have HT := hide (fun v w hr => toLedger_any a1 v z1 w hr hl4 hlv)
    have HE := hide (fun v1 v2 w h1 h2 => eqLedger_any a1 a1 v1 v2 z1 z1 w h1 h2 hl4 hl4 hlv hlv)
    rw [decide_eq_true rfl, decide_eq_true rfl, Bool.true_and] at HE
    have HM := hide (fun v base hi w ho => markLedger_any a1 v z1 1 base hi w ho (by omega) (fun a ha => by have := hlv a ha; omega) hnz (by omega))
    have hkz : ¬ ((nxs 1 z1 : Nat) : Int) < 0 := by omega
    have hz38 : w.heap.size < w2.heap.size := k2.lt
    have HS : Hid (∀ v V, RdA V v z1 → Calls Try.prog 5 #[.string a0, .agg #[.int .i64 a1, v]] V fun en w' => ∃ (aa : Option Addr) (ca : Nat) (sa : Option Addr) (cs base hi : Nat), en = .returned (ndV a0 a1 (.slice aa z1.length ca) (.slice sa (setV z1).length cs) 1 (-1)) ∧ OwnX base hi w' (.slice aa z1.length ca) z1 ∧ OwnV hi w' (.slice sa (setV z1).length cs) (setV z1) ∧ V.heap.size ≤ base ∧ base ≤ hi ∧ hi ≤ w'.heap.size ∧ Below V.heap.size V w') := hide (fun v V h => by
      refine (specNodeNew_any a0 a1 v z1 V h Hnm.out hl4 hnl).mono ?_
      rintro en w' (⟨_, h⟩ | ⟨h, _⟩)
      · exact h
      · rw [hok] at h; cases h)
    have HI : Hid (∀ v V, RdA V v z1 → Calls Try.prog 7 #[.string a0, .agg #[.int .i64 a1, v]] V fun en w' => ∃ (aa : Option Addr) (ca : Nat) (sa : Option Addr) (cs base hi : Nat), en = .returned (ndV a0 a1 (.slice aa z1.length ca) (.slice sa (setV z1).length cs) 1 (-1)) ∧ OwnX base hi w' (.slice aa z1.length ca) z1 ∧ OwnV hi w' (.slice sa (setV z1).length cs) (setV z1) ∧ V.heap.size ≤ base ∧ base ≤ hi ∧ hi ≤ w'.heap.size ∧ Below V.heap.size V w') := hide (fun v V h => by
      refine (implNodeNew_any a0 a1 v z1 V h Hnm.out hl4 hnl).mono ?_
      rintro en w' (⟨_, h⟩ | ⟨h, _⟩)
      · exact h
      · rw [hok] at h; cases h)
    have hSl : (setV z1).length ≤ 4000000 := Nat.le_trans (setV_len z1) hl4
    generalize setV z1 = S at HS HI hSl
    have HEV := hide (fun v1 v2 w h1 h2 => eqValS_any v1 v2 S S w h1 h2 hSl hSl)
    rw [decide_eq_true rfl] at HEV
    have HMa := hide (fun v base hi w ho => markLedger_any a1 v z1 1 base hi w ho (by omega) (fun a ha => by have := hlv a ha; omega) hnz (by omega))
    have HMv := hide (fun v base w ho => markValS_any v S (nxs 1 z1) base w ho (by omega) (by omega) (by omega))
    have HHa := hide (fun v w hr => heldLedger_any a1 v z1 1 w hr (by omega) (fun a ha => by have := hlv a ha; omega) hnz (by omega))
    have HHv := hide (fun v w hr => heldValS_any v (nxs 1 z1) S.length w hr (by omega) (by omega) (by omega))
    simp only [lgV] at HT HE HM HMa HHa
    have HEQ := hide (fun W aa ca sa ca' aa' cb sb cb' (h1 : RdA W (.slice aa z1.length ca) z1) (h2 : RdA W (.slice aa' z1.length cb) z1) (h3 : RdV W (.slice sa S.length ca') S) (h4 : RdV W (.slice sb S.length cb') S) => eqNode_any a0 a1 1 (-1) aa aa' sa sb z1.length ca cb S.length ca' cb' W (fun V hV => HE.out _ _ V (h1.below hV (Nat.le_refl _)) (h2.below hV (Nat.le_refl _))) (fun V hV => HEV.out _ _ V (h3.below hV (Nat.le_refl _)) (h4.below hV (Nat.le_refl _))))
    have HHN := hide (fun W aa ca sa cb (h1 : RdA W (.slice aa z1.length ca) (mkAs 1 z1)) (h2 : RdV W (.slice sa S.length cb) (mkV (nxs 1 z1) S.length)) => heldNode_any a0 a1 1 (-1) aa sa z1.length ca S.length cb 1 ((nxs 1 z1 : Nat) : Int) ((nxs 1 z1 + 2 * S.length : Nat) : Int) (by omega) (by omega) W (fun V hV => HHa.out _ V (h1.below hV (Nat.le_refl _))) (fun V hV => HHv.out _ V (h2.below hV (Nat.le_refl _))))
    have HMN := hide (fun W aa ca sa cb base hi top hx hv hbh hhi htop hht htw => markNode_any a0 a1 1 (-1) aa sa ca cb base hi top z1 S W hx hv hbh hhi htop hht htw (fun V h => HMa.out _ base hi V h) (fun V h => HMv.out _ hi V h))
    simp only [ndV] at HEQ HHN HMN HS HI
    have hkP : ¬ ((nxs 1 z1 + 2 * S.length : Nat) : Int) < 0 := by omega
    generalize hkk : ((nxs 1 z1 + 2 * S.length : Nat) : Int) = KK at HHN HMN hkP
    generalize nxs 1 z1 = kz at HM hkz
    clear hfit hl hl4 hlv hnl Hsm Hz hnz hn1 hSl HMa HMv HHa HHv HEV hkk hok Hnm
    have c0 := k2.cell 0
    have c1 := k2.cell 1
    simp only [List.getElem?_cons_zero, List.getElem?_cons_succ] at c0 c1
    go_wp2_with fail
    refine (HT.out _ _ (Hr.out.below hB2 (Nat.le_refl _))).mono ?_
    rintro e w3 ⟨v3, rfl, o3, hb3⟩
    have hB3 : Below w.heap.size w w3 := hB2.trans (hb3.mono hB2.size)
    replace k2 := k2.below hb3 k2.lt
    obtain ⟨a3, c3, rfl⟩ := o3.rd.shape
    clear c0 c1
    go_wp2_with fail
    refine (HS.out _ _ o3.rd).mono ?_
    rintro e w4 ⟨a4, c4, s4, d4, p4, q4, rfl, x4, y4, hp4, hpq4, hq4, hb4⟩
    have hB4 : Below w.heap.size w w4 := hB3.trans (hb4.mono hB3.size)
    replace k2 := k2.below hb4 k2.lt
    have hy4 : ∀ k, (Value.slice s4 S.length d4).ownBlock = some k → k < w4.heap.size := fun k hk => (World.ownsRow.lt y4 k hk).2
    have HT5 := hide ((Blk.new w4 42 [.string { data := #[] }, .int .i64 0, .int .i64 0, .slice none 0 0, .slice none 0 0, .slice none 0 0, .int .i64 0, .int .i64 0, .int .i64 0, .int .i64 0, .slice none 0 0, .int .i64 0, .slice none 0 0, .slice none 0 0, .int .i64 0, .slice none 0 0, .slice none 0 0, .slice none 0 0, .slice none 0 0, .slice none 0 0]).there (n := 20) rfl)
    go_upto_region 8 with (refine st20 rfl _ _ rfl w4.heap.size rfl rfl HT5.out rfl ?_)
    generalize hw5 : World.setCells _ _ _ _ = w5
    have hb5 : Below w4.heap.size w4 w5 := by rw [← hw5]; exact belS ((Below.refl _ w4).alloc (Nat.le_refl _) _) (Nat.le_refl _) (by simp) (Nat.le_refl _)
    have n5 : Blk w5 w4.heap.size 42 [.string a0, .int .i64 a1, .int .i64 a1, .slice a4 z1.length c4, .slice s4 S.length d4, .slice none 0 0, .int .i64 1, .int .i64 0, .int .i64 0, .int .i64 (-1), .slice none 0 0, .int .i64 0, .slice none 0 0, .slice none 0 0, .int .i64 0, .slice none 0 0, .slice none 0 0, .slice none 0 0, .slice none 0 0, .slice none 0 0] := by rw [← hw5]; exact blkS20 (Blk.new w4 42 [.string { data := #[] }, .int .i64 0, .int .i64 0, .slice none 0 0, .slice none 0 0, .slice none 0 0, .int .i64 0, .int .i64 0, .int .i64 0, .int .i64 0, .slice none 0 0, .int .i64 0, .slice none 0 0, .slice none 0 0, .int .i64 0, .slice none 0 0, .slice none 0 0, .slice none 0 0, .slice none 0 0, .slice none 0 0])
    have l5 : w4.heap.size < w5.heap.size := n5.lt
    clear HT5 hw5
    have hB5 : Below w.heap.size w w5 := hB4.trans (hb5.mono hB4.size)
    replace k2 := k2.below hb5 k2.lt
    replace x4 := x4.below hb5 (Nat.le_refl _)
    replace y4 := y4.below hb5 (Nat.le_refl _)
    clear o3
    have c0 := k2.cell 0
    have c1 := k2.cell 1
    simp only [List.getElem?_cons_zero, List.getElem?_cons_succ] at c0 c1
    go_wp2_with fail
    refine (HT.out _ _ (Hr.out.below hB5 (Nat.le_refl _))).mono ?_
    rintro e w6 ⟨v6, rfl, o6, hb6⟩
    have hB6 : Below w.heap.size w w6 := hB5.trans (hb6.mono hB5.size)
    replace k2 := k2.below hb6 k2.lt
    replace n5 := n5.below hb6 n5.lt
    replace x4 := x4.below hb6 (Nat.le_refl _)
    replace y4 := y4.below hb6 (Nat.le_refl _)
    have x6 := o6.ox
    clear o6 c0 c1
    obtain ⟨a6, c6, rfl⟩ := x6.rd.shape
    obtain ⟨w7, hw7⟩ : ∃ w7, w6.alloc (.cells #[.int .i64 a1, .slice a6 z1.length c6] 28) = w7 := ⟨_, rfl⟩
    have hb7 : Below w6.heap.size w6 w7 := by rw [← hw7]; exact (Below.refl _ w6).alloc (Nat.le_refl _) _
    have b7 : Blk w7 w6.heap.size 28 [.int .i64 a1, .slice a6 z1.length c6] := by rw [← hw7]; exact Blk.new w6 _ _
    have l7 : w7.heap.size = w6.heap.size + 1 := by rw [← hw7]; simp
    have hB7 : Below w.heap.size w w7 := hB6.trans (hb7.mono hB6.size)
    replace k2 := k2.below hb7 k2.lt
    replace n5 := n5.below hb7 n5.lt
    replace x4 := x4.below hb7 (Nat.le_refl _)
    replace y4 := y4.below hb7 (Nat.le_refl _)
    replace x6 := x6.below hb7 (Nat.le_refl _)
    have c0 := b7.cell 0
    have c1 := b7.cell 1
    simp only [List.getElem?_cons_zero, List.getElem?_cons_succ] at c0 c1
    go_wp2_with fail
    refine (HI.out _ _ x6.rd).mono ?_
    rintro e w8 ⟨a8, c8, s8, d8, p8, q8, rfl, x8, y8, hp8, hpq8, hq8, hb8⟩
    have hB8 : Below w.heap.size w w8 := hB7.trans (hb8.mono hB7.size)
    replace k2 := k2.below hb8 k2.lt
    replace n5 := n5.below hb8 n5.lt
    replace b7 := b7.below hb8 b7.lt
    replace x4 := x4.below hb8 (Nat.le_refl _)
    replace y4 := y4.below hb8 (Nat.le_refl _)
    replace x6 := x6.below hb8 (Nat.le_refl _)
    have hy8 : ∀ k, (Value.slice s8 S.length d8).ownBlock = some k → k < w8.heap.size := fun k hk => (World.ownsRow.lt y8 k hk).2
    have HT9 := hide ((Blk.new w8 42 [.string { data := #[] }, .int .i64 0, .int .i64 0, .slice none 0 0, .slice none 0 0, .slice none 0 0, .int .i64 0, .int .i64 0, .int .i64 0, .int .i64 0, .slice none 0 0, .int .i64 0, .slice none 0 0, .slice none 0 0, .int .i64 0, .slice none 0 0, .slice none 0 0, .slice none 0 0, .slice none 0 0, .slice none 0 0]).there (n := 20) rfl)
    go_upto_region 10 with (refine st20 rfl _ _ rfl w8.heap.size rfl rfl HT9.out rfl ?_)
    generalize hw9 : World.setCells _ _ _ _ = w9
    have hb9 : Below w8.heap.size w8 w9 := by rw [← hw9]; exact belS ((Below.refl _ w8).alloc (Nat.le_refl _) _) (Nat.le_refl _) (by simp) (Nat.le_refl _)
    have n9 : Blk w9 w8.heap.size 42 [.string a0, .int .i64 a1, .int .i64 a1, .slice a8 z1.length c8, .slice s8 S.length d8, .slice none 0 0, .int .i64 1, .int .i64 0, .int .i64 0, .int .i64 (-1), .slice none 0 0, .int .i64 0, .slice none 0 0, .slice none 0 0, .int .i64 0, .slice none 0 0, .slice none 0 0, .slice none 0 0, .slice none 0 0, .slice none 0 0] := by rw [← hw9]; exact blkS20 (Blk.new w8 42 [.string { data := #[] }, .int .i64 0, .int .i64 0, .slice none 0 0, .slice none 0 0, .slice none 0 0, .int .i64 0, .int .i64 0, .int .i64 0, .int .i64 0, .slice none 0 0, .int .i64 0, .slice none 0 0, .slice none 0 0, .int .i64 0, .slice none 0 0, .slice none 0 0, .slice none 0 0, .slice none 0 0, .slice none 0 0])
    have l9 : w8.heap.size < w9.heap.size := n9.lt
    clear HT9 hw9
    have hB9 : Below w.heap.size w w9 := hB8.trans (hb9.mono hB8.size)
    replace k2 := k2.below hb9 k2.lt
    replace n5 := n5.below hb9 n5.lt
    replace b7 := b7.below hb9 b7.lt
    replace x4 := x4.below hb9 (Nat.le_refl _)
    replace y4 := y4.below hb9 (Nat.le_refl _)
    replace x6 := x6.below hb9 (Nat.le_refl _)
    replace x8 := x8.below hb9 (Nat.le_refl _)
    replace y8 := y8.below hb9 (Nat.le_refl _)
    clear c0 c1
    go_wp2_with (first | (refine ld20 _ rfl w8.heap.size rfl n9 rfl ?_) | (refine ld20 _ rfl w4.heap.size rfl n5 rfl ?_))
    refine (HEQ.out w9 _ _ _ _ _ _ _ _ x8.rd x4.rd y8.rd y4.rd).mono ?_
    rintro e w10 ⟨rfl, hb10⟩
    have hB10 : Below w.heap.size w w10 := hB9.trans (hb10.mono hB9.size)
    replace k2 := k2.below hb10 k2.lt
    replace n5 := n5.below hb10 n5.lt
    replace b7 := b7.below hb10 b7.lt
    replace n9 := n9.below hb10 n9.lt
    replace x4 := x4.below hb10 (Nat.le_refl _)
    replace y4 := y4.below hb10 (Nat.le_refl _)
    replace x6 := x6.below hb10 (Nat.le_refl _)
    replace x8 := x8.below hb10 (Nat.le_refl _)
    replace y8 := y8.below hb10 (Nat.le_refl _)
    have hd10 : Below w10.heap.size w10 w10.drew := (Below.refl _ w10).drew
    have hB10d : Below w.heap.size w w10.drew := hB10.drew
    replace k2 := k2.below hd10 k2.lt
    replace n5 := n5.below hd10 n5.lt
    replace b7 := b7.below hd10 b7.lt
    replace n9 := n9.below hd10 n9.lt
    replace x4 := x4.below hd10 (Nat.le_refl _)
    replace y4 := y4.below hd10 (Nat.le_refl _)
    replace x6 := x6.below hd10 (Nat.le_refl _)
    replace x8 := x8.below hd10 (Nat.le_refl _)
    replace y8 := y8.below hd10 (Nat.le_refl _)
    have HSx : Hid (∀ W, Blk W w.heap.size 24 [.int .i64 a1, .slice av z1.length cv] → Blk W w6.heap.size 28 [.int .i64 a1, .slice a6 z1.length c6] → (W.cell? ⟨w.heap.size, 0, none⟩ = some (.int .i64 a1) ∧ W.cell? ⟨w.heap.size, 1, none⟩ = some (.slice av z1.length cv) ∧ W.cell? ⟨w6.heap.size, 0, none⟩ = some (.int .i64 a1) ∧ W.cell? ⟨w6.heap.size, 1, none⟩ = some (.slice a6 z1.length c6))) := hide (fun W h1 h2 => ⟨h1.cell 0, h1.cell 1, h2.cell 0, h2.cell 1⟩)
    have hS10 := HSx.out _ k2 b7
    have Kk := hide k2
    have Kb := hide b7
    have Kx := hide x6
    clear k2 b7 x6
    go_wp2
    go_region_held_law (fun w' => w'.cell? ⟨w.heap.size, 0, none⟩ = some (.int .i64 a1) ∧ w'.cell? ⟨w.heap.size, 1, none⟩ = some (.slice av z1.length cv) ∧ w'.cell? ⟨w6.heap.size, 0, none⟩ = some (.int .i64 a1) ∧ w'.cell? ⟨w6.heap.size, 1, none⟩ = some (.slice a6 z1.length c6)) (first | with_reducible exact hS10 | with_reducible exact hS11 | with_reducible exact hS12) ((first
      | (go_at_call 9; refine (HE.out _ _ _ (Kx.out.below hb11 (Nat.le_refl _)).rd o11.rd).mono ?_; rintro e w12 ⟨rfl, hb12⟩; have hS12 := HSx.out _ ((Kk.out.below hb11 Kk.out.lt).below hb12 (Kk.out.below hb11 Kk.out.lt).lt) ((Kb.out.below hb11 Kb.out.lt).below hb12 (Kb.out.below hb11 Kb.out.lt).lt))
      | (go_at_call 6; refine (HT.out _ _ (Hr.out.below hB10d (Nat.le_refl _))).mono ?_; rintro e w11 ⟨v11, rfl, o11, hb11⟩; have hsh := o11.rd.shape; obtain ⟨a11, c11, hv11⟩ := hsh; subst hv11; have hS11 := HSx.out _ (Kk.out.below hb11 Kk.out.lt) (Kb.out.below hb11 Kb.out.lt))))
    have k2 := Kk.out
    have b7 := Kb.out
    have x6 := Kx.out
    have hB11 : Below w.heap.size w w11 := hB10d.trans (hb11.mono hB10.size)
    replace k2 := k2.below hb11 k2.lt
    replace n5 := n5.below hb11 n5.lt
    replace b7 := b7.below hb11 b7.lt
    replace n9 := n9.below hb11 n9.lt
    replace x4 := x4.below hb11 (Nat.le_refl _)
    replace y4 := y4.below hb11 (Nat.le_refl _)
    replace x6 := x6.below hb11 (Nat.le_refl _)
    replace x8 := x8.below hb11 (Nat.le_refl _)
    replace y8 := y8.below hb11 (Nat.le_refl _)
    have hB12 : Below w.heap.size w w12 := hB11.trans (hb12.mono hB11.size)
    replace k2 := k2.below hb12 k2.lt
    replace n5 := n5.below hb12 n5.lt
    replace b7 := b7.below hb12 b7.lt
    replace n9 := n9.below hb12 n9.lt
    replace x4 := x4.below hb12 (Nat.le_refl _)
    replace y4 := y4.below hb12 (Nat.le_refl _)
    replace x6 := x6.below hb12 (Nat.le_refl _)
    replace x8 := x8.below hb12 (Nat.le_refl _)
    replace y8 := y8.below hb12 (Nat.le_refl _)
    clear hS10 hS11 hS12 o11 HSx Kk Kb Kx
    have c0 := b7.cell 0
    have c1 := b7.cell 1
    simp only [List.getElem?_cons_zero, List.getElem?_cons_succ] at c0 c1
    go_wp2_with fail
    refine (HM.out _ _ _ _ x6).mono ?_
    rintro e w13 ⟨rfl, -, ht13⟩
    have z3 := hb3.size
    have z4 := hb4.size
    have z5 := hb5.size
    have z6 := hb6.size
    have z7 := hb7.size
    have z8 := hb8.size
    have z9 := hb9.size
    have z10 := hb10.size
    have z12 := hB12.size
    have hB13 : Below w.heap.size w w13 := hB12.trans (ht13.below (by omega) hB12.size)
    clear c0 c1 x6
    replace k2 := k2.btw ht13 (.inl (by omega))
    replace n5 := n5.btw ht13 (.inl (by omega))
    replace b7 := b7.btw ht13 (.inr (by omega))
    replace n9 := n9.btw ht13 (.inr (by omega))
    replace x4 := x4.btw ht13 (.inl (by omega))
    replace y4 := y4.btw ht13 (.inr (fun k hk => by have := hy4 k hk; omega))
    replace x8 := x8.btw ht13 (.inr (by omega))
    replace y8 := y8.btw ht13 (.inl (by omega))
    go_wp2_with (first | (refine ld20 _ rfl w8.heap.size rfl n9 rfl ?_) | (refine ld20 _ rfl w4.heap.size rfl n5 rfl ?_))
    refine (HEQ.out w13 _ _ _ _ _ _ _ _ x8.rd x4.rd y8.rd y4.rd).mono ?_
    rintro e w14 ⟨rfl, hb14⟩
    have hB14 : Below w.heap.size w w14 := hB13.trans (hb14.mono hB13.size)
    replace k2 := k2.below hb14 k2.lt
    replace n5 := n5.below hb14 n5.lt
    replace b7 := b7.below hb14 b7.lt
    replace n9 := n9.below hb14 n9.lt
    replace x4 := x4.below hb14 (Nat.le_refl _)
    replace y4 := y4.below hb14 (Nat.le_refl _)
    replace x8 := x8.below hb14 (Nat.le_refl _)
    replace y8 := y8.below hb14 (Nat.le_refl _)
    go_wp2_with (first | (refine ld20 _ rfl w8.heap.size rfl n9 rfl ?_))
    refine (HMN.out w14 _ _ _ _ p8 q8 w8.heap.size x8 y8 hpq8 (by have := hb14.size; have := ht13.size; have := hb12.size; have := hb11.size; have := hd10.size; omega) hy8 hq8 (by have := hb14.size; have := ht13.size; have := hb12.size; have := hb11.size; have := hd10.size; omega)).mono ?_
    rintro e w15 ⟨rfl, x15, y15, ht15⟩
    have hB15 : Below w.heap.size w w15 := hB14.trans (ht15.below (by omega) hB14.size)
    clear x8 y8
    replace k2 := k2.btw ht15 (.inl (by omega))
    replace n5 := n5.btw ht15 (.inl (by omega))
    replace n9 := n9.btw ht15 (.inr (Nat.le_refl _))
    replace x4 := x4.btw ht15 (.inl (by omega))
    replace y4 := y4.btw ht15 (.inr (fun k hk => by have := hy4 k hk; omega))
    clear b7
    go_wp2_with (first | (refine ld20 _ rfl w8.heap.size rfl n9 rfl ?_))
    refine (HHN.out w15 _ _ _ _ x15.rd y15.rd).mono ?_
    rintro e w16 ⟨rfl, hb16⟩
    have hB16 : Below w.heap.size w w16 := hB15.trans (hb16.mono hB15.size)
    replace k2 := k2.below hb16 k2.lt
    replace n5 := n5.below hb16 n5.lt
    replace n9 := n9.below hb16 n9.lt
    replace x4 := x4.below hb16 (Nat.le_refl _)
    replace y4 := y4.below hb16 (Nat.le_refl _)
    replace x15 := x15.below hb16 (Nat.le_refl _)
    replace y15 := y15.below hb16 (Nat.le_refl _)
    have c0 := k2.cell 0
    have c1 := k2.cell 1
    simp only [List.getElem?_cons_zero, List.getElem?_cons_succ] at c0 c1
    go_wp2_with fail
    refine (HT.out _ _ (Hr.out.below hB16 (Nat.le_refl _))).mono ?_
    rintro e w17 ⟨v17, rfl, o17, hb17⟩
    have hB17 : Below w.heap.size w w17 := hB16.trans (hb17.mono hB16.size)
    replace k2 := k2.below hb17 k2.lt
    replace n5 := n5.below hb17 n5.lt
    replace n9 := n9.below hb17 n9.lt
    replace x4 := x4.below hb17 (Nat.le_refl _)
    replace y4 := y4.below hb17 (Nat.le_refl _)
    replace x15 := x15.below hb17 (Nat.le_refl _)
    replace y15 := y15.below hb17 (Nat.le_refl _)
    obtain ⟨a17, c17, rfl⟩ := o17.rd.shape
    clear c0 c1
    go_wp2_with fail
    refine (HI.out _ _ o17.rd).mono ?_
    rintro e w18 ⟨a18, c18, s18, d18, p18, q18, rfl, x18, y18, hp18, hpq18, hq18, hb18⟩
    have hB18 : Below w.heap.size w w18 := hB17.trans (hb18.mono hB17.size)
    replace k2 := k2.below hb18 k2.lt
    replace n5 := n5.below hb18 n5.lt
    replace n9 := n9.below hb18 n9.lt
    replace x4 := x4.below hb18 (Nat.le_refl _)
    replace y4 := y4.below hb18 (Nat.le_refl _)
    replace x15 := x15.below hb18 (Nat.le_refl _)
    replace y15 := y15.below hb18 (Nat.le_refl _)
    have hy18 : ∀ k, (Value.slice s18 S.length d18).ownBlock = some k → k < w18.heap.size := fun k hk => (World.ownsRow.lt y18 k hk).2
    have HT19 := hide ((Blk.new w18 42 [.string { data := #[] }, .int .i64 0, .int .i64 0, .slice none 0 0, .slice none 0 0, .slice none 0 0, .int .i64 0, .int .i64 0, .int .i64 0, .int .i64 0, .slice none 0 0, .int .i64 0, .slice none 0 0, .slice none 0 0, .int .i64 0, .slice none 0 0, .slice none 0 0, .slice none 0 0, .slice none 0 0, .slice none 0 0]).there (n := 20) rfl)
    go_upto_region 27 with (refine st20 rfl _ _ rfl w18.heap.size rfl rfl HT19.out rfl ?_)
    generalize hw19 : World.setCells _ _ _ _ = w19
    have hb19 : Below w18.heap.size w18 w19 := by rw [← hw19]; exact belS ((Below.refl _ w18).alloc (Nat.le_refl _) _) (Nat.le_refl _) (by simp) (Nat.le_refl _)
    have n19 : Blk w19 w18.heap.size 42 [.string a0, .int .i64 a1, .int .i64 a1, .slice a18 z1.length c18, .slice s18 S.length d18, .slice none 0 0, .int .i64 1, .int .i64 0, .int .i64 0, .int .i64 (-1), .slice none 0 0, .int .i64 0, .slice none 0 0, .slice none 0 0, .int .i64 0, .slice none 0 0, .slice none 0 0, .slice none 0 0, .slice none 0 0, .slice none 0 0] := by rw [← hw19]; exact blkS20 (Blk.new w18 42 [.string { data := #[] }, .int .i64 0, .int .i64 0, .slice none 0 0, .slice none 0 0, .slice none 0 0, .int .i64 0, .int .i64 0, .int .i64 0, .int .i64 0, .slice none 0 0, .int .i64 0, .slice none 0 0, .slice none 0 0, .int .i64 0, .slice none 0 0, .slice none 0 0, .slice none 0 0, .slice none 0 0, .slice none 0 0])
    have l19 : w18.heap.size < w19.heap.size := n19.lt
    clear HT19 hw19
    have hB19 : Below w.heap.size w w19 := hB18.trans (hb19.mono hB18.size)
    replace k2 := k2.below hb19 k2.lt
    replace n5 := n5.below hb19 n5.lt
    replace n9 := n9.below hb19 n9.lt
    replace x4 := x4.below hb19 (Nat.le_refl _)
    replace y4 := y4.below hb19 (Nat.le_refl _)
    replace x15 := x15.below hb19 (Nat.le_refl _)
    replace y15 := y15.below hb19 (Nat.le_refl _)
    replace x18 := x18.below hb19 (Nat.le_refl _)
    replace y18 := y18.below hb19 (Nat.le_refl _)
    clear o17
    go_wp2_with (first | (refine ld20 _ rfl w18.heap.size rfl n19 rfl ?_) | (refine ld20 _ rfl w4.heap.size rfl n5 rfl ?_))
    refine (HEQ.out w19 _ _ _ _ _ _ _ _ x18.rd x4.rd y18.rd y4.rd).mono ?_
    rintro e w20 ⟨rfl, hb20⟩
    have hB20 : Below w.heap.size w w20 := hB19.trans (hb20.mono hB19.size)
    replace k2 := k2.below hb20 k2.lt
    replace n5 := n5.below hb20 n5.lt
    replace n9 := n9.below hb20 n9.lt
    replace n19 := n19.below hb20 n19.lt
    replace x4 := x4.below hb20 (Nat.le_refl _)
    replace y4 := y4.below hb20 (Nat.le_refl _)
    replace x15 := x15.below hb20 (Nat.le_refl _)
    replace y15 := y15.below hb20 (Nat.le_refl _)
    replace x18 := x18.below hb20 (Nat.le_refl _)
    replace y18 := y18.below hb20 (Nat.le_refl _)
    go_wp2_with (first | (refine ld20 _ rfl w8.heap.size rfl n9 rfl ?_))
    refine (HHN.out w20 _ _ _ _ x15.rd y15.rd).mono ?_
    rintro e w21 ⟨rfl, hb21⟩
    have hB21 : Below w.heap.size w w21 := hB20.trans (hb21.mono hB20.size)
    replace k2 := k2.below hb21 k2.lt
    replace n5 := n5.below hb21 n5.lt
    replace n9 := n9.below hb21 n9.lt
    replace n19 := n19.below hb21 n19.lt
    replace x4 := x4.below hb21 (Nat.le_refl _)
    replace y4 := y4.below hb21 (Nat.le_refl _)
    replace x15 := x15.below hb21 (Nat.le_refl _)
    replace y15 := y15.below hb21 (Nat.le_refl _)
    replace x18 := x18.below hb21 (Nat.le_refl _)
    replace y18 := y18.below hb21 (Nat.le_refl _)
    go_wp2
    go_ret
    exact ⟨rfl, hB21⟩
open Classical in
set_option maxRecDepth 20000 in
set_option maxHeartbeats 8000000 in
theorem nodeNew_zero (a0 : ByteArray) (a1 : Int) (y1 : Value) (z1 : List Ac) (w : World) (w0 : a0.size ≤ maxLen) (hok : (nmB a0 && lgB a1 z1) = false) (w1x : RdA w y1 z1 ∧ z1.length ≤ maxLen ∧ ∀ q ∈ z1, q.1.size ≤ maxLen ∧ q.2.2.2.2.length ≤ maxLen) :
    Calls Try.prog 3 #[.string a0, lgV a1 y1] w fun e w' => e = .returned (.bool true) ∧ Below w.heap.size w w' := by
  obtain ⟨hr, hlm, hsm⟩ := w1x
  obtain ⟨av, cv, rfl⟩ := hr.shape
  have hlm' : z1.length ≤ 9223372036854775807 := by unfold maxLen at hlm; omega
  have hsm' : ∀ a ∈ z1, a.1.size ≤ 9223372036854775807 ∧ a.2.2.2.2.length ≤ 9223372036854775807 := fun a ha => by have := hsm a ha; unfold maxLen at this; omega
  obtain ⟨w1, hw1⟩ : ∃ w1, w.alloc (.cells #[.int .i64 a1, .slice av z1.length cv] 24) = w1 := ⟨_, rfl⟩
  have hb1 : Below w.heap.size w w1 := by rw [← hw1]; exact (Below.refl _ w).alloc (Nat.le_refl _) _
  have k1 : Blk w1 w.heap.size 24 [.int .i64 a1, .slice av z1.length cv] := by rw [← hw1]; exact Blk.new w _ _
  have Hz := hide (szLedger_any a1 _ z1 1048576 w1 (hr.below hb1 (Nat.le_refl _)) (by omega) hlm' hsm')
  have Hr := hide hr
  have Hsm := hide hsm
  have Hnm : Hid (a0.size ≤ maxLen) := hide w0
  have l1 : w1.heap.size = w.heap.size + 1 := by rw [← hw1]; simp
  have c0 := k1.cell 0
  have c1 := k1.cell 1
  simp only [List.getElem?_cons_zero, List.getElem?_cons_succ] at c0 c1
  simp only [lgV] at *
  clear hr hsm hsm' hlm w0
  by_cases hbig : (1048576 : Int) < (a0.size : Int)
  · go_enter Try.func3, Try.ntmps3
    go_wp2
    go_ret
    exact ⟨rfl, hb1⟩
  go_enter Try.func3, Try.ntmps3
  go_wp2_with fail
  refine Hz.out.mono ?_
  rintro e w2 ⟨r, rfl, hfit, hb2⟩
  have hB2 : Below w.heap.size w w2 := hb1.trans (hb2.mono hb1.size)
  have k2 := k1.below hb2 k1.lt
  clear c0 c1 k1
  by_cases hneg : r < 0
  · clear hfit
    go_wp2
    go_ret
    exact ⟨rfl, hB2⟩
  · have hl := hfit (by omega)
    have hl4 : z1.length ≤ 4000000 := by omega
    have hlv : ∀ a ∈ z1, a.2.2.2.2.length ≤ 4000000 := fun a ha => by have h1 := totA_at z1 a ha; unfold wgA at h1; omega
    have hnl : ∀ a ∈ z1, a.1.size ≤ maxLen ∧ a.2.2.2.2.length ≤ 4000000 := fun a ha => ⟨(Hsm.out a ha).1, hlv a ha⟩
    have hnz : nxs 1 z1 ≤ 90000000 := by have := nxs_tot 1 z1; omega
    have hn1 : 1 ≤ nxs 1 z1 := nxs_ge 1 z1
    have HT := hide (fun v w hr => toLedger_any a1 v z1 w hr hl4 hlv)
    have HE := hide (fun v1 v2 w h1 h2 => eqLedger_any a1 a1 v1 v2 z1 z1 w h1 h2 hl4 hl4 hlv hlv)
    rw [decide_eq_true rfl, decide_eq_true rfl, Bool.true_and] at HE
    have HM := hide (fun v base hi w ho => markLedger_any a1 v z1 1 base hi w ho (by omega) (fun a ha => by have := hlv a ha; omega) hnz (by omega))
    have hkz : ¬ ((nxs 1 z1 : Nat) : Int) < 0 := by omega
    have hz38 : w.heap.size < w2.heap.size := k2.lt
    have HS : Hid (∀ v V, RdA V v z1 → Calls Try.prog 5 #[.string a0, .agg #[.int .i64 a1, v]] V fun en w' => en = .returned (ndV ⟨#[]⟩ 0 (.slice none 0 0) (.slice none 0 0) 0 0) ∧ Below V.heap.size V w') := hide (fun v V h => by
      refine (specNodeNew_any a0 a1 v z1 V h Hnm.out hl4 hnl).mono ?_
      rintro en w' (⟨h, _⟩ | ⟨_, h⟩)
      · rw [hok] at h; cases h
      · exact h)
    have HI : Hid (∀ v V, RdA V v z1 → Calls Try.prog 7 #[.string a0, .agg #[.int .i64 a1, v]] V fun en w' => en = .returned (ndV ⟨#[]⟩ 0 (.slice none 0 0) (.slice none 0 0) 0 0) ∧ Below V.heap.size V w') := hide (fun v V h => by
      refine (implNodeNew_any a0 a1 v z1 V h Hnm.out hl4 hnl).mono ?_
      rintro en w' (⟨h, _⟩ | ⟨_, h⟩)
      · rw [hok] at h; cases h
      · exact h)
    simp only [lgV] at HT HE HM
    have HEQ := hide (fun W => eqNode_any ⟨#[]⟩ 0 0 0 none none none none 0 0 0 0 0 0 W (fun V hV => eqLedger_nil 0 V) (fun V hV => (eqValS_nil V).mono (fun en w' h => ⟨h.1, by rw [h.2]; exact Below.refl _ _⟩)))
    have HHN := hide (fun W => heldNode_any ⟨#[]⟩ 0 0 0 none none 0 0 0 0 1 1 1 (by omega) (by omega) W (fun V hV => heldLedger_nil 0 1 (by omega) V) (fun V hV => (heldValS_nil 1 V).mono (fun en w' h => ⟨h.1, by rw [h.2]; exact Below.refl _ _⟩)))
    have HMN := hide (fun W => markNode_nil ⟨#[]⟩ 0 0 0 1 W)
    simp only [ndV] at HEQ HHN HMN HS HI
    generalize nxs 1 z1 = kz at HM hkz
    clear hfit hl hl4 hlv hnl Hsm Hz hnz hn1 hok Hnm
    have c0 := k2.cell 0
    have c1 := k2.cell 1
    simp only [List.getElem?_cons_zero, List.getElem?_cons_succ] at c0 c1
    go_wp2_with fail
    refine (HT.out _ _ (Hr.out.below hB2 (Nat.le_refl _))).mono ?_
    rintro e w3 ⟨v3, rfl, o3, hb3⟩
    have hB3 : Below w.heap.size w w3 := hB2.trans (hb3.mono hB2.size)
    replace k2 := k2.below hb3 k2.lt
    obtain ⟨a3, c3, rfl⟩ := o3.rd.shape
    clear c0 c1
    go_wp2_with fail
    refine (HS.out _ _ o3.rd).mono ?_
    rintro e w4 ⟨rfl, hb4⟩
    have hB4 : Below w.heap.size w w4 := hB3.trans (hb4.mono hB3.size)
    replace k2 := k2.below hb4 k2.lt
    have HT5 := hide ((Blk.new w4 42 [.string { data := #[] }, .int .i64 0, .int .i64 0, .slice none 0 0, .slice none 0 0, .slice none 0 0, .int .i64 0, .int .i64 0, .int .i64 0, .int .i64 0, .slice none 0 0, .int .i64 0, .slice none 0 0, .slice none 0 0, .int .i64 0, .slice none 0 0, .slice none 0 0, .slice none 0 0, .slice none 0 0, .slice none 0 0]).there (n := 20) rfl)
    go_upto_region 8 with (refine st20 rfl _ _ rfl w4.heap.size rfl rfl HT5.out rfl ?_)
    generalize hw5 : World.setCells _ _ _ _ = w5
    have hb5 : Below w4.heap.size w4 w5 := by rw [← hw5]; exact belS ((Below.refl _ w4).alloc (Nat.le_refl _) _) (Nat.le_refl _) (by simp) (Nat.le_refl _)
    have n5 : Blk w5 w4.heap.size 42 [.string { data := #[] }, .int .i64 0, .int .i64 0, .slice none 0 0, .slice none 0 0, .slice none 0 0, .int .i64 0, .int .i64 0, .int .i64 0, .int .i64 0, .slice none 0 0, .int .i64 0, .slice none 0 0, .slice none 0 0, .int .i64 0, .slice none 0 0, .slice none 0 0, .slice none 0 0, .slice none 0 0, .slice none 0 0] := by rw [← hw5]; exact blkS20 (Blk.new w4 42 [.string { data := #[] }, .int .i64 0, .int .i64 0, .slice none 0 0, .slice none 0 0, .slice none 0 0, .int .i64 0, .int .i64 0, .int .i64 0, .int .i64 0, .slice none 0 0, .int .i64 0, .slice none 0 0, .slice none 0 0, .int .i64 0, .slice none 0 0, .slice none 0 0, .slice none 0 0, .slice none 0 0, .slice none 0 0])
    have l5 : w4.heap.size < w5.heap.size := n5.lt
    clear HT5 hw5
    have hB5 : Below w.heap.size w w5 := hB4.trans (hb5.mono hB4.size)
    replace k2 := k2.below hb5 k2.lt
    clear o3
    have c0 := k2.cell 0
    have c1 := k2.cell 1
    simp only [List.getElem?_cons_zero, List.getElem?_cons_succ] at c0 c1
    go_wp2_with fail
    refine (HT.out _ _ (Hr.out.below hB5 (Nat.le_refl _))).mono ?_
    rintro e w6 ⟨v6, rfl, o6, hb6⟩
    have hB6 : Below w.heap.size w w6 := hB5.trans (hb6.mono hB5.size)
    replace k2 := k2.below hb6 k2.lt
    replace n5 := n5.below hb6 n5.lt
    have x6 := o6.ox
    clear o6 c0 c1
    obtain ⟨a6, c6, rfl⟩ := x6.rd.shape
    obtain ⟨w7, hw7⟩ : ∃ w7, w6.alloc (.cells #[.int .i64 a1, .slice a6 z1.length c6] 28) = w7 := ⟨_, rfl⟩
    have hb7 : Below w6.heap.size w6 w7 := by rw [← hw7]; exact (Below.refl _ w6).alloc (Nat.le_refl _) _
    have b7 : Blk w7 w6.heap.size 28 [.int .i64 a1, .slice a6 z1.length c6] := by rw [← hw7]; exact Blk.new w6 _ _
    have l7 : w7.heap.size = w6.heap.size + 1 := by rw [← hw7]; simp
    have hB7 : Below w.heap.size w w7 := hB6.trans (hb7.mono hB6.size)
    replace k2 := k2.below hb7 k2.lt
    replace n5 := n5.below hb7 n5.lt
    replace x6 := x6.below hb7 (Nat.le_refl _)
    have c0 := b7.cell 0
    have c1 := b7.cell 1
    simp only [List.getElem?_cons_zero, List.getElem?_cons_succ] at c0 c1
    go_wp2_with fail
    refine (HI.out _ _ x6.rd).mono ?_
    rintro e w8 ⟨rfl, hb8⟩
    have hB8 : Below w.heap.size w w8 := hB7.trans (hb8.mono hB7.size)
    replace k2 := k2.below hb8 k2.lt
    replace n5 := n5.below hb8 n5.lt
    replace b7 := b7.below hb8 b7.lt
    replace x6 := x6.below hb8 (Nat.le_refl _)
    have HT9 := hide ((Blk.new w8 42 [.string { data := #[] }, .int .i64 0, .int .i64 0, .slice none 0 0, .slice none 0 0, .slice none 0 0, .int .i64 0, .int .i64 0, .int .i64 0, .int .i64 0, .slice none 0 0, .int .i64 0, .slice none 0 0, .slice none 0 0, .int .i64 0, .slice none 0 0, .slice none 0 0, .slice none 0 0, .slice none 0 0, .slice none 0 0]).there (n := 20) rfl)
    go_upto_region 10 with (refine st20 rfl _ _ rfl w8.heap.size rfl rfl HT9.out rfl ?_)
    generalize hw9 : World.setCells _ _ _ _ = w9
    have hb9 : Below w8.heap.size w8 w9 := by rw [← hw9]; exact belS ((Below.refl _ w8).alloc (Nat.le_refl _) _) (Nat.le_refl _) (by simp) (Nat.le_refl _)
    have n9 : Blk w9 w8.heap.size 42 [.string { data := #[] }, .int .i64 0, .int .i64 0, .slice none 0 0, .slice none 0 0, .slice none 0 0, .int .i64 0, .int .i64 0, .int .i64 0, .int .i64 0, .slice none 0 0, .int .i64 0, .slice none 0 0, .slice none 0 0, .int .i64 0, .slice none 0 0, .slice none 0 0, .slice none 0 0, .slice none 0 0, .slice none 0 0] := by rw [← hw9]; exact blkS20 (Blk.new w8 42 [.string { data := #[] }, .int .i64 0, .int .i64 0, .slice none 0 0, .slice none 0 0, .slice none 0 0, .int .i64 0, .int .i64 0, .int .i64 0, .int .i64 0, .slice none 0 0, .int .i64 0, .slice none 0 0, .slice none 0 0, .int .i64 0, .slice none 0 0, .slice none 0 0, .slice none 0 0, .slice none 0 0, .slice none 0 0])
    have l9 : w8.heap.size < w9.heap.size := n9.lt
    clear HT9 hw9
    have hB9 : Below w.heap.size w w9 := hB8.trans (hb9.mono hB8.size)
    replace k2 := k2.below hb9 k2.lt
    replace n5 := n5.below hb9 n5.lt
    replace b7 := b7.below hb9 b7.lt
    replace x6 := x6.below hb9 (Nat.le_refl _)
    clear c0 c1
    go_wp2_with (first | (refine ld20 _ rfl w8.heap.size rfl n9 rfl ?_) | (refine ld20 _ rfl w4.heap.size rfl n5 rfl ?_))
    refine (HEQ.out w9).mono ?_
    rintro e w10 ⟨rfl, hb10⟩
    have hB10 : Below w.heap.size w w10 := hB9.trans (hb10.mono hB9.size)
    replace k2 := k2.below hb10 k2.lt
    replace n5 := n5.below hb10 n5.lt
    replace b7 := b7.below hb10 b7.lt
    replace n9 := n9.below hb10 n9.lt
    replace x6 := x6.below hb10 (Nat.le_refl _)
    have hd10 : Below w10.heap.size w10 w10.drew := (Below.refl _ w10).drew
    have hB10d : Below w.heap.size w w10.drew := hB10.drew
    replace k2 := k2.below hd10 k2.lt
    replace n5 := n5.below hd10 n5.lt
    replace b7 := b7.below hd10 b7.lt
    replace n9 := n9.below hd10 n9.lt
    replace x6 := x6.below hd10 (Nat.le_refl _)
    have HSx : Hid (∀ W, Blk W w.heap.size 24 [.int .i64 a1, .slice av z1.length cv] → Blk W w6.heap.size 28 [.int .i64 a1, .slice a6 z1.length c6] → (W.cell? ⟨w.heap.size, 0, none⟩ = some (.int .i64 a1) ∧ W.cell? ⟨w.heap.size, 1, none⟩ = some (.slice av z1.length cv) ∧ W.cell? ⟨w6.heap.size, 0, none⟩ = some (.int .i64 a1) ∧ W.cell? ⟨w6.heap.size, 1, none⟩ = some (.slice a6 z1.length c6))) := hide (fun W h1 h2 => ⟨h1.cell 0, h1.cell 1, h2.cell 0, h2.cell 1⟩)
    have hS10 := HSx.out _ k2 b7
    have Kk := hide k2
    have Kb := hide b7
    have Kx := hide x6
    clear k2 b7 x6
    go_wp2
    go_region_held_law (fun w' => w'.cell? ⟨w.heap.size, 0, none⟩ = some (.int .i64 a1) ∧ w'.cell? ⟨w.heap.size, 1, none⟩ = some (.slice av z1.length cv) ∧ w'.cell? ⟨w6.heap.size, 0, none⟩ = some (.int .i64 a1) ∧ w'.cell? ⟨w6.heap.size, 1, none⟩ = some (.slice a6 z1.length c6)) (first | with_reducible exact hS10 | with_reducible exact hS11 | with_reducible exact hS12) ((first
      | (go_at_call 9; refine (HE.out _ _ _ (Kx.out.below hb11 (Nat.le_refl _)).rd o11.rd).mono ?_; rintro e w12 ⟨rfl, hb12⟩; have hS12 := HSx.out _ ((Kk.out.below hb11 Kk.out.lt).below hb12 (Kk.out.below hb11 Kk.out.lt).lt) ((Kb.out.below hb11 Kb.out.lt).below hb12 (Kb.out.below hb11 Kb.out.lt).lt))
      | (go_at_call 6; refine (HT.out _ _ (Hr.out.below hB10d (Nat.le_refl _))).mono ?_; rintro e w11 ⟨v11, rfl, o11, hb11⟩; have hsh := o11.rd.shape; obtain ⟨a11, c11, hv11⟩ := hsh; subst hv11; have hS11 := HSx.out _ (Kk.out.below hb11 Kk.out.lt) (Kb.out.below hb11 Kb.out.lt))))
    have k2 := Kk.out
    have b7 := Kb.out
    have x6 := Kx.out
    have hB11 : Below w.heap.size w w11 := hB10d.trans (hb11.mono hB10.size)
    replace k2 := k2.below hb11 k2.lt
    replace n5 := n5.below hb11 n5.lt
    replace b7 := b7.below hb11 b7.lt
    replace n9 := n9.below hb11 n9.lt
    replace x6 := x6.below hb11 (Nat.le_refl _)
    have hB12 : Below w.heap.size w w12 := hB11.trans (hb12.mono hB11.size)
    replace k2 := k2.below hb12 k2.lt
    replace n5 := n5.below hb12 n5.lt
    replace b7 := b7.below hb12 b7.lt
    replace n9 := n9.below hb12 n9.lt
    replace x6 := x6.below hb12 (Nat.le_refl _)
    clear hS10 hS11 hS12 o11 HSx Kk Kb Kx
    have c0 := b7.cell 0
    have c1 := b7.cell 1
    simp only [List.getElem?_cons_zero, List.getElem?_cons_succ] at c0 c1
    go_wp2_with fail
    refine (HM.out _ _ _ _ x6).mono ?_
    rintro e w13 ⟨rfl, -, ht13⟩
    have z3 := hb3.size
    have z4 := hb4.size
    have z5 := hb5.size
    have z6 := hb6.size
    have z7 := hb7.size
    have z8 := hb8.size
    have z9 := hb9.size
    have z10 := hb10.size
    have z12 := hB12.size
    have hB13 : Below w.heap.size w w13 := hB12.trans (ht13.below (by omega) hB12.size)
    clear c0 c1 x6
    replace k2 := k2.btw ht13 (.inl (by omega))
    replace n5 := n5.btw ht13 (.inl (by omega))
    replace b7 := b7.btw ht13 (.inr (by omega))
    replace n9 := n9.btw ht13 (.inr (by omega))
    go_wp2_with (first | (refine ld20 _ rfl w8.heap.size rfl n9 rfl ?_) | (refine ld20 _ rfl w4.heap.size rfl n5 rfl ?_))
    refine (HEQ.out w13).mono ?_
    rintro e w14 ⟨rfl, hb14⟩
    have hB14 : Below w.heap.size w w14 := hB13.trans (hb14.mono hB13.size)
    replace k2 := k2.below hb14 k2.lt
    replace n5 := n5.below hb14 n5.lt
    replace b7 := b7.below hb14 b7.lt
    replace n9 := n9.below hb14 n9.lt
    go_wp2_with (first | (refine ld20 _ rfl w8.heap.size rfl n9 rfl ?_))
    refine (HMN.out w14).mono ?_
    rintro e w15 ⟨rfl, hb15⟩
    have hB15 : Below w.heap.size w w15 := hB14.trans (hb15.mono hB14.size)
    replace k2 := k2.below hb15 k2.lt
    replace n5 := n5.below hb15 n5.lt
    replace b7 := b7.below hb15 b7.lt
    replace n9 := n9.below hb15 n9.lt
    go_wp2_with (first | (refine ld20 _ rfl w8.heap.size rfl n9 rfl ?_))
    refine (HHN.out w15).mono ?_
    rintro e w16 ⟨rfl, hb16⟩
    have hB16 : Below w.heap.size w w16 := hB15.trans (hb16.mono hB15.size)
    replace k2 := k2.below hb16 k2.lt
    replace n5 := n5.below hb16 n5.lt
    replace b7 := b7.below hb16 b7.lt
    replace n9 := n9.below hb16 n9.lt
    have c0 := k2.cell 0
    have c1 := k2.cell 1
    simp only [List.getElem?_cons_zero, List.getElem?_cons_succ] at c0 c1
    go_wp2_with fail
    refine (HT.out _ _ (Hr.out.below hB16 (Nat.le_refl _))).mono ?_
    rintro e w17 ⟨v17, rfl, o17, hb17⟩
    have hB17 : Below w.heap.size w w17 := hB16.trans (hb17.mono hB16.size)
    replace k2 := k2.below hb17 k2.lt
    replace n5 := n5.below hb17 n5.lt
    replace b7 := b7.below hb17 b7.lt
    replace n9 := n9.below hb17 n9.lt
    obtain ⟨a17, c17, rfl⟩ := o17.rd.shape
    clear c0 c1
    go_wp2_with fail
    refine (HI.out _ _ o17.rd).mono ?_
    rintro e w18 ⟨rfl, hb18⟩
    have hB18 : Below w.heap.size w w18 := hB17.trans (hb18.mono hB17.size)
    replace k2 := k2.below hb18 k2.lt
    replace n5 := n5.below hb18 n5.lt
    replace b7 := b7.below hb18 b7.lt
    replace n9 := n9.below hb18 n9.lt
    have HT19 := hide ((Blk.new w18 42 [.string { data := #[] }, .int .i64 0, .int .i64 0, .slice none 0 0, .slice none 0 0, .slice none 0 0, .int .i64 0, .int .i64 0, .int .i64 0, .int .i64 0, .slice none 0 0, .int .i64 0, .slice none 0 0, .slice none 0 0, .int .i64 0, .slice none 0 0, .slice none 0 0, .slice none 0 0, .slice none 0 0, .slice none 0 0]).there (n := 20) rfl)
    go_upto_region 27 with (refine st20 rfl _ _ rfl w18.heap.size rfl rfl HT19.out rfl ?_)
    generalize hw19 : World.setCells _ _ _ _ = w19
    have hb19 : Below w18.heap.size w18 w19 := by rw [← hw19]; exact belS ((Below.refl _ w18).alloc (Nat.le_refl _) _) (Nat.le_refl _) (by simp) (Nat.le_refl _)
    have n19 : Blk w19 w18.heap.size 42 [.string { data := #[] }, .int .i64 0, .int .i64 0, .slice none 0 0, .slice none 0 0, .slice none 0 0, .int .i64 0, .int .i64 0, .int .i64 0, .int .i64 0, .slice none 0 0, .int .i64 0, .slice none 0 0, .slice none 0 0, .int .i64 0, .slice none 0 0, .slice none 0 0, .slice none 0 0, .slice none 0 0, .slice none 0 0] := by rw [← hw19]; exact blkS20 (Blk.new w18 42 [.string { data := #[] }, .int .i64 0, .int .i64 0, .slice none 0 0, .slice none 0 0, .slice none 0 0, .int .i64 0, .int .i64 0, .int .i64 0, .int .i64 0, .slice none 0 0, .int .i64 0, .slice none 0 0, .slice none 0 0, .int .i64 0, .slice none 0 0, .slice none 0 0, .slice none 0 0, .slice none 0 0, .slice none 0 0])
    have l19 : w18.heap.size < w19.heap.size := n19.lt
    clear HT19 hw19
    have hB19 : Below w.heap.size w w19 := hB18.trans (hb19.mono hB18.size)
    replace k2 := k2.below hb19 k2.lt
    replace n5 := n5.below hb19 n5.lt
    replace b7 := b7.below hb19 b7.lt
    replace n9 := n9.below hb19 n9.lt
    clear o17
    go_wp2_with (first | (refine ld20 _ rfl w18.heap.size rfl n19 rfl ?_) | (refine ld20 _ rfl w4.heap.size rfl n5 rfl ?_))
    refine (HEQ.out w19).mono ?_
    rintro e w20 ⟨rfl, hb20⟩
    have hB20 : Below w.heap.size w w20 := hB19.trans (hb20.mono hB19.size)
    replace k2 := k2.below hb20 k2.lt
    replace n5 := n5.below hb20 n5.lt
    replace b7 := b7.below hb20 b7.lt
    replace n9 := n9.below hb20 n9.lt
    replace n19 := n19.below hb20 n19.lt
    go_wp2_with (first | (refine ld20 _ rfl w8.heap.size rfl n9 rfl ?_))
    refine (HHN.out w20).mono ?_
    rintro e w21 ⟨rfl, hb21⟩
    have hB21 : Below w.heap.size w w21 := hB20.trans (hb21.mono hB20.size)
    replace k2 := k2.below hb21 k2.lt
    replace n5 := n5.below hb21 n5.lt
    replace b7 := b7.below hb21 b7.lt
    replace n9 := n9.below hb21 n9.lt
    replace n19 := n19.below hb21 n19.lt
    go_wp2
    go_ret
    exact ⟨rfl, hB21⟩
theorem fnExactNodeNew_walk (a0 : ByteArray) (a1 : Int) (y1 : Value) (z1 : List Ac) (w : World) (w0 : a0.size ≤ maxLen) (w1 : RdA w y1 z1 ∧ z1.length ≤ maxLen ∧ ∀ q ∈ z1, q.1.size ≤ maxLen ∧ q.2.2.2.2.length ≤ maxLen) :
    Calls Try.prog 3 #[.string a0, lgV a1 y1] w fun e w' => e = .returned (.bool true) ∧ Below w.heap.size w w' := by
  cases h : (nmB a0 && lgB a1 z1)
  · exact nodeNew_zero a0 a1 y1 z1 w w0 h w1
  · exact nodeNew_real a0 a1 y1 z1 w w0 h w1

set_option maxRecDepth 100000 in
theorem fnExactNodeNew_lifted (os : Os) (started : os.Started) (H : Type) (enc : TypeId × Value → H) :
    ReturnsInHanded {} Try.checked os 3 .any (Rows.fnExactNodeNewSpec.pre6 enc Try.prog Try.f3 Rows.fnExactNodeNewRow.domain false) (Rows.fnExactNodeNewSpec.post enc Try.prog Try.f3 false true false false) := by
  refine returnsInHanded_of_change (C := Try.checked) fnExactNodeNew_own started (by kernel_rfl) Try.func3
    (ChangeSpec.witness6 (enc := enc) (C := Try.checked) false ⟨#[], #[.string ByteArray.empty, .agg #[.int .i64 0, .slice none 0 0]], []⟩ 8 (by kernel_rfl) (by kernel_rfl) (by kernel_rfl) (by kernel_rfl)) ?_
  intro W base args ds gs before hval0 hW hcnd _
  have hval : ∀ (j : Nat) t v, Try.f3.params[j]? = some t → args[j]? = some v → Value.okWide Try.prog W .any base t v := hval0
  have hW' := hW
  obtain ⟨p, q, hA0, hV, rfl, hfz, hnd⟩ := hW
  have hA : DataW.TrodAll enc Try.prog W 0 (fun _ => true) true Try.f3.params.toList args.toList ds p := hA0
  rw [Try.params3] at hA hval
  obtain ⟨v0, vs0, d0, ds0, p0, q0, hargs, rfl, rfl, h0, r0⟩ := trodAll_cons hA
  obtain ⟨v1, vs1, d1, ds1, p1, q1, rfl, rfl, rfl, h1, r1⟩ := trodAll_cons r0
  obtain ⟨rfl, rfl, rfl⟩ := trodAll_nil r1
  obtain rfl : args = #[v0, v1] := by cases args; simp_all
  obtain ⟨rfl, rfl⟩ := trodVars_none hV
  obtain ⟨a0, rfl, rfl, rfl, w0⟩ := open_string Try.underlying9 (hval 0 9 v0 rfl rfl) h0
  have k1 := h1
  have lt1 : ∀ x ∈ p1, x.block < W.heap.size := by obtain ⟨m, hm⟩ := k1; exact DataW.trod_lt m _ _ _ hm
  obtain ⟨a1, y1, z1, rfl, w1⟩ : ∃ (e : Int) (v : Value) (l : List Ac), v1 = lgV e v ∧ RdA W v l ∧ l.length ≤ maxLen ∧ ∀ q ∈ l, q.1.size ≤ maxLen ∧ q.2.2.2.2.length ≤ maxLen := by
    obtain ⟨cs, rfl, hsz⟩ := okWide_struct Try.underlying24 (hval 1 24 _ rfl rfl)
    obtain ⟨fuel, hf⟩ := h1
    obtain ⟨e, v, l, q, r⟩ := open_ledger (by simpa [Value.cells] using hf)
    exact ⟨e, v, l, by cases cs; simp at q; subst q; rfl, r⟩
  clear hA0 hval0
  refine (fnExactNodeNew_walk a0 a1 y1 z1 W w0 w1).mono fun e W' ⟨he, bel⟩ => ?_
  subst he
  exact ⟨_, rfl, _, _, _, [], _, [], hW', trodAll_mk1 (shut_bool Try.underlying4 _), (trodAll_cons_mk (shut_string Try.underlying9 w0) (trodAll_cons_mk (Below.trod fnExactNodeNew_laidOut (by kernel_rfl) (of_decide_eq_true (by kernel_rfl)) k1 bel lt1) trodAll_mk0)), rfl, bel.frame _, fun h => by cases h⟩

theorem fnExactNodeNew_holds : Rows.FnExactNodeNewSaid :=
  OpenClaim.holds_of_wide 3 Try.f3 rfl rfl rfl rfl rfl rfl rfl ⟨rfl, rfl, rfl, rfl, rfl⟩ rfl rfl rfl rfl rfl (by kernel_rfl) Try.func3 (by kernel_rfl)
    (of_decide_eq_true (by kernel_rfl)) (by unfold Func.isWrapper; first | (rw [if_pos (by decide +kernel)]; kernel_rfl) | (rw [if_neg (by decide +kernel)]; exact ⟨rfl, rfl⟩))
    (fun os started H enc _ => fnExactNodeNew_lifted os started H enc)

end Go.Proofs.Ytljkmoffpgpeoaa
