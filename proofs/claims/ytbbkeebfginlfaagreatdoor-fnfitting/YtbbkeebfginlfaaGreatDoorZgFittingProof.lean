/- What the row's condition says of the package-level variable that holds a type's handle: its cell. Orders of a drawn pool that fit are good one behind the other; those that are left when old ones are dropped are no older than their account: the law FnFitting returns true at every code, its one variable of the library read as the program's text lays it. -/
import Derived.Test.YtbbkeebfginlfaaGreatDoorZgLgAs
import Derived.LaidLaws
import Derived.LaidHandle
import Derived.LaidMore
import Derived.OpenVars
import Derived.Stop.Joined
import Derived.Test.YtbbkeebfginlfaaGreatDoorRows
import Derived.Test.YtbbkeebfginlfaaGreatDoorTie
import Derived.Test.YtbbkeebfginlfaaGreatDoorCards
import Derived.Test.YtbbkeebfginlfaaGreatDoorZgRow
import Derived.Test.YtbbkeebfginlfaaGreatDoorZgIn
import Derived.Test.YtbbkeebfginlfaaGreatDoorZgPlDrop
import Derived.Test.YtbbkeebfginlfaaGreatDoorZgLgAllI
import Derived.Test.YtbbkeebfginlfaaGreatDoorZgAcImpl2
import Derived.Test.YtbbkeebfginlfaaGreatDoorZgDrawFt2
import Derived.ChangeSame
import Derived.ChangeVars
import Derived.JoinedOf
import Derived.RowKitTokens
import Derived.WalkKit
import Derived.ProofKit
import Derived.OpenShut
import Derived.ShutString
import Derived.ChangeOld
import Derived.Below
import Derived.SliceStrings
import Derived.SevenTiedAt
namespace Go.Proofs.YtbbkeebfginlfaaGreatDoor
open Go.ChangeShapes Go.WideShapes Go.RowKit
set_option linter.unusedVariables false

theorem Tryz.et : Tryz.prog.globalNamed "errors.errorType" = some 0 := by kernel_rfl
theorem Tryz.rt : (Tryz.prog.cutTypes.find? (·.1 == "internal/reflectlite.rtype")).map (·.2) = some 154 := by kernel_rfl
theorem Tryz.oneRow : ((List.range 234).filter fun t => Tryz.prog.rowNamed t [101, 114, 114, 111, 114]) = [91] := by kernel_rfl
theorem Tryz.nTypes : Tryz.prog.types.size = 234 := by kernel_rfl

theorem gh_of_handles {W : World} (h : handlesMet Tryz.prog [("errors.errorType", Rows.laid_errors_errorType)] W) : Gh W := by
  obtain ⟨name, u, ty, e1, e2, e3, e4, e5⟩ := h _ (List.mem_singleton.2 rfl)
  have en : name = [101, 114, 114, 111, 114] := (Option.some.inj e1).symm
  subst en
  obtain rfl := Option.some.inj (Tryz.rt.symm.trans e2)
  have hm : ty ∈ (List.range 234).filter fun t => Tryz.prog.rowNamed t [101, 114, 114, 111, 114] := List.mem_filter.2 ⟨List.mem_range.2 (by rw [← Tryz.nTypes]; exact e3), e4⟩
  rw [Tryz.oneRow] at hm
  obtain rfl := List.mem_singleton.1 hm
  have hh : typeHandle Tryz.prog 91 = .pointer (some ⟨1, 91, none⟩) := by kernel_rfl
  rw [hh] at e5
  unfold Gh
  simpa using World.var?_cell Tryz.et e5 0
/-- The variable's cell laid anew. -/
def handPut : Obj → Obj
  | .cells _ t frozen => .cells #[.iface 154 (.agg #[.pointer (some ⟨1, 91, none⟩)])] t frozen
  | o => o
/-- A world that meets the condition: w0, the variable's cell laid. -/
def laidOn (w0 : World) : World := { w0 with heap := w0.heap.modify 0 handPut }
end Go.Proofs.YtbbkeebfginlfaaGreatDoor

namespace Go.Proofs.YtbbkeebfginlfaaGreatDoor
open Go.ChangeShapes Go.WideShapes Go.ChangeAt Go.RowKit
open Go.ChangeMaps (open_string shut_string)
set_option linter.unusedVariables false

theorem fnFitting_own : ownKnob Tryz.prog.godebug = none := by kernel_rfl
theorem fnFitting_laidOut : laidOutB Tryz.prog = true := by kernel_rfl

theorem drT_old {l : List Ac} {ts : List Tx5} {i : Nat} (hi : i < (drT l ts).length) : ∃ k, ∃ h : k < l.length, atA l (drT l ts)[i].2.1 = (k : Int) ∧ l[k].2.2.1 ≤ (drT l ts)[i].2.2.2.2 := by
  have h1 : drB l (drT l ts)[i] = true := (List.mem_filter.1 (List.getElem_mem hi)).2
  rcases atA_at l (drT l ts)[i].2.1 with h2 | ⟨k, hk, h2, _⟩
  · rw [drB_none h2] at h1; cases h1
  · rw [drB_at hk h2, decide_eq_true_iff] at h1
    exact ⟨k, hk, h2, h1⟩
set_option maxRecDepth 20000 in
set_option maxHeartbeats 4000000 in
theorem fnFitting_walk (a0 : Option Addr) (len0 cap0 : Nat) (z0 : List Int) (w : World) (hgh : Gh w) (w0 : IsRow .u8 w a0 len0 cap0 z0) :
    Calls Tryz.prog 4 #[.slice a0 len0 cap0] w fun e w' => e = .returned (.bool true) ∧ Below w.heap.size w w' := by
  obtain ⟨cd, rfl, hr⟩ := w0.rd
  clear w0
  have hcap : cd.length ≤ 9223372036854775807 := by
    rcases hr with ⟨_, _, _, e, _⟩ | ⟨_, _, cap, _, _, h1, h2, _⟩
    · subst e; simp
    · unfold maxLen at h2; omega
  have Hbig := hide (big_any _ cd w hr hcap)
  by_cases hbig : 1048576 < cd.length
  · rw [decide_eq_true hbig] at Hbig
    clear hr hgh
    go_enter Tryz.func4, Tryz.ntmps4
    go_wp2_with fail
    refine Hbig.out.mono ?_
    rintro e w' ⟨rfl, rfl⟩
    go_wp2
    go_ret
    exact ⟨rfl, Below.refl _ _⟩
  rw [decide_eq_false hbig] at Hbig
  have Hd := hide (drawPoolFit_any w _ cd hr (by omega))
  have Hgh := hide hgh
  clear hr hgh
  go_enter Tryz.func4, Tryz.ntmps4
  go_wp2_with fail
  refine Hbig.out.mono ?_
  rintro e w ⟨rfl, rfl⟩
  go_wp2_with fail
  refine Hd.out.mono ?_
  rintro en w2 ⟨v, ts, e, u, l, rfl, hrt, ht20, hts, hrl, hfw, hB2⟩
  obtain ⟨at_, ct, rfl⟩ := hrt.shape
  obtain ⟨au, cu, rfl⟩ := hrl.shape
  have few := few_fit hfw
  have htm : ∀ x ∈ ts, x.2.1.size ≤ maxLen ∧ x.2.2.1.size ≤ maxLen := fun x hx => by have := hts x hx; unfold maxLen; omega
  have hl1 := hfw.1
  have HF := hide (fun V (hg : Gh V) (h1 : RdA V (.slice au l.length cu) l) (h2 : RdT V (.slice at_ ts.length ct) ts) => implFit_any e _ _ l ts V hg h1 h2 few.1 few.2 (by omega) htm)
  have HA1 := hide (fun v V (hg : Gh V) (h1 : RdA V (.slice au l.length cu) l) (h2 : RdT V v (fiA e l ts)) => implAll_any e _ v l (fiA e l ts) V hg h1 h2 few.1 few.2 (by have := fiA_len e l ts; omega) (fun x hx => htm x (fiA_mem hx)))
  have HA2 := hide (fun V (hg : Gh V) (h1 : RdA V (.slice au l.length cu) l) (h2 : RdT V (.slice at_ ts.length ct) ts) => implAll_any e _ _ l ts V hg h1 h2 few.1 few.2 (by omega) htm)
  have HD := hide (fun V (h1 : RdA V (.slice au l.length cu) l) (h2 : RdT V (.slice at_ ts.length ct) ts) => implDrop_any e _ _ l ts V h1 h2 (by omega) (by omega))
  have HDs := hide (fun V (h1 : RdA V (.slice au l.length cu) l) (h2 : RdT V (.slice at_ ts.length ct) ts) => specDrop_any e _ _ l ts V h1 h2 (by omega) (by omega))
  have HAt := hide (fun s V (h1 : RdA V (.slice au l.length cu) l) => implAcctAt_any _ l s V h1 (by omega))
  obtain ⟨hf1, hf2⟩ := fit_counts e l ts
  rw [hf1] at HA1
  rw [hf2] at HA2
  have hFl := fiA_len e l ts
  have Hold := hide (fun i (hi : i < (drT l ts).length) => drT_old hi)
  have hdl : (drT l ts).length ≤ ts.length := List.length_filter_le _ _
  generalize (alA e l (fiA e l ts)).1 = A1 at HA1
  generalize (alA e l ts).1 = A2 at HA2
  generalize fiA e l ts = F at HF HA1 HA2 hFl
  generalize drT l ts = D at HD HDs Hold hdl
  simp only [lgV] at HF HA1 HA2 HD HDs ⊢
  obtain ⟨w3, hw3⟩ : ∃ x, w2.alloc (.cells #[.int .i64 e, .slice au l.length cu] 33) = x := ⟨_, rfl⟩
  have b3 : Below w2.heap.size w2 w3 := by rw [← hw3]; exact (Below.refl _ w2).alloc (Nat.le_refl _) _
  have k3 : Blk w3 w2.heap.size 33 [.int .i64 e, .slice au l.length cu] := by rw [← hw3]; exact Blk.new w2 _ _
  have HB3 := hide (hB2.trans (b3.mono hB2.size))
  have Hra := hide (fun V (hV : Below w3.heap.size w3 V) => (hrl.below b3 (Nat.le_refl _)).below hV (Nat.le_refl _))
  have Hrt := hide (fun V (hV : Below w3.heap.size w3 V) => (hrt.below b3 (Nat.le_refl _)).below hV (Nat.le_refl _))
  have HK := hide (fun V (hV : Below w3.heap.size w3 V) => k3.below hV k3.lt)
  have Hg3 := hide (fun V (hV : Below w3.heap.size w3 V) => Hgh.out.below (HB3.out.trans (hV.mono HB3.out.size)))
  have c0 := k3.cell 0
  have c1 := k3.cell 1
  simp only [List.getElem?_cons_zero, List.getElem?_cons_succ] at c0 c1
  clear hrl hrt b3 k3 hB2 few htm hts hfw hf1 hf2
  go_wp2_with fail
  refine (HF.out w3 (Hg3.out w3 (Below.refl _ _)) (Hra.out w3 (Below.refl _ _)) (Hrt.out w3 (Below.refl _ _))).mono ?_
  rintro en w4 ⟨v4, rfl, o4, hb4⟩
  obtain ⟨a4, c4, rfl⟩ := o4.rd.shape
  have r4 := hide o4.rd
  have B4 := hide hb4
  have k4 := HK.out w4 hb4
  clear c0 c1 o4 hb4 hw3
  have c0 := k4.cell 0
  have c1 := k4.cell 1
  simp only [List.getElem?_cons_zero, List.getElem?_cons_succ] at c0 c1
  clear k4
  go_wp2_with fail
  refine (HA1.out _ w4 (Hg3.out w4 B4.out) (Hra.out w4 B4.out) r4.out).mono ?_
  rintro en w5 ⟨v5, rfl, o5, hb5⟩
  obtain ⟨a5, c5, rfl⟩ := o5.rd.shape
  obtain ⟨w6, hw6⟩ : ∃ x, w5.alloc (.cells #[.int .i64 e, .slice a5 A1.length c5] 33) = x := ⟨_, rfl⟩
  have b6 : Below w5.heap.size w5 w6 := by rw [← hw6]; exact (Below.refl _ w5).alloc (Nat.le_refl _) _
  have b36 := B4.out.trans ((hb5.trans (b6.mono hb5.size)).mono B4.out.size)
  have B6 := hide b36
  have k6 := HK.out w6 b36
  clear c0 c1 o5 hb5 b6 b36 r4 B4
  have c0 := k6.cell 0
  have c1 := k6.cell 1
  simp only [List.getElem?_cons_zero, List.getElem?_cons_succ] at c0 c1
  clear k6
  go_wp2_with fail
  refine (HA2.out w6 (Hg3.out w6 B6.out) (Hra.out w6 B6.out) (Hrt.out w6 B6.out)).mono ?_
  rintro en w7 ⟨v7, rfl, o7, hb7⟩
  obtain ⟨a7, c7, rfl⟩ := o7.rd.shape
  obtain ⟨w8, hw8⟩ : ∃ x, w7.alloc (.cells #[.int .i64 e, .slice a7 A2.length c7] 33) = x := ⟨_, rfl⟩
  have b8 : Below w7.heap.size w7 w8 := by rw [← hw8]; exact (Below.refl _ w7).alloc (Nat.le_refl _) _
  have b38 := B6.out.trans ((hb7.trans (b8.mono hb7.size)).mono B6.out.size)
  have B8 := hide b38
  have k8 := HK.out w8 b38
  clear c0 c1 o7 hb7 b8 b38 B6 hw6
  have c0 := k8.cell 0
  have c1 := k8.cell 1
  simp only [List.getElem?_cons_zero, List.getElem?_cons_succ] at c0 c1
  clear k8
  go_wp2_with fail
  refine (HD.out w8 (Hra.out w8 B8.out) (Hrt.out w8 B8.out)).mono ?_
  rintro en w9 ⟨v9, rfl, o9, hb9⟩
  obtain ⟨a9, c9, rfl⟩ := o9.rd.shape
  have b39 := B8.out.trans (hb9.mono B8.out.size)
  have B9 := hide b39
  have R9 := hide o9.rd
  clear c0 c1 o9 hb9 b39 B8 hw8
  go_wp2
  go_loopw [11] (fun iv wr => ∃ i : Nat, i ≤ D.length ∧ iv = .int .i64 (i : Int) ∧ Below w9.heap.size w9 wr) (fun iv _ => D.length - (intOf iv).toNat)
  case atStart => exact ⟨0, Nat.zero_le _, rfl, Below.refl _ _⟩
  case round =>
    obtain ⟨i, hi, rfl, hbr⟩ := hrel
    by_cases hlt : i < D.length
    · obtain ⟨bd, od, had, hbd, hT⟩ := RdT.at1 R9.out hlt
      subst had
      have hli : (i : Int) < (D.length : Int) := by omega
      have hT := hT.below hbr hbd
      obtain ⟨k, hk, hat, hold⟩ := Hold.out i hlt
      have B3r := B9.out.trans (hbr.mono B9.out.size)
      have kr := HK.out wr B3r
      obtain ⟨ba, oa, al, cl, hau, hba, hA⟩ := RdA.at1 (Hra.out wr B3r) hk
      subst hau
      have HQ := hide (fun (d : Nat) (os : Array Obj) => Calls.regrown_of (HAt.out D[i].2.1 (Sort.grow (redrawn wr d) os) ((Hra.out wr B3r).below (below_regrown wr d os) (Nat.le_refl _))))
      rw [hat] at HQ
      generalize D[i] = x at hT HQ hold hat
      obtain ⟨kd, fm, tn, am, nc⟩ := x
      obtain ⟨q0, q1, q2, q3, q4⟩ := hT
      have p1 := kr.cell 1
      simp only [List.getElem?_cons_zero, List.getElem?_cons_succ] at p1 q1 q4 HQ hold
      have y2 := hA.c2
      have g1 := cell_regrown q1
      have e1 := cell_regrown p1
      have HTw : Hid (wr.cell? ⟨bd, od + i * 5 + 4, none⟩ = some (.int .i64 nc)) := hide q4
      have HPw := hide p1
      have HYw := hide y2
      have hki : (k : Int) < (l.length : Int) := by omega
      have hk0 : ¬ ((k : Int) < 0) := by omega
      have hbdr : bd < wr.heap.size := Nat.lt_of_lt_of_le hbd hbr.size
      have hKl := kr.lt
      have Hbr := hide hbr
      have Hold1 := hide hold
      clear q0 q1 q2 q3 q4 p1 kr hA hat y2 hbr hold B3r
      go_wp2
      refine wp_region_quiet_below (by kernel_rfl) (by kernel_rfl) ?_
      repeat (go_big_quiet_step ((go_at_call 20; exact HQ.out _ _)))
      refine wpQuiet_nil ?_
      intro _ hw'
      obtain ⟨⟨dq, osq⟩, hw''⟩ := hw'
      subst hw''
      obtain ⟨wq, hwq⟩ : ∃ z, Sort.grow (redrawn wr dq) osq = z := ⟨_, rfl⟩
      have bq : Below wr.heap.size wr wq := by rw [← hwq]; exact below_regrown wr dq osq
      rw [hwq]
      clear hwq g1 e1 HQ
      have t4 := cell_regrown ((bq.cell (p := ⟨bd, od + i * 5 + 4, none⟩) hbdr).trans HTw.out)
      have t1 := cell_regrown ((bq.cell (p := ⟨w2.heap.size, 1, none⟩) hKl).trans HPw.out)
      have t2 := cell_regrown ((bq.cell (p := ⟨ba, oa + k * 5 + 2, none⟩) hba).trans HYw.out)
      generalize l[k].2.2.1 = N at t2 Hold1
      have hnN : ¬ (nc < N) := by have := Hold1.out; omega
      have hdN : decide (nc < N) = false := decide_eq_false hnN
      have hdk : decide ((k : Int) < 0) = false := decide_eq_false (by omega)
      have Bq := hide (Hbr.out.trans (bq.mono Hbr.out.size))
      clear bq HTw HPw HYw Hold1
      go_wp2
      refine wp_region_quiet_below (by kernel_rfl) (by kernel_rfl) ?_
      repeat (go_big_quiet_step (fail))
      refine wpQuiet_nil ?_
      intro _ hw'
      obtain ⟨⟨dq2, osq2⟩, hw''⟩ := hw'
      subst hw''
      have b9 := below_regrown wq dq2 osq2
      go_wp2
      go_roundw
      case rel => exact ⟨i + 1, by omega, by go_num, Bq.out.trans (b9.mono Bq.out.size)⟩
      case measure => simp [intOf]; omega
    · have hil : ¬ ((i : Int) < (D.length : Int)) := by omega
      have B3r := B9.out.trans (hbr.mono B9.out.size)
      have kr := HK.out wr B3r
      have c0 := kr.cell 0
      have c1 := kr.cell 1
      simp only [List.getElem?_cons_zero, List.getElem?_cons_succ] at c0 c1
      have HDr := hide (HDs.out wr (Hra.out wr B3r) (Hrt.out wr B3r))
      have hdi : (D.length : Int) ≤ (ts.length : Int) := by omega
      have BB := hide (HB3.out.trans (B3r.mono HB3.out.size))
      clear kr B3r hbr
      go_wp2_with fail
      refine HDr.out.mono ?_
      rintro en wz ⟨vz, rfl, oz, hbz⟩
      obtain ⟨az, cz, rfl⟩ := oz.rd.shape
      have BZ := hide (BB.out.trans (hbz.mono BB.out.size))
      clear oz hbz c0 c1
      go_wp2
      go_ret
      exact ⟨by first | rfl | simp, BZ.out⟩

theorem fnFitting_met (os : Os) (args : Array Value) : laidMetH Tryz.prog Rows.fnFittingRow.laid ((laidOn (World.holding Tryz.prog os ⟨#[], #[], []⟩)).forCall (fun _ _ => 0) ⟨#[], args, []⟩).memory :=
  laidMetH_of_parts (laidMet_nil _ _) (by kernel_rfl)
theorem fnFitting_gh {W : World} (h : laidMetH Tryz.prog Rows.fnFittingRow.laid W) : Gh W := by
  have h' : laidMet Tryz.prog [] W ∧ handlesMet Tryz.prog Rows.fnFittingRow.laid W := h
  exact gh_of_handles h'.2

set_option maxRecDepth 100000 in
theorem fnFitting_lifted (os : Os) (started : os.Started) (H : Type) (enc : TypeId × Value → H) :
    ReturnsInHanded {} Tryz.checked os 4 .any (fun w args => (Rows.fnFittingSpec.pre enc Tryz.prog Tryz.f4 [] false w args ∧ laidMetH Tryz.prog Rows.fnFittingRow.laid w) ∧ sizedMet enc Tryz.prog Tryz.f4 (OpenSpec.ofChange Rows.fnFittingSpec) false w args)
      (Rows.fnFittingSpec.post enc Tryz.prog Tryz.f4 false true false false) := by
  refine returnsInHanded_of_change_and (C := Tryz.checked) (X := fun w _ => laidMetH Tryz.prog Rows.fnFittingRow.laid w) (fun _ _ _ hh h => h.of_heap hh) fnFitting_own started (by kernel_rfl) Tryz.func4
    (ChangeSpec.witness_at (enc := enc) (C := Tryz.checked) (os := os) (X := fun w _ => laidMetH Tryz.prog Rows.fnFittingRow.laid w) false (laidOn (World.holding Tryz.prog os ⟨#[], #[], []⟩)) #[.slice none 0 0] 8 rfl (by kernel_rfl) (by kernel_rfl) (by kernel_rfl) (by kernel_rfl) (by kernel_rfl) (fnFitting_met os _)) ?_
  intro W base args ds gs before hval0 hW _ _ hL _
  have hval : ∀ (j : Nat) t v, Tryz.f4.params[j]? = some t → args[j]? = some v → Value.okWide Tryz.prog W .any base t v := hval0
  have hW' := hW
  obtain ⟨p, q, hA0, hV0, rfl, hfz, hnd⟩ := hW
  have hV : DataW.TrodVars enc Tryz.prog W (fun _ => true) [] gs q := hV0
  obtain ⟨rfl, rfl⟩ : gs = [] ∧ q = [] := by
    cases gs with
    | nil => exact ⟨rfl, hV⟩
    | cons g r => exact absurd hV (by intro h; cases h)
  have hA : DataW.TrodAll enc Tryz.prog W 0 (fun _ => true) true Tryz.f4.params.toList args.toList ds p := hA0
  rw [Tryz.params4] at hA hval
  obtain ⟨v0, vs0, d0, ds0, p0, q0, hargs, rfl, rfl, h0, r0⟩ := trodAll_cons hA
  obtain ⟨rfl, rfl, rfl⟩ := trodAll_nil r0
  obtain rfl : args = #[v0] := by cases args; simp_all
  obtain ⟨a0, len0, cap0, rfl⟩ := okWide_slice Tryz.underlying40 (hval 0 40 v0 rfl rfl)
  have k0 := h0
  have lt0 : ∀ x ∈ p0, x.block < W.heap.size := by obtain ⟨m, hm⟩ := k0; exact DataW.trod_lt m _ _ _ hm
  obtain ⟨z0, w0⟩ : ∃ zs, IsRow .u8 W a0 len0 cap0 zs := by
    obtain ⟨fuel, hf⟩ := h0
    rcases open_ints Tryz.underlying40 Tryz.underlying5 (by kernel_rfl) hf with ⟨hcs, _⟩ | ⟨x, l, c, zs, hcs, _, hl, hm, hz, _, hcell, hwz⟩
    · simp [Value.cells] at hcs
      obtain ⟨rfl, rfl, rfl⟩ := hcs
      exact ⟨[], .inl ⟨rfl, rfl, rfl, rfl⟩⟩
    · simp [Value.cells] at hcs
      obtain ⟨rfl, rfl, rfl⟩ := hcs
      exact ⟨zs, .inr ⟨_, rfl, hl, hm, by simpa using hz, hcell, hwz⟩⟩
  clear hA0 hval0
  refine (fnFitting_walk a0 len0 cap0 z0 W (fnFitting_gh hL) w0).mono fun e W' ⟨he, bel⟩ => ?_
  subst he
  exact ⟨_, rfl, _, _, _, [], _, [], hW', trodAll_mk1 (shut_bool Tryz.underlying4 _), (trodAll_cons_mk (Below.trod fnFitting_laidOut (by kernel_rfl) (of_decide_eq_true (by kernel_rfl)) k0 bel lt0) trodAll_mk0), rfl, bel.frame _, fun h => by cases h⟩

theorem fnFitting_holds : Rows.FnFittingSaid :=
  OpenClaim.holds_of_wide 4 Tryz.f4 rfl rfl rfl rfl rfl rfl rfl ⟨rfl, rfl, rfl, rfl, rfl⟩ rfl rfl rfl rfl rfl (by kernel_rfl) Tryz.func4 (by kernel_rfl)
    (of_decide_eq_true (by kernel_rfl)) (by unfold Func.isWrapper; first | (rw [if_pos (by decide +kernel)]; kernel_rfl) | (rw [if_neg (by decide +kernel)]; exact ⟨rfl, rfl⟩))
    (fun os started H enc _ => fnFitting_lifted os started H enc)

/-- The card: the variable is tied to the program's text by the given tie. -/
theorem fnFitting_card : Rows.FnFittingCardSaid :=
  Claim7.holds_tied_plain_at .later [] [.handle] true Rows.fnFittingCard.stood.harness true
    fnFitting_holds (fun _ h => by cases h) (by kernel_rfl) (fun _ h => by cases h) fnFitting_row_tie rfl ⟨rfl, rfl⟩ (by kernel_rfl) rfl
    (fun f fn hf hfn => by
      obtain rfl : f = 4 := Option.some.inj ((show Tryz.prog.funcNamed Rows.fnFittingRow.func = some 4 by kernel_rfl).symm.trans hf) |>.symm
      obtain rfl : fn = Tryz.f4 := (Option.some.inj (Tryz.func4.symm.trans hfn)).symm
      exact ⟨by kernel_rfl, fun j t ht => by
        rw [Tryz.params4] at ht
        have hm : t ∈ [40] := by simpa using Array.mem_of_getElem? ht
        have hall : ([40].all fun u => !Tryz.prog.wantsStandIn u) = true := by kernel_rfl
        exact (show Tryz.prog.wantsStandIn t = false by simpa using List.all_eq_true.1 hall t hm)⟩)
    (by kernel_rfl)

end Go.Proofs.YtbbkeebfginlfaaGreatDoor
