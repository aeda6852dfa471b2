/- Whatever texts are drawn, each has a path that is right, as one of so many; with one part more it is not, nor as one behind the last; and a root has 32 bytes: the law FnPaths returns true at every code, with no condition but that the two package-level tables read as the program's text lays them. -/
import Derived.Test.YtknnecmfebnfbabDoorRows
import Derived.Test.YtknnecmfebnfbabDoorTie
import Derived.Test.YtknnecmfebnfbabDoorCards
import Derived.Test.YtknnecmfebnfbabDoorRow
import Derived.Test.YtknnecmfebnfbabDoorBig
import Derived.Test.YtknnecmfebnfbabDoorDrawLv
import Derived.Test.YtknnecmfebnfbabDoorMerkPathI
import Derived.Test.YtknnecmfebnfbabDoorMerkChkI
import Derived.Test.YtknnecmfebnfbabDoorDoorLaid
import Derived.WalkKit
import Derived.ProofKit
import Derived.OpenShut
import Derived.ShutString
import Derived.ChangeOld
import Derived.Below
import Derived.SliceStrings
import Derived.OpenVars
import Derived.SevenTiedAt
namespace Go.Proofs.YtknnecmfebnfbabDoor
open Go.ChangeShapes Go.WideShapes Go.ChangeAt Go.RowKit
open Go.ChangeMaps (open_string shut_string)
set_option linter.unusedVariables false

theorem fnPaths_own : ownKnob Tryd.prog.godebug = none := by kernel_rfl
theorem fnPaths_laidOut : laidOutB Tryd.prog = true := by kernel_rfl

theorem app_ownP {ops : Array Oper} {rest : List Oper} {o : Oper} {a : Act} {Q : Exit → Act → World → Prop} (w : World) (hgd : o.guard = none) (s x : Operand)
    (ho : o.op = .call { callee := .builtin .append, args := #[s, x], argTypes := #[26, 26] })
    (base : Nat) (v vx : Value) (l k : List ByteArray) (hs : a.eval s = v) (hx : a.eval x = vx) (hown : OwnS base w v l) (hrd : RdS w vx k)
    (hlen : l.length + k.length ≤ 1000000) (hbase : base ≤ w.heap.size)
    (h : ∀ v' w', OwnS base w' v' (l ++ k) → Below base w w' → wpList Tryd.prog ops Q rest (a.put o.dst v') w') : wpList Tryd.prog ops Q (o :: rest) a w := by
  obtain ⟨i0, hi, hz0, hz1, hz2⟩ := info_parts Tryd.infoStr
  have hbel : ∀ w', w.grownBy w' v.ownBlock → Below base w w' := fun w' hg => (Below.refl _ _).grown hg hbase (fun k hk => (World.ownsRow.lt hown k hk).1)
  rcases hrd with ⟨ax, cap, rfl, rfl, hnil⟩ | ⟨b, off, cap, h0, rfl, h1, h2, h3, h4⟩
  · cases ax with
    | none =>
      have hc : cap = 0 := hnil rfl
      subst hc
      refine wpList_append_own_none hgd s x 26 ho base 9 i0 1 Tryd.underlying26 hi v l.length (l.map Value.string) hs hown hx ?_
      exact h v w (by simpa [OwnS] using hown) (Below.refl _ _)
    | some ad =>
      refine wpList_append_own w hgd s x 26 ho base 9 i0 (.string ByteArray.empty) 1 16 Tryd.underlying26 hi hz0 hz1 hz2 rfl (by decide) v l.length (l.map Value.string) hs hown ad 0 cap [] hx rfl (by intro j u hj; simp at hj) (by intro u hu; simp at hu) (by unfold maxLen; simp at hlen; omega) (by simp at hlen; omega) hbase ?_
      intro v' w' ho' hg _
      exact h v' w' (by simpa [OwnS] using ho') (hbel w' hg)
  · refine wpList_append_own w hgd s x 26 ho base 9 i0 (.string ByteArray.empty) 1 16 Tryd.underlying26 hi hz0 hz1 hz2 rfl (by decide) v l.length (l.map Value.string) hs hown ⟨b, off, none⟩ k.length cap (k.map Value.string) hx (by simp) ?_ ?_ (by unfold maxLen; omega) (by omega) hbase ?_
    · intro j u hj
      have hj' : j < k.length := by have := (List.getElem?_eq_some_iff.1 hj).1; simpa using this
      have ea : (⟨b, off, none⟩ : Addr).add j = ⟨b, off + j, none⟩ := by
        by_cases hz : j = 0
        · subst hz; simp [Addr.add]
        · simp [Addr.add, hz]
      rw [ea, h4 j hj']
      simp [hj'] at hj
      rw [← hj]
    · intro u hu
      obtain ⟨c, _, rfl⟩ := List.mem_map.1 hu
      rfl
    · intro v' w' ho' hg _
      exact h v' w' (by simpa [OwnS] using ho') (hbel w' hg)
theorem pathB_sz : ∀ (n : Nat) (l : List ByteArray) (i : Nat), l.length ≤ n → ∀ s ∈ pathB l i, s.size = 32
  | 0, l, i, h, s, hs => by rw [pathB_few l i (by omega)] at hs; simp at hs
  | n + 1, l, i, h, s, hs => by
    by_cases h2 : l.length < 2
    · rw [pathB_few l i h2] at hs; simp at hs
    · have hh := half_lt l.length (by omega)
      by_cases hi : i < half l.length
      · rw [pathB_left l i (by omega) hi] at hs
        rcases List.mem_append.1 hs with hs | hs
        · exact pathB_sz n _ _ (by simp; omega) s hs
        · simp at hs; subst hs; exact rootB_size _
      · rw [pathB_right l i (by omega) hi] at hs
        rcases List.mem_append.1 hs with hs | hs
        · exact pathB_sz n _ _ (by simp; omega) s hs
        · simp at hs; subst hs; exact rootB_size _
theorem check_right (ls : List ByteArray) (x : Nat) (hx : x < ls.length) (hl : ls.length ≤ 64) : checkB ls[x] (x : Int) (ls.length : Int) (pathB ls x) (rootB ls) = true := by
  rw [checkB_in _ x ls.length _ _ (by omega), up_path ls.length ls x ls.length ls[x] rfl (Nat.le_refl _) (List.getElem?_eq_getElem hx)]
  simp
theorem check_more (ls : List ByteArray) (x : Nat) (hx : x < ls.length) (hl : ls.length ≤ 64) (y : ByteArray) : checkB ls[x] (x : Int) (ls.length : Int) (pathB ls x ++ [y]) (rootB ls) = false := by
  rw [checkB_in _ x ls.length _ _ (by omega), up_more ls.length _ x ls.length (pathB ls x) y (Nat.le_refl _) (by rw [up_path ls.length ls x ls.length ls[x] rfl (Nat.le_refl _) (List.getElem?_eq_getElem hx)]) (pathB ls x ++ [y]) (by simp)]
  rfl

set_option maxRecDepth 20000 in
set_option maxHeartbeats 2000000 in
theorem fnPaths_walk (a0 : Option Addr) (len0 cap0 : Nat) (z0 : List Int) (w : World) (hgl : Gl w) (w0 : IsRow .u8 w a0 len0 cap0 z0) :
    Calls Tryd.prog 4 #[.slice a0 len0 cap0] w fun e w' => e = .returned (.bool true) ∧ Below w.heap.size w w' := by
  obtain ⟨l, rfl, hr⟩ := w0.rd
  clear w0
  have hcap : l.length ≤ 9223372036854775807 := by
    rcases hr with ⟨_, _, _, e, _⟩ | ⟨_, _, cap, _, _, h1, h2, _⟩
    · subst e; simp
    · unfold maxLen at h2; omega
  have Hbig := hide (big_any _ l w hr hcap)
  by_cases hbig : 1048576 < l.length
  · rw [decide_eq_true hbig] at Hbig
    clear hr hgl
    go_enter Tryd.func4, Tryd.ntmps4
    go_wp2_with fail
    refine Hbig.out.mono ?_
    rintro e w ⟨rfl, rfl⟩
    go_wp2
    go_ret
    exact ⟨rfl, Below.refl _ _⟩
  · rw [decide_eq_false hbig] at Hbig
    have Hd := hide (drawLeaves_any w _ l hr (by omega))
    have Hgl := hide hgl
    clear hgl hr
    go_enter Tryd.func4, Tryd.ntmps4
    go_wp2_with fail
    refine Hbig.out.mono ?_
    rintro e w ⟨rfl, rfl⟩
    go_wp2_with fail
    refine Hd.out.mono ?_
    rintro e w1 ⟨v1, ls, x, rfl, ho1, hls, hx, hsm, hb1⟩
    have hg1 := Hgl.out.below hb1 (Nat.le_refl _)
    have hall : ∀ s ∈ ls, s.size ≤ 1500000 := fun s hs => Nat.le_trans (hsm s hs) (by omega)
    have hrd := ho1.rd
    have HP := hide (fun w h hg => implPathOf_any ls (x : Int) v1 w (by omega) (by omega) (by omega) h hall hg)
    have hpe : pathOfB ls (x : Int) = pathB ls x := by unfold pathOfB; rw [if_pos (by omega), Int.toNat_natCast]
    rw [hpe] at HP
    have HR := hide (fun w h hg => implRoot_any ls v1 w (by omega) h hall hg)
    have hXs := rootB_size ls
    have c1 := check_right ls x hx (by omega)
    have c2 := check_more ls x hx (by omega) (rootB ls)
    have c3 := checkB_no ls[x] (ls.length : Int) (ls.length : Int) (pathB ls x) (rootB ls) (by omega)
    have hPl := pathB_len ls.length ls x (Nat.le_refl _)
    have hPs := pathB_sz ls.length ls x (Nat.le_refl _)
    have hss := hall ls[x] (List.getElem_mem _)
    generalize pathB ls x = P at HP c1 c2 c3 hPl hPs
    generalize rootB ls = X at HR c1 c2 c3 hXs
    have hPs1 : ∀ s ∈ P, s.size ≤ 1500000 := fun s hs => by have := hPs s hs; omega
    have hPs2 : ∀ s ∈ P ++ [X], s.size ≤ 1500000 := fun s hs => by
      rcases List.mem_append.1 hs with hs | hs
      · exact hPs1 s hs
      · simp at hs; subst hs; omega
    have C1 := hide (fun v w h hg => implCheck_any ls[x] (x : Int) (ls.length : Int) P X v w (by omega) (by omega) (by omega) (by omega) (by omega) (by omega) h hPs1 hg)
    have C2 := hide (fun v w h hg => implCheck_any ls[x] (x : Int) (ls.length : Int) (P ++ [X]) X v w (by omega) (by omega) (by omega) (by omega) (by omega) (by simp; omega) h hPs2 hg)
    have C3 := hide (fun v w h hg => implCheck_any ls[x] (ls.length : Int) (ls.length : Int) P X v w (by omega) (by omega) (by omega) (by omega) (by omega) (by omega) h hPs1 hg)
    rw [c1] at C1
    rw [c2] at C2
    rw [c3] at C3
    clear c1 c2 c3 hsm ho1 hpe hall hPs hPs1 hPs2
    rcases hrd with ⟨_, _, _, e, _⟩ | ⟨b, off, cap, hne, rfl, hc1, hc2, hb, hcell⟩
    · subst e; simp at hx
    have hst : StrAt w1 b off ls := ⟨hb, hcell⟩
    have hcx := hcell x hx
    generalize ls[x] = sx at hcx C1 C2 C3 hss
    have HP1 := hide (HP.out w1 (hst.rd hc1 hc2) hg1)
    have Hst := hide hst
    have Hg1 := hide hg1
    have Hb1 := hide hb1
    obtain ⟨m, hm⟩ : ∃ m, ls.length = m := ⟨_, rfl⟩
    rw [hm] at hc1 hls hx HR C1 C2 C3 HP1 HP hPl ⊢
    have ix1 : (x : Int) < (m : Int) := by omega
    clear hst hcell hg1 hb1 HP
    go_wp2_with fail
    refine HP1.out.mono ?_
    rintro e w2 ⟨v2, rfl, ho2, hb2⟩
    have hB2 : Below w.heap.size w w2 := Hb1.out.trans (hb2.mono Hb1.out.size)
    have hg2 := Hg1.out.below hb2 (Nat.le_refl _)
    have hst2 := Hst.out.below hb2 hb
    go_wp2_with fail
    refine (HR.out w2 (by have := hst2.rd (cap := cap) (by omega) hc2; rwa [hm] at this) hg2).mono ?_
    rintro e w3 ⟨rfl, hb3⟩
    have hB3 : Below w.heap.size w w3 := hB2.trans (hb3.mono hB2.size)
    have hg3 := hg2.below hb3 (Nat.le_refl _)
    have ho3 := ho2.below hb3 (Nat.le_refl _)
    have hbw3 : b < w3.heap.size := Nat.lt_of_lt_of_le (Nat.lt_of_lt_of_le hb hb2.size) hb3.size
    have hcx3 : w3.cell? ⟨b, off + x, none⟩ = some (.string sx) := ((hb2.trans (hb3.mono hb2.size)).cell (p := ⟨b, off + x, none⟩) hb).trans hcx
    clear hcx ho2 hst2
    have hn3 := nilL w3 w3.heap.size (Nat.le_refl _)
    have ho3a : RdS (w3.alloc (.cells #[] 9)) v2 P := ho3.rd.below ((Below.refl _ w3).alloc (Nat.le_refl _) _) (Nat.le_refl _)
    go_wp2_with (first
      | (at_builtin; refine app_textL _ rfl _ _ rfl w3.heap.size w4.heap.size 1 v4 P X (by rfl) (by rfl) (World.ownsRow.alloc ho4 _) (cell_litL w4 X _ rfl) (by omega) (by simp; omega) ?_; intro v5 w5 ho5 hb5; have hb34 : Below w3.heap.size w3 w5 := ((((Below.refl _ w3).alloc (Nat.le_refl _) (.cells #[] 9)).trans hb4).alloc hz4 (.cells #[.string X] 9)).trans hb5; have hcx5 : w5.cell? ⟨b, off + x, none⟩ = some (.string sx) := (hb34.cell (p := ⟨b, off + x, none⟩) hbw3).trans hcx3)
      | (at_builtin; refine app_ownP _ rfl _ _ rfl w3.heap.size _ v2 [] P (by rfl) (by rfl) hn3 ho3a (by simp; omega) (by simp) ?_; intro v4 w4 ho4 hb4; rw [List.nil_append] at ho4; have hz4 : w3.heap.size ≤ w4.heap.size := by have := hb4.size; simp at this; omega))
    have hB5 : Below w.heap.size w w5 := hB3.trans (hb34.mono hB3.size)
    have hg5 := hg3.below hb34 (Nat.le_refl _)
    have ho25 := ho3.below hb34 (Nat.le_refl _)
    have hbw5 : b < w5.heap.size := Nat.lt_of_lt_of_le hbw3 hb34.size
    clear hn3 ho3a ho3 ho4 hcx3 hg3 hb3 hb4 hb5 hb34 hB3 hB2 hg2 hb2 HR Hst Hg1 Hb1 HP1 Hd Hbig Hgl
    refine (C1.out _ _ ho25.rd hg5).mono ?_
    rintro e w6 ⟨rfl, hb6⟩
    have hB6 : Below w.heap.size w w6 := hB5.trans (hb6.mono hB5.size)
    have hg6 := hg5.below hb6 (Nat.le_refl _)
    have ho26 := ho25.below hb6 (Nat.le_refl _)
    have ho56 := ho5.below hb6 (Nat.le_refl _)
    have hcx6 : w6.cell? ⟨b, off + x, none⟩ = some (.string sx) := (hb6.cell (p := ⟨b, off + x, none⟩) hbw5).trans hcx5
    have hbw6 : b < w6.heap.size := Nat.lt_of_lt_of_le hbw5 hb6.size
    clear hcx5 ho25 ho5
    have hX32 : ((X.size : Int) == 32) = true := by rw [hXs]; rfl
    go_wp2_with fail
    refine (C2.out _ _ ho56.rd hg6).mono ?_
    rintro e w7 ⟨rfl, hb7⟩
    have hB7 : Below w.heap.size w w7 := hB6.trans (hb7.mono hB6.size)
    have hg7 := hg6.below hb7 (Nat.le_refl _)
    have ho27 := ho26.below hb7 (Nat.le_refl _)
    have hcx7 : w7.cell? ⟨b, off + x, none⟩ = some (.string sx) := (hb7.cell (p := ⟨b, off + x, none⟩) hbw6).trans hcx6
    clear hcx6 ho26 ho56
    go_wp2_with fail
    refine (C3.out _ _ ho27.rd hg7).mono ?_
    rintro e w8 ⟨rfl, hb8⟩
    have hB8 : Below w.heap.size w w8 := hB7.trans (hb8.mono hB7.size)
    go_wp2
    go_ret
    exact ⟨rfl, hB8⟩

theorem fnPaths_doorMet (os : Os) (args : Array Value) : laidMetH Tryd.prog Rows.fnPathsRow.laid ((World.doorLaid Tryd.prog 400 os).forCall (fun _ _ => 0) ⟨#[], args, []⟩).memory :=
  laidMetH_of_parts3 (fuel := 8) (laidMet_of_run' 8 (by kernel_rfl) (by kernel_rfl)) (by kernel_rfl) (by kernel_rfl)
theorem fnPaths_gl {W : World} (h : laidMetH Tryd.prog Rows.fnPathsRow.laid W) : Gl W := by
  rw [MakeChecks.laidMetH_plain _ _ _ (by kernel_rfl)] at h
  exact gl_of_reads (Lib.laidMet.reads h (.head _)) (Lib.laidMet.reads h (.tail _ (.head _)))

set_option maxRecDepth 100000 in
theorem fnPaths_lifted (os : Os) (started : os.Started) (H : Type) (enc : TypeId × Value → H) :
    ReturnsInHanded {} Tryd.checked os 4 .any (fun w args => (Rows.fnPathsSpec.pre enc Tryd.prog Tryd.f4 [] false w args ∧ laidMetH Tryd.prog Rows.fnPathsRow.laid w) ∧ sizedMet enc Tryd.prog Tryd.f4 (OpenSpec.ofChange Rows.fnPathsSpec) false w args)
      (Rows.fnPathsSpec.post enc Tryd.prog Tryd.f4 false true false false) := by
  refine returnsInHanded_of_change_and (C := Tryd.checked) (X := fun w _ => laidMetH Tryd.prog Rows.fnPathsRow.laid w) (fun _ _ _ hh h => h.of_heap hh) fnPaths_own started (by kernel_rfl) Tryd.func4
    (ChangeSpec.witness_shaped (enc := enc) (C := Tryd.checked) (os := os) (X := fun w _ => laidMetH Tryd.prog Rows.fnPathsRow.laid w) false (World.doorLaid Tryd.prog 400 os) #[.slice none 0 0] 8 rfl (World.shaped_of_RefB (by kernel_rfl) (by kernel_rfl)) (by kernel_rfl) (by kernel_rfl) (by kernel_rfl) (fnPaths_doorMet os _)) ?_
  intro W base args ds gs before hval0 hW _ _ hL _
  have hval : ∀ (j : Nat) t v, Tryd.f4.params[j]? = some t → args[j]? = some v → Value.okWide Tryd.prog W .any base t v := hval0
  have hW' := hW
  obtain ⟨p, q, hA0, hV, rfl, hfz, hnd⟩ := hW
  have hV2 := hV
  obtain ⟨_, _, _, _, _, _, _, _, _, _, _, _, rfl, _, _, _, _, _, _, _, _, _⟩ := trodVars_two hV
  have hA : DataW.TrodAll enc Tryd.prog W 0 (fun _ => true) true Tryd.f4.params.toList args.toList ds p := hA0
  rw [Tryd.params4] at hA hval
  obtain ⟨v0, vs0, d0, ds0, p0, q0, hargs, rfl, rfl, h0, r0⟩ := trodAll_cons hA
  obtain ⟨rfl, rfl, rfl⟩ := trodAll_nil r0
  obtain rfl : args = #[v0] := by cases args; simp_all
  obtain ⟨a0, len0, cap0, rfl⟩ := okWide_slice Tryd.underlying22 (hval 0 22 v0 rfl rfl)
  have k0 := h0
  have lt0 : ∀ x ∈ p0, x.block < W.heap.size := by obtain ⟨m, hm⟩ := k0; exact DataW.trod_lt m _ _ _ hm
  obtain ⟨z0, w0⟩ : ∃ zs, IsRow .u8 W a0 len0 cap0 zs := by
    obtain ⟨fuel, hf⟩ := h0
    rcases open_ints Tryd.underlying22 Tryd.underlying5 (by kernel_rfl) hf with ⟨hcs, _⟩ | ⟨x, l, c, zs, hcs, _, hl, hm, hz, _, hcell, hwz⟩
    · simp [Value.cells] at hcs
      obtain ⟨rfl, rfl, rfl⟩ := hcs
      exact ⟨[], .inl ⟨rfl, rfl, rfl, rfl⟩⟩
    · simp [Value.cells] at hcs
      obtain ⟨rfl, rfl, rfl⟩ := hcs
      exact ⟨zs, .inr ⟨_, rfl, hl, hm, by simpa using hz, hcell, hwz⟩⟩
  clear hA0 hval0
  refine (fnPaths_walk a0 len0 cap0 z0 W (fnPaths_gl hL) w0).mono fun e W' ⟨he, bel⟩ => ?_
  subst he
  exact ⟨_, rfl, _, _, _, [], _, _, hW', trodAll_mk1 (shut_bool Tryd.underlying4 _), (trodAll_cons_mk (Below.trod fnPaths_laidOut (by kernel_rfl) (of_decide_eq_true (by kernel_rfl)) k0 bel lt0) trodAll_mk0), Below.trodVars fnPaths_laidOut bel (by kernel_rfl) hV2, bel.frame _, fun h => by cases h⟩

theorem fnPaths_holds : Rows.FnPathsSaid :=
  OpenClaim.holds_of_wide 4 Tryd.f4 rfl rfl rfl rfl rfl rfl rfl ⟨rfl, rfl, rfl, rfl, rfl⟩ rfl rfl rfl rfl rfl (by kernel_rfl) Tryd.func4 (by kernel_rfl)
    (of_decide_eq_true (by kernel_rfl)) (by unfold Func.isWrapper; first | (rw [if_pos (by decide +kernel)]; kernel_rfl) | (rw [if_neg (by decide +kernel)]; exact ⟨rfl, rfl⟩))
    (fun os started H enc _ => fnPaths_lifted os started H enc)

/-- The card: the two variables are tied to the program's text by the given tie. -/
theorem fnPaths_card : Rows.FnPathsCardSaid :=
  Claim7.holds_tied_plain_at .later [] [.data, .data] true Rows.fnPathsCard.stood.harness false
    fnPaths_holds (fun _ h => by cases h) (by kernel_rfl) (fun _ h => by cases h) fnPaths_row_tie rfl ⟨rfl, rfl⟩ (by kernel_rfl) rfl
    (fun f fn hf hfn => by
      obtain rfl : f = 4 := Option.some.inj ((show Tryd.prog.funcNamed Rows.fnPathsRow.func = some 4 by kernel_rfl).symm.trans hf) |>.symm
      obtain rfl : fn = Tryd.f4 := (Option.some.inj (Tryd.func4.symm.trans hfn)).symm
      exact ⟨by kernel_rfl, fun j t ht => by
        rw [Tryd.params4] at ht
        have hm : t ∈ [22] := by simpa using Array.mem_of_getElem? ht
        have hall : ([22].all fun u => !Tryd.prog.wantsStandIn u) = true := by kernel_rfl
        exact (show Tryd.prog.wantsStandIn t = false by simpa using List.all_eq_true.1 hall t hm)⟩)
    (by kernel_rfl)

end Go.Proofs.YtknnecmfebnfbabDoor
