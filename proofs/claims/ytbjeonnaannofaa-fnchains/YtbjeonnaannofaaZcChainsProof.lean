/- In a drawn tree a chain ends with its block, begins behind the root, and each comes behind the one ahead of it: the law FnChains returns true at every code, with no condition. -/
import Derived.Test.YtbjeonnaannofaaRows
import Derived.Test.YtbjeonnaannofaaZcBig
import Derived.Test.YtbjeonnaannofaaZcTrFact
import Derived.Test.YtbjeonnaannofaaZcTrChI
import Derived.Test.YtbjeonnaannofaaZcKsAt
import Derived.WalkKit
import Derived.ProofKit
import Derived.OpenShut
import Derived.ShutString
import Derived.ChangeOld
import Derived.Below
import Derived.SliceStrings
namespace Go.Proofs.Ytbjeonnaannofaa
open Go.ChangeShapes Go.WideShapes Go.ChangeAt Go.RowKit
open Go.ChangeMaps (open_string shut_string)
set_option linter.unusedVariables false

theorem fnChains_own : ownKnob Try.prog.godebug = none := by kernel_rfl
theorem fnChains_laidOut : laidOutB Try.prog = true := by kernel_rfl

theorem RdI.allC {w : World} {b off cap n : Nat} {l : List Int} (h : RdI w (.slice (some ⟨b, off, none⟩) n cap) l) (hn : n = l.length) : ∀ j (hj : j < l.length), w.cell? ⟨b, off + j, none⟩ = some (.int .i64 l[j]) := by
  intro j hj
  obtain ⟨b', off', e, -, hc⟩ := RdI.cellI h hn hj
  simp only [Option.some.injEq, Addr.mk.injEq, and_true] at e
  obtain ⟨rfl, rfl⟩ := e
  exact hc
set_option maxRecDepth 20000 in
set_option maxHeartbeats 8000000 in
theorem fnChains_walk (a0 : Option Addr) (len0 cap0 : Nat) (z0 : List Int) (w : World) (w0 : IsRow .u8 w a0 len0 cap0 z0) :
    Calls Try.prog 3 #[.slice a0 len0 cap0] w fun e w' => e = .returned (.bool true) ∧ Below w.heap.size w w' := by
  obtain ⟨cd, rfl, hr⟩ := w0.rd
  clear w0
  have hcap : cd.length ≤ 9223372036854775807 := by
    rcases hr with ⟨_, _, _, e, _⟩ | ⟨_, _, cap, _, _, h1, h2, _⟩
    · subst e; simp
    · unfold maxLen at h2; omega
  have Hbig := hide (big_any _ cd w hr hcap)
  by_cases hbig : 1048576 < cd.length
  · rw [decide_eq_true hbig] at Hbig
    clear hr
    go_enter Try.func3, Try.ntmps3
    go_wp2_with fail
    refine Hbig.out.mono ?_
    rintro e w' ⟨rfl, rfl⟩
    go_wp2
    go_ret
    exact ⟨rfl, Below.refl _ _⟩
  rw [decide_eq_false hbig] at Hbig
  have Hd := hide (drawTree_any w _ cd hr (by omega))
  clear hr
  go_enter Try.func3, Try.ntmps3
  go_wp2_with fail
  refine Hbig.out.mono ?_
  rintro e w ⟨rfl, rfl⟩
  go_wp2_with fail
  refine Hd.out.mono ?_
  rintro en w2 ⟨v, l, rfl, hrl, htb, hlen, hdt, hB2⟩
  obtain ⟨a, cap, rfl⟩ := hrl.shape
  have ht := treeP_of htb
  have hf : ∀ b ∈ l, FewK b := fun b hb => (hdt b hb).few
  have hbd : ∀ b ∈ l, -9223372036854775808 ≤ b.tr ∧ b.tr ≤ 9223372036854775807 := fun b hb => by rw [(hdt b hb).tr]; omega
  have HT := hide (fun V (hV : Below w2.heap.size w2 V) => implTreeOk_any (.slice a l.length cap) l V (hrl.below hV (Nat.le_refl _)) (by omega) hf hbd)
  have HC := hide (fun id V (hV : Below w2.heap.size w2 V) => implChainOf_any (.slice a l.length cap) l id V (hrl.below hV (Nat.le_refl _)) (by omega) hf hbd)
  have HA := hide (fun id V (hV : Below w2.heap.size w2 V) => implBlockAt_any (.slice a l.length cap) l id V (hrl.below hV (Nat.le_refl _)) (by omega) hf)
  have HX := hide (fun p q V (hV : Below w2.heap.size w2 V) => implExtends_any (.slice a l.length cap) l p q V (hrl.below hV (Nat.le_refl _)) (by omega) hf hbd)
  have Hrl := hide hrl
  have Htb := hide htb
  have Ht := hide ht
  have HR0 := hide (co_root htb ht)
  clear hrl ht hf hbd hdt hbig hcap Hbig Hd
  rw [htb] at HT
  clear htb
  go_wp2_with fail
  refine (HT.out w2 (Below.refl _ _)).mono ?_
  rintro e w3 ⟨rfl, hb3⟩
  have HB3 := hide hb3
  clear hb3 HT
  go_wp2
  go_loopw [4] (fun iv wr => ∃ i : Nat, i ≤ l.length ∧ iv = .int .i64 (i : Int) ∧ Below w2.heap.size w2 wr) (fun iv _ => l.length - (intOf iv).toNat)
  case atStart => exact ⟨0, Nat.zero_le _, rfl, HB3.out⟩
  case round =>
    clear HB3
    obtain ⟨i, hi, rfl, hb⟩ := hrel
    by_cases hlt : i < l.length
    · have hli : (i : Int) < (l.length : Int) := by omega
      have hi0 : (0 : Int) ≤ (i : Int) := by omega
      obtain ⟨b, off, rfl, h3, hcell⟩ := Hrl.out.parts9 (by omega)
      obtain ⟨lv, hat, -⟩ := hcell i hlt
      have HI : Hid (∀ V, Below w2.heap.size w2 V → V.cell? ⟨b, off + i * 14, none⟩ = some (.int .i64 l[i].id)) := hide (fun V hV => (hat.below hV h3).cells.1)
      have HP := hide (ch_pred Ht.out i hlt)
      have HLst := hide (ch_last Ht.out hlt)
      have HCL := hide (chA_lt Ht.out l[i].id)
      have hCn := chA_len Ht.out l[i].id
      have HCo := hide (co_tree Htb.out l[i].id)
      have HEx : Hid (∀ x, x ∈ chA l l[i].id → exB l (idAt l x) l[i].id = true) := hide (fun x hx => ex_mem Htb.out Ht.out hx)
      have HEr := hide (ex_root Htb.out Ht.out hlt)
      have HCi := hide (fun V hV => HC.out l[i].id V hV)
      rw [HCo.out] at HCi
      have Hid9 := hide (idAt_eq hlt)
      clear hat hcell HCo
      generalize l[i].id = di at HI HP HLst HCL hCn HEx HEr HCi Hid9
      generalize chA l di = C at HP HLst HCL hCn HEx HCi
      have hCp : 0 < C.length := by rw [HLst.out]; simp
      obtain ⟨t, ht⟩ : ∃ t, C.length = t + 1 := ⟨C.length - 1, by omega⟩
      have HCt : Hid (C[t]? = some i) := hide (by
        have e9 : t = (chA l l[i].qb).length := by have := congrArg List.length HLst.out; simp at this; omega
        rw [HLst.out, e9]; simp)
      have hz0 := HI.out wr hb
      go_wp2_with fail
      refine (HCi.out wr hb).mono ?_
      rintro e w4 ⟨cv4, rfl, oc, hb4⟩
      have hB4 := hb.trans (hb4.mono hb.size)
      obtain ⟨ca, cc, rfl⟩ := oc.rd.shape
      have hlc : (C.map (idAt l)).length = C.length := by simp
      rw [hlc] at oc ⊢
      have Hoc := hide oc.rd
      have HB4 := hide hB4
      have z4 := HI.out w4 hB4
      obtain ⟨gb, goff, rfl, hglt, gc⟩ := RdI.cellI oc.rd (by simp) (k := t) (by simp; omega)
      rw [List.getElem_map] at gc
      have e9 : C[t] = i := by have h9 := HCt.out; rw [List.getElem?_eq_getElem (by omega)] at h9; exact Option.some.inj h9
      rw [e9, Hid9.out] at gc
      have ci := fun (d : Nat) (os : Array Obj) => cell_regrown z4 d os
      have cg := fun (d : Nat) (os : Array Obj) => cell_regrown gc d os
      have hCi : ((C.length : Int) - 1) = (t : Int) := by omega
      have ht0 : (0 : Int) ≤ (t : Int) := by omega
      have ht1 : (t : Int) < (C.length : Int) := by omega
      have hCz : ((C.length : Int) == 0) = false := by rw [beq_eq_false_iff_ne]; omega
      have Hte := hide ht
      clear oc hb4 hB4 hlc hz0 e9 ht hb
      go_upto_region 10 with fail
      refine wp_region_quiet_below (by kernel_rfl) (by kernel_rfl) ?_
      repeat (go_big_quiet_step (fail))
      refine wpQuiet_nil ?_
      rintro w5 ⟨⟨dq, osq⟩, hw5⟩
      have b5 : Below w4.heap.size w4 w5 := by rw [hw5]; exact below_regrown w4 dq osq
      have HB5 := hide (HB4.out.trans (b5.mono HB4.out.size))
      have HCc : Hid (∀ V, Below w5.heap.size w5 V → ∀ j (h : j < C.length), V.cell? ⟨gb, goff + j, none⟩ = some (.int .i64 (idAt l C[j]))) := hide (fun V hV j h => by
        have h9 := RdI.allC ((Hoc.out.below b5 (Nat.le_refl _)).below hV (Nat.le_refl _)) (by simp) j (by simpa using h)
        rw [List.getElem_map] at h9
        exact h9)
      clear hw5 ci cg z4 gc b5 Hoc hCi ht0 ht1 hCz Hte HCt
      go_wp2
      go_loopw [7, 6] (fun kv pv wr2 => ∃ k : Nat, k ≤ C.length ∧ kv = .int .i64 (k : Int) ∧ pv = .int .i64 (if k = 0 then -1 else ((C[k - 1]?).map (idAt l)).getD 0) ∧ Below w5.heap.size w5 wr2) (fun kv _ _ => C.length - (intOf kv).toNat)
      case atStart => exact ⟨0, Nat.zero_le _, rfl, rfl, Below.refl _ _⟩
      case round =>
        obtain ⟨k, hk, rfl, rfl, hbk⟩ := hrel
        have hBk := HB5.out.trans (hbk.mono HB5.out.size)
        by_cases hkl : k < C.length
        · have hki : (k : Int) < (C.length : Int) := by omega
          have hk0 : (0 : Int) ≤ (k : Int) := by omega
          have hqb := HP.out k C[k] (List.getElem?_eq_getElem hkl)
          have hxl := HCL.out C[k] (List.getElem_mem hkl)
          have hex := HEx.out C[k] (List.getElem_mem hkl)
          have hnx : Hid ((if k + 1 = 0 then (-1 : Int) else ((C[k + 1 - 1]?).map (idAt l)).getD 0) = idAt l C[k]) := hide (by rw [if_neg (by omega), Nat.add_sub_cancel, List.getElem?_eq_getElem hkl]; rfl)
          have hcc : Hid (∀ V, Below w5.heap.size w5 V → V.cell? ⟨gb, goff + k, none⟩ = some (.int .i64 (idAt l C[k]))) := hide (fun V hV => HCc.out V hV k hkl)
          have HAk := hide (HA.out (idAt l C[k]) wr hBk)
          unfold BaP at HAk
          have hatx : atI l (idAt l C[k]) = ((C[k] : Nat) : Int) := by rw [idAt_eq hxl]; exact at_id Ht.out hxl
          rw [baK_yes hxl hatx, hatx, decide_eq_true (show (0 : Int) ≤ ((C[k] : Nat) : Int) by omega)] at HAk
          rw [qbAt_eq hxl] at hqb
          clear hatx
          generalize hpv : (if k = 0 then (-1 : Int) else ((C[k - 1]?).map (idAt l)).getD 0) = pv at hqb ⊢
          clear hpv
          generalize idAt l C[k] = dx at hex hnx hcc HAk
          generalize l[C[k]] = lx at HAk hqb
          obtain ⟨id', ep, rd, md, qr, qb, qw, tr, tw, th, ts, en, nx, rt⟩ := lx
          simp only at hqb
          subst hqb
          simp only [bkV] at HAk
          have hc1 := hcc.out wr hbk
          go_wp2_with fail
          refine HAk.out.mono ?_
          rintro e w6 ⟨v6, rfl, o6, -, hb6⟩
          obtain ⟨aq, cq, aw, cw, ah, ch, at_, ct, an, cn, rfl⟩ := o6.rd.shapes9
          simp only
          obtain ⟨w7, hw7⟩ : ∃ x, w6.alloc (.cells #[.int .i64 id', .int .i64 ep, .int .i64 rd, .string md, .int .i64 qr, .int .i64 qb, .slice aq qw.length cq, .int .i64 tr, .slice aw tw.length cw, .slice ah th.length ch, .slice at_ ts.length ct, .bool en, .slice an nx.length cn, .string rt] 37) = x := ⟨_, rfl⟩
          have b7 : Below w6.heap.size w6 w7 := by rw [← hw7]; exact (Below.refl _ w6).alloc (Nat.le_refl _) _
          have k7 : Blk w7 w6.heap.size 37 [.int .i64 id', .int .i64 ep, .int .i64 rd, .string md, .int .i64 qr, .int .i64 qb, .slice aq qw.length cq, .int .i64 tr, .slice aw tw.length cw, .slice ah th.length ch, .slice at_ ts.length ct, .bool en, .slice an nx.length cn, .string rt] := by rw [← hw7]; exact Blk.new w6 _ _
          have hb57 : Below w5.heap.size w5 w7 := (hbk.trans (hb6.mono hbk.size)).trans (b7.mono (by have := hbk.size; have := hb6.size; omega))
          have hB7 := HB5.out.trans (hb57.mono HB5.out.size)
          have y5 := k7.cell 5
          simp only [List.getElem?_cons_zero, List.getElem?_cons_succ] at y5
          have yc := hcc.out w7 hb57
          have yi := HI.out w7 hB7
          have g5 := fun (d : Nat) (os : Array Obj) => cell_regrown y5 d os
          have gcc := fun (d : Nat) (os : Array Obj) => cell_regrown yc d os
          have gi := fun (d : Nat) (os : Array Obj) => cell_regrown yi d os
          have HXk : Hid (∀ (d : Nat) (os : Array Obj), Calls Try.prog 13 #[.slice (some ⟨b, off, none⟩) l.length cap, .int .i64 dx, .int .i64 di] («Sort».grow (redrawn w7 d) os) fun e w'' => e = .returned (.bool true) ∧ ∃ p : Regrown, w'' = «Sort».grow (redrawn w7 p.d) p.os) := hide (fun d os => Calls.regrown_of (by
            have h9 := HX.out dx di («Sort».grow (redrawn w7 d) os) (hB7.trans ((below_regrown w7 d os).mono hB7.size))
            rw [hex] at h9
            exact h9))
          have HB57 := hide hb57
          have HW7 := hide hw7
          clear o6 hb6 b7 k7 hb57 hB7 HAk hc1 hw7 hbk hBk
          go_upto_region 17 with fail
          rw [HW7.out]
          clear HW7
          refine wp_region_quiet_below (by kernel_rfl) (by kernel_rfl) ?_
          repeat (go_big_quiet_step ((go_at_call 13; exact HXk.out _ _)))
          refine wpQuiet_nil ?_
          rintro w8 ⟨⟨d8, os8⟩, hw8⟩
          have b8 : Below w7.heap.size w7 w8 := by rw [hw8]; exact below_regrown w7 d8 os8
          have HB58 := hide (HB57.out.trans (b8.mono HB57.out.size))
          have y8 := hcc.out w8 HB58.out
          clear hw8 b8 g5 gcc gi y5 yc yi HXk HB57
          go_wp2
          go_roundw
          case rel => exact ⟨k + 1, by omega, by go_num, by rw [hnx.out], HB58.out⟩
          case measure => simp [intOf]; omega
        · have HBk := hide hBk
          have HEk := hide (HX.out (-1) di wr hBk)
          rw [HEr.out] at HEk
          have yi := HI.out wr hBk
          clear hbk hBk
          go_wp2_with fail
          refine HEk.out.mono ?_
          rintro e w6 ⟨rfl, hb6⟩
          have HB6 := hide (HBk.out.trans (hb6.mono HBk.out.size))
          clear hb6 yi
          go_wp2
          go_roundw
          case rel => exact ⟨i + 1, by omega, by go_num, HB6.out⟩
          case measure => simp [intOf]; omega
    · have HCr := hide (HC.out (-1) wr hb)
      rw [HR0.out] at HCr
      have HB := hide hb
      clear hb
      go_wp2_with fail
      refine HCr.out.mono ?_
      rintro e w4 ⟨cv4, rfl, oc, hb4⟩
      obtain ⟨ca, cc, rfl⟩ := oc.rd.shape
      have HBf := hide (hB2.trans ((HB.out.trans (hb4.mono HB.out.size)).mono hB2.size))
      clear oc hb4 HB
      simp only [List.length_nil]
      go_wp2
      go_ret
      exact ⟨rfl, HBf.out⟩

set_option maxRecDepth 100000 in
theorem fnChains_lifted (os : Os) (started : os.Started) (H : Type) (enc : TypeId × Value → H) :
    ReturnsInHanded {} Try.checked os 3 .any (Rows.fnChainsSpec.pre6 enc Try.prog Try.f3 Rows.fnChainsRow.domain false) (Rows.fnChainsSpec.post enc Try.prog Try.f3 false true false false) := by
  refine returnsInHanded_of_change (C := Try.checked) fnChains_own started (by kernel_rfl) Try.func3
    (ChangeSpec.witness6 (enc := enc) (C := Try.checked) false ⟨#[], #[.slice none 0 0], []⟩ 8 (by kernel_rfl) (by kernel_rfl) (by kernel_rfl) (by kernel_rfl)) ?_
  intro W base args ds gs before hval0 hW hcnd _
  have hval : ∀ (j : Nat) t v, Try.f3.params[j]? = some t → args[j]? = some v → Value.okWide Try.prog W .any base t v := hval0
  have hW' := hW
  obtain ⟨p, q, hA0, hV, rfl, hfz, hnd⟩ := hW
  have hA : DataW.TrodAll enc Try.prog W 0 (fun _ => true) true Try.f3.params.toList args.toList ds p := hA0
  rw [Try.params3] at hA hval
  obtain ⟨v0, vs0, d0, ds0, p0, q0, hargs, rfl, rfl, h0, r0⟩ := trodAll_cons hA
  obtain ⟨rfl, rfl, rfl⟩ := trodAll_nil r0
  obtain rfl : args = #[v0] := by cases args; simp_all
  obtain ⟨rfl, rfl⟩ := trodVars_none hV
  obtain ⟨a0, len0, cap0, rfl⟩ := okWide_slice Try.underlying22 (hval 0 22 v0 rfl rfl)
  have k0 := h0
  have lt0 : ∀ x ∈ p0, x.block < W.heap.size := by obtain ⟨m, hm⟩ := k0; exact DataW.trod_lt m _ _ _ hm
  obtain ⟨z0, w0⟩ : ∃ zs, IsRow .u8 W a0 len0 cap0 zs := by
    obtain ⟨fuel, hf⟩ := h0
    rcases open_ints Try.underlying22 Try.underlying5 (by kernel_rfl) hf with ⟨hcs, _⟩ | ⟨x, l, c, zs, hcs, _, hl, hm, hz, _, hcell, hwz⟩
    · simp [Value.cells] at hcs
      obtain ⟨rfl, rfl, rfl⟩ := hcs
      exact ⟨[], .inl ⟨rfl, rfl, rfl, rfl⟩⟩
    · simp [Value.cells] at hcs
      obtain ⟨rfl, rfl, rfl⟩ := hcs
      exact ⟨zs, .inr ⟨_, rfl, hl, hm, by simpa using hz, hcell, hwz⟩⟩
  clear hA0 hval0
  refine (fnChains_walk a0 len0 cap0 z0 W w0).mono fun e W' ⟨he, bel⟩ => ?_
  subst he
  exact ⟨_, rfl, _, _, _, [], _, [], hW', trodAll_mk1 (shut_bool Try.underlying4 _), (trodAll_cons_mk (Below.trod fnChains_laidOut (by kernel_rfl) (of_decide_eq_true (by kernel_rfl)) k0 bel lt0) trodAll_mk0), rfl, bel.frame _, fun h => by cases h⟩

theorem fnChains_holds : Rows.FnChainsSaid :=
  OpenClaim.holds_of_wide 3 Try.f3 rfl rfl rfl rfl rfl rfl rfl ⟨rfl, rfl, rfl, rfl, rfl⟩ rfl rfl rfl rfl rfl (by kernel_rfl) Try.func3 (by kernel_rfl)
    (of_decide_eq_true (by kernel_rfl)) (by unfold Func.isWrapper; first | (rw [if_pos (by decide +kernel)]; kernel_rfl) | (rw [if_neg (by decide +kernel)]; exact ⟨rfl, rfl⟩))
    (fun os started H enc _ => fnChains_lifted os started H enc)

end Go.Proofs.Ytbjeonnaannofaa
