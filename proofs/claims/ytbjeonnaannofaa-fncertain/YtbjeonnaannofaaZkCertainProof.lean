/- What a drawn certificate makes certain is the one that its block comes behind, of the round just below: the law FnCertain returns true at every code, with no condition. -/
import Derived.Test.YtbjeonnaannofaaRows
import Derived.Test.YtbjeonnaannofaaZkBig
import Derived.Test.YtbjeonnaannofaaZkDrawCm
import Derived.Test.YtbjeonnaannofaaZkTrCm
import Derived.Test.YtbjeonnaannofaaZkKsAt
import Derived.WalkKit
import Derived.ProofKit
import Derived.OpenShut
import Derived.ShutString
import Derived.ChangeOld
import Derived.Below
import Derived.SliceStrings
namespace Go.Proofs.Ytbjeonnaannofaa
open Go.ChangeShapes Go.WideShapes Go.ChangeAt Go.RowKit
open Go.ChangeMaps (open_string shut_string)
set_option linter.unusedVariables false

theorem fnCertain_own : ownKnob Try.prog.godebug = none := by kernel_rfl
theorem fnCertain_laidOut : laidOutB Try.prog = true := by kernel_rfl

theorem cm_pos {l : List Bk} {qr qb : Int} (h : 0 ≤ cmA l qr qb) : ∃ k p, ∃ hk : k < l.length, ∃ hp : p < l.length, atI l qb = (k : Int) ∧ l[k].rd = qr ∧ atI l (cmA l qr qb) = (p : Int) ∧ l[p].rd = qr - 1 ∧ l[k].qb = cmA l qr qb := by
  rcases atI_is l qb with ⟨e1, -⟩ | ⟨k, hk, e1, hid, -⟩
  · rw [cm_1 (by omega)] at h; omega
  · by_cases h1 : l[k].rd = qr
    · rcases atI_is l l[k].qb with ⟨e2, -⟩ | ⟨p, hp, e2, hid2, -⟩
      · rw [cm_3 e1 hk (by omega)] at h; omega
      · by_cases h2 : l[p].rd = qr - 1
        · have e5 := cm_5 e1 hk h1 e2 hp h2
          refine ⟨k, p, hk, hp, e1, h1, ?_, h2, ?_⟩
          · rw [e5, hid2]; exact e2
          · rw [e5, hid2]
        · rw [cm_4 e1 hk e2 hp h2] at h; omega
    · rw [cm_2 e1 hk h1] at h; omega
theorem cm_low {l : List Bk} {qr qb : Int} (hid : ∀ x ∈ l, -1 ≤ x.id) (h : cmA l qr qb < 0) : cmA l qr qb = -1 := by
  rcases atI_is l qb with ⟨e1, -⟩ | ⟨k, hk, e1, -⟩
  · exact cm_1 (by omega)
  · by_cases h1 : l[k].rd = qr
    · rcases atI_is l l[k].qb with ⟨e2, -⟩ | ⟨p, hp, e2, -⟩
      · exact cm_3 e1 hk (by omega)
      · by_cases h2 : l[p].rd = qr - 1
        · have e5 := cm_5 e1 hk h1 e2 hp h2
          have := hid _ (List.getElem_mem hp)
          omega
        · exact cm_4 e1 hk e2 hp h2
    · exact cm_2 e1 hk h1
set_option maxRecDepth 20000 in
set_option maxHeartbeats 8000000 in
theorem fnCertain_walk (a0 : Option Addr) (len0 cap0 : Nat) (z0 : List Int) (w : World) (w0 : IsRow .u8 w a0 len0 cap0 z0) :
    Calls Try.prog 5 #[.slice a0 len0 cap0] w fun e w' => e = .returned (.bool true) ∧ Below w.heap.size w w' := by
  obtain ⟨cd, rfl, hr⟩ := w0.rd
  clear w0
  have hcap : cd.length ≤ 9223372036854775807 := by
    rcases hr with ⟨_, _, _, e, _⟩ | ⟨_, _, cap, _, _, h1, h2, _⟩
    · subst e; simp
    · unfold maxLen at h2; omega
  have Hbig := hide (big_any _ cd w hr hcap)
  by_cases hbig : 1048576 < cd.length
  · rw [decide_eq_true hbig] at Hbig
    clear hr
    go_enter Try.func5, Try.ntmps5
    go_wp2_with fail
    refine Hbig.out.mono ?_
    rintro e w' ⟨rfl, rfl⟩
    go_wp2
    go_ret
    exact ⟨rfl, Below.refl _ _⟩
  rw [decide_eq_false hbig] at Hbig
  have HD := hide (drawCommitOf_any w _ cd hr (by omega))
  clear hr hcap hbig
  go_enter Try.func5, Try.ntmps5
  go_wp2_with fail
  refine Hbig.out.mono ?_
  rintro e w1 ⟨rfl, rfl⟩
  clear Hbig
  go_wp2_with fail
  refine HD.out.mono ?_
  rintro e w2 ⟨v, l, qr, qb, vq, ws, rfl, hr2, hlen, hlk, hqr, hq2, hws, hb2⟩
  obtain ⟨va, vc, rfl⟩ := hr2.shape
  obtain ⟨qa, qc, rfl⟩ := hq2.shape
  simp only [qcV]
  obtain ⟨w3, hw3⟩ : ∃ x, w2.alloc (.cells #[.int .i64 qr, .int .i64 qb, .slice qa ws.length qc] 31) = x := ⟨_, rfl⟩
  have b3 : Below w2.heap.size w2 w3 := by rw [← hw3]; exact (Below.refl _ w2).alloc (Nat.le_refl _) _
  have k3 : Blk w3 w2.heap.size 31 [.int .i64 qr, .int .i64 qb, .slice qa ws.length qc] := by rw [← hw3]; exact Blk.new w2 _ _
  have hrd : ∀ x ∈ l, 0 ≤ x.rd ∧ x.rd ≤ 20000 := fun x hx => by have := (hlk x hx).rd; omega
  have HI := hide (fun V (hV : Below w2.heap.size w2 V) => implCommitOf_any (.slice va l.length vc) l qr qb (.slice qa ws.length qc) ws V (hr2.below hV (Nat.le_refl _)) (hq2.below hV (Nat.le_refl _)) (by omega) hrd)
  have HS := hide (fun V (hV : Below w2.heap.size w2 V) => specCommitOf_any (.slice va l.length vc) l qr qb (.slice qa ws.length qc) ws V (hr2.below hV (Nat.le_refl _)) (hq2.below hV (Nat.le_refl _)) (by omega) hrd (by omega))
  have HB := hide (fun id V (hV : Below w2.heap.size w2 V) => implBlockAt_any (.slice va l.length vc) l id V (hr2.below hV (Nat.le_refl _)) (by omega) (fun b hb => (hlk b hb).few))
  have Hlow := hide (fun h => cm_low (l := l) (qr := qr) (qb := qb) (fun x hx => (hlk x hx).ie.1.1) h)
  have Hpos := hide (fun h => cm_pos (l := l) (qr := qr) (qb := qb) h)
  simp only [qcV] at HI HS
  generalize cmA l qr qb = C at HI HS Hlow Hpos
  have HB2 := hide hb2
  have x0 := k3.cell 0
  have x1 := k3.cell 1
  have x2 := k3.cell 2
  simp only [List.getElem?_cons_zero, List.getElem?_cons_succ] at x0 x1 x2
  have K3 := hide k3
  have Hb3 := hide b3
  have Hw3 := hide hw3
  clear HD hr2 hq2 hrd hb2 k3 b3 hlk hw3
  go_wp2_with fail
  (try rw [Hw3.out])
  refine (HI.out w3 Hb3.out).mono ?_
  rintro e w4 ⟨rfl, hb4⟩
  have b4 := Hb3.out.trans (hb4.mono Hb3.out.size)
  have k4 := K3.out.below hb4 K3.out.lt
  clear x0 x1 x2 Hw3
  have x0 := k4.cell 0
  have x1 := k4.cell 1
  have x2 := k4.cell 2
  simp only [List.getElem?_cons_zero, List.getElem?_cons_succ] at x0 x1 x2
  have K4 := hide k4
  have Hb4 := hide b4
  clear hb4 b4 k4 K3
  go_wp2_with fail
  refine (HS.out w4 Hb4.out).mono ?_
  rintro e w5 ⟨rfl, hb5⟩
  have b5 := Hb4.out.trans (hb5.mono Hb4.out.size)
  have k5 := K4.out.below hb5 K4.out.lt
  clear x0 x1 x2
  have x0 := k5.cell 0
  have x1 := k5.cell 1
  simp only [List.getElem?_cons_zero, List.getElem?_cons_succ] at x0 x1
  have K5 := hide k5
  have Hb5 := hide b5
  have hcc : (C != C) = false := by simp
  clear hb5 b5 k5 K4 HI HS
  by_cases hC : C < 0
  · have hCb : (C == -1) = true := by rw [Hlow.out hC]; rfl
    clear Hlow Hpos
    go_wp2
    go_ret
    exact ⟨rfl, HB2.out.trans (Hb5.out.mono HB2.out.size)⟩
  · obtain ⟨k, p, hk, hp, e1, e2, e3, e4, e5⟩ := Hpos.out (by omega)
    have HE1 := hide e1
    have HE3 := hide e3
    have H2 := hide e2
    have H4 := hide e4
    have H5 := hide e5
    clear e1 e2 e3 e4 e5 Hlow Hpos
    go_wp2_with fail
    refine (HB.out qb w5 Hb5.out).mono ?_
    rintro e w6 ⟨v6, he, o6, -, hb6⟩
    rw [baK_yes hk HE1.out, HE1.out, show decide (0 ≤ (k : Int)) = true from by simp] at he
    rw [baK_yes hk HE1.out] at o6
    subst he
    obtain ⟨aq6, cq6, aw6, cw6, ah6, ch6, at6, ct6, an6, cn6, rfl⟩ := o6.rd.shapes9
    have b6 := Hb5.out.trans (hb6.mono Hb5.out.size)
    have k6 := K5.out.below hb6 K5.out.lt
    simp only [bkV]
    generalize l[k] = B1 at H2 H5
    obtain ⟨w7, hw7⟩ : ∃ x, w6.alloc (.cells #[.int .i64 B1.id, .int .i64 B1.ep, .int .i64 B1.rd, .string B1.md, .int .i64 B1.qr, .int .i64 B1.qb, .slice aq6 B1.qw.length cq6, .int .i64 B1.tr, .slice aw6 B1.tw.length cw6, .slice ah6 B1.th.length ch6, .slice at6 B1.ts.length ct6, .bool B1.en, .slice an6 B1.nx.length cn6, .string B1.rt] 37) = x := ⟨_, rfl⟩
    have b7 : Below w6.heap.size w6 w7 := by rw [← hw7]; exact (Below.refl _ w6).alloc (Nat.le_refl _) _
    have t7 : Blk w7 w6.heap.size 37 [.int .i64 B1.id, .int .i64 B1.ep, .int .i64 B1.rd, .string B1.md, .int .i64 B1.qr, .int .i64 B1.qb, .slice aq6 B1.qw.length cq6, .int .i64 B1.tr, .slice aw6 B1.tw.length cw6, .slice ah6 B1.th.length ch6, .slice at6 B1.ts.length ct6, .bool B1.en, .slice an6 B1.nx.length cn6, .string B1.rt] := by rw [← hw7]; exact Blk.new w6 _ _
    have K7 := hide (k6.below b7 k6.lt)
    have T7 := hide t7
    have Hb7 := hide (b6.trans (b7.mono b6.size))
    have Hw7 := hide hw7
    clear x0 x1 o6 hb6 b6 k6 K5 Hb5 b7 t7 hw7
    go_wp2_with fail
    (try rw [Hw7.out])
    refine (HB.out C w7 Hb7.out).mono ?_
    rintro e w8 ⟨v8, he, o8, -, hb8⟩
    rw [baK_yes hp HE3.out, HE3.out, show decide (0 ≤ (p : Int)) = true from by simp] at he
    rw [baK_yes hp HE3.out] at o8
    subst he
    obtain ⟨aq8, cq8, aw8, cw8, ah8, ch8, at8, ct8, an8, cn8, rfl⟩ := o8.rd.shapes9
    have b8 := Hb7.out.trans (hb8.mono Hb7.out.size)
    have k8 := K7.out.below hb8 K7.out.lt
    have t8 := T7.out.below hb8 T7.out.lt
    simp only [bkV]
    generalize l[p] = B2 at H4
    obtain ⟨w9, hw9⟩ : ∃ x, w8.alloc (.cells #[.int .i64 B2.id, .int .i64 B2.ep, .int .i64 B2.rd, .string B2.md, .int .i64 B2.qr, .int .i64 B2.qb, .slice aq8 B2.qw.length cq8, .int .i64 B2.tr, .slice aw8 B2.tw.length cw8, .slice ah8 B2.th.length ch8, .slice at8 B2.ts.length ct8, .bool B2.en, .slice an8 B2.nx.length cn8, .string B2.rt] 37) = x := ⟨_, rfl⟩
    have b9 : Below w8.heap.size w8 w9 := by rw [← hw9]; exact (Below.refl _ w8).alloc (Nat.le_refl _) _
    have u9 : Blk w9 w8.heap.size 37 [.int .i64 B2.id, .int .i64 B2.ep, .int .i64 B2.rd, .string B2.md, .int .i64 B2.qr, .int .i64 B2.qb, .slice aq8 B2.qw.length cq8, .int .i64 B2.tr, .slice aw8 B2.tw.length cw8, .slice ah8 B2.th.length ch8, .slice at8 B2.ts.length ct8, .bool B2.en, .slice an8 B2.nx.length cn8, .string B2.rt] := by rw [← hw9]; exact Blk.new w8 _ _
    have k9 := k8.below b9 k8.lt
    have t9 := t8.below b9 t8.lt
    have y0 := k9.cell 0
    have y2 := t9.cell 2
    have y5 := t9.cell 5
    have z2 := u9.cell 2
    simp only [List.getElem?_cons_zero, List.getElem?_cons_succ] at y0 y2 y5 z2
    have Hb9 := hide (b8.trans (b9.mono b8.size))
    have m1 : (B1.qb == C) = true := by rw [H5.out]; simp
    have m2 : (B1.rd == qr) = true := by rw [H2.out]; simp
    have m3 : (B2.rd == qr - 1) = true := by rw [H4.out]; simp
    have ew : IntKind.i64.wrap (qr - 1) = qr - 1 := by rw [IntKind.wrap_i64]; omega
    clear o8 hb8 b8 k8 t8 b9 u9 k9 t9 Hw7 K7 T7 Hb7
    go_wp2
    go_ret
    exact ⟨rfl, HB2.out.trans (Hb9.out.mono HB2.out.size)⟩

set_option maxRecDepth 100000 in
theorem fnCertain_lifted (os : Os) (started : os.Started) (H : Type) (enc : TypeId × Value → H) :
    ReturnsInHanded {} Try.checked os 5 .any (Rows.fnCertainSpec.pre6 enc Try.prog Try.f5 Rows.fnCertainRow.domain false) (Rows.fnCertainSpec.post enc Try.prog Try.f5 false true false false) := by
  refine returnsInHanded_of_change (C := Try.checked) fnCertain_own started (by kernel_rfl) Try.func5
    (ChangeSpec.witness6 (enc := enc) (C := Try.checked) false ⟨#[], #[.slice none 0 0], []⟩ 8 (by kernel_rfl) (by kernel_rfl) (by kernel_rfl) (by kernel_rfl)) ?_
  intro W base args ds gs before hval0 hW hcnd _
  have hval : ∀ (j : Nat) t v, Try.f5.params[j]? = some t → args[j]? = some v → Value.okWide Try.prog W .any base t v := hval0
  have hW' := hW
  obtain ⟨p, q, hA0, hV, rfl, hfz, hnd⟩ := hW
  have hA : DataW.TrodAll enc Try.prog W 0 (fun _ => true) true Try.f5.params.toList args.toList ds p := hA0
  rw [Try.params5] at hA hval
  obtain ⟨v0, vs0, d0, ds0, p0, q0, hargs, rfl, rfl, h0, r0⟩ := trodAll_cons hA
  obtain ⟨rfl, rfl, rfl⟩ := trodAll_nil r0
  obtain rfl : args = #[v0] := by cases args; simp_all
  obtain ⟨rfl, rfl⟩ := trodVars_none hV
  obtain ⟨a0, len0, cap0, rfl⟩ := okWide_slice Try.underlying22 (hval 0 22 v0 rfl rfl)
  have k0 := h0
  have lt0 : ∀ x ∈ p0, x.block < W.heap.size := by obtain ⟨m, hm⟩ := k0; exact DataW.trod_lt m _ _ _ hm
  obtain ⟨z0, w0⟩ : ∃ zs, IsRow .u8 W a0 len0 cap0 zs := by
    obtain ⟨fuel, hf⟩ := h0
    rcases open_ints Try.underlying22 Try.underlying5 (by kernel_rfl) hf with ⟨hcs, _⟩ | ⟨x, l, c, zs, hcs, _, hl, hm, hz, _, hcell, hwz⟩
    · simp [Value.cells] at hcs
      obtain ⟨rfl, rfl, rfl⟩ := hcs
      exact ⟨[], .inl ⟨rfl, rfl, rfl, rfl⟩⟩
    · simp [Value.cells] at hcs
      obtain ⟨rfl, rfl, rfl⟩ := hcs
      exact ⟨zs, .inr ⟨_, rfl, hl, hm, by simpa using hz, hcell, hwz⟩⟩
  clear hA0 hval0
  refine (fnCertain_walk a0 len0 cap0 z0 W w0).mono fun e W' ⟨he, bel⟩ => ?_
  subst he
  exact ⟨_, rfl, _, _, _, [], _, [], hW', trodAll_mk1 (shut_bool Try.underlying4 _), (trodAll_cons_mk (Below.trod fnCertain_laidOut (by kernel_rfl) (of_decide_eq_true (by kernel_rfl)) k0 bel lt0) trodAll_mk0), rfl, bel.frame _, fun h => by cases h⟩

theorem fnCertain_holds : Rows.FnCertainSaid :=
  OpenClaim.holds_of_wide 5 Try.f5 rfl rfl rfl rfl rfl rfl rfl ⟨rfl, rfl, rfl, rfl, rfl⟩ rfl rfl rfl rfl rfl (by kernel_rfl) Try.func5 (by kernel_rfl)
    (of_decide_eq_true (by kernel_rfl)) (by unfold Func.isWrapper; first | (rw [if_pos (by decide +kernel)]; kernel_rfl) | (rw [if_neg (by decide +kernel)]; exact ⟨rfl, rfl⟩))
    (fun os started H enc _ => fnCertain_lifted os started H enc)

end Go.Proofs.Ytbjeonnaannofaa
