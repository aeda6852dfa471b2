/- The landed code's AddTo. -/
import Derived.Test.YtbjeonnaannofaaZaTrSrch
import Derived.Test.YtbjeonnaannofaaZaTrImpl
namespace Go.Proofs.Ytbjeonnaannofaa
open Go.RowKit
set_option linter.unusedVariables false

set_option maxRecDepth 20000 in
set_option maxHeartbeats 4000000 in
theorem implAddTo_any (v : Value) (l : List Bk) (b : Bk) (bv : Bv) (w : World) (hr : RdKs w v l) (hrb : RdK w b bv) (hl : l.length ≤ 3999998) (hf : ∀ x ∈ l, FewK x) (hfb : FewK b) (hbd : ∀ x ∈ l, -9223372036854775808 ≤ x.tr ∧ x.tr ≤ 9223372036854775807) (hbb : -9223372036854775808 ≤ b.tr ∧ b.tr ≤ 9223372036854775807) :
    Calls Try.prog 15 #[v, bkV b bv] w fun e w' => ∃ v', e = .returned (.tuple #[v', .bool (adS l b).2]) ∧ OwnKs w.heap.size w' v' (adS l b).1 ∧ Below w.heap.size w w' := by
  obtain ⟨a, cap, rfl⟩ := hr.shape
  obtain ⟨aq, cq, aw, cw, ah, ch, at_, ct, an, cn, rfl⟩ := hrb.shapes9
  obtain ⟨X, hX⟩ : ∃ X, adS l b = X := ⟨_, rfl⟩
  rw [hX]
  have Had : Hid ((if treeB (insK (fiF l b.id) b l) = true then (insK (fiF l b.id) b l, true) else (l, false)) = X) := hide (by rw [← hX, ← ad_same]; rfl)
  clear hX
  have hfi := fiF_le l b.id
  have Hfew : Hid (∀ x ∈ insK (fiF l b.id) b l, FewK x) := hide (fun x hx => by
    rcases insK_mem x hx with rfl | h
    · exact hfb
    · exact hf x h)
  have Hbd : Hid (∀ x ∈ insK (fiF l b.id) b l, -9223372036854775808 ≤ x.tr ∧ x.tr ≤ 9223372036854775807) := hide (fun x hx => by
    rcases insK_mem x hx with rfl | h
    · exact hbb
    · exact hbd x h)
  have HlI : Hid ((insK (fiF l b.id) b l).length ≤ 4000000) := hide (by rw [insK_len]; omega)
  have HT := hide (fun V v (h : RdKs V v (insK (fiF l b.id) b l)) => implTreeOk_any v (insK (fiF l b.id) b l) V h HlI.out Hfew.out Hbd.out)
  have HLI := hide (fun V v (h : RdKs V v (insK (fiF l b.id) b l)) => h.shape)
  have HIn := hide (fun base w1 V G v bv h1 h2 h3 h4 h5 h6 hb => insertK_any w1 V base (fiF l b.id) G v l b bv h1 h2 h3 h4 h5 h6 hfi (by omega) hb)
  have HCb := hide (fun V h => implCopiedK_any b ⟨.slice aq b.qw.length cq, .slice aw b.tw.length cw, .slice ah b.th.length ch, .slice at_ b.ts.length ct, .slice an b.nx.length cn⟩ V h hfb)
  have HCl := hide (fun V h => copiedKs_any (.slice a l.length cap) l V h (by omega) hf)
  have hfz : fiZ l b.id = if fiF l b.id < l.length then (fiF l b.id : Int) else -1 := rfl
  have HFd := hide (fun B V h hB => adFind_any (.slice a l.length cap) l b.id B V h (by omega) hB)
  rw [hfz] at HFd
  clear hfz Hfew Hbd HlI hf hfb hbd hbb
  generalize insK (fiF l b.id) b l = I at Had HT HLI HIn
  generalize fiF l b.id = K at hfi HIn HFd
  obtain ⟨id, ep, rd, md, qr, qb, qw, tr, tw, th, ts, en, nx, rt⟩ := b
  simp only [bkV] at *
  obtain ⟨w1, hw1⟩ : ∃ x, w.alloc (.cells #[.int .i64 id, .int .i64 ep, .int .i64 rd, .string md, .int .i64 qr, .int .i64 qb, .slice aq qw.length cq, .int .i64 tr, .slice aw tw.length cw, .slice ah th.length ch, .slice at_ ts.length ct, .bool en, .slice an nx.length cn, .string rt] 37) = x := ⟨_, rfl⟩
  have b1 : Below w.heap.size w w1 := by rw [← hw1]; exact (Below.refl _ w).alloc (Nat.le_refl _) _
  have k1 : Blk w1 w.heap.size 37 [.int .i64 id, .int .i64 ep, .int .i64 rd, .string md, .int .i64 qr, .int .i64 qb, .slice aq qw.length cq, .int .i64 tr, .slice aw tw.length cw, .slice ah th.length ch, .slice at_ ts.length ct, .bool en, .slice an nx.length cn, .string rt] := by rw [← hw1]; exact Blk.new w _ _
  have HFd1 := hide (HFd.out w.heap.size w1 (hr.below b1 (Nat.le_refl _)) (k1.cell 0))
  have Hr := hide (fun V (hV : Below w1.heap.size w1 V) => (hr.below b1 (Nat.le_refl _)).below hV (Nat.le_refl _))
  have Hrb := hide (fun V (hV : Below w1.heap.size w1 V) => (hrb.below b1 (Nat.le_refl _)).below hV (Nat.le_refl _))
  have HK := hide (fun V (hV : Below w1.heap.size w1 V) => k1.below hV k1.lt)
  have HB1 := hide b1
  clear hr hrb k1 b1 HFd
  have hmf : ∀ (fn : Fn) (first cap : Array Value) (w : World), (Instr.makeFunc fn first cap).run Try.prog w = .ok (.func fn first cap) w := fun _ _ _ _ => rfl
  by_cases hKl : K < l.length
  · rw [if_pos hKl] at HFd1
    have hK0 : ¬ ((K : Int) < 0) := by omega
    clear hfi
    go_enter Try.func15, Try.ntmps15
    go_wp2_with fail
    refine HFd1.out.mono ?_
    rintro e w2 ⟨rfl, hb2⟩
    have HSx : Hid (∀ W, Below w2.heap.size w2 W → (W.cell? ⟨w.heap.size, 0, none⟩ = some (.int .i64 id) ∧ W.cell? ⟨w.heap.size, 1, none⟩ = some (.int .i64 ep) ∧ W.cell? ⟨w.heap.size, 2, none⟩ = some (.int .i64 rd) ∧ W.cell? ⟨w.heap.size, 3, none⟩ = some (.string md) ∧ W.cell? ⟨w.heap.size, 4, none⟩ = some (.int .i64 qr) ∧ W.cell? ⟨w.heap.size, 5, none⟩ = some (.int .i64 qb) ∧ W.cell? ⟨w.heap.size, 6, none⟩ = some (.slice aq qw.length cq) ∧ W.cell? ⟨w.heap.size, 7, none⟩ = some (.int .i64 tr) ∧ W.cell? ⟨w.heap.size, 8, none⟩ = some (.slice aw tw.length cw) ∧ W.cell? ⟨w.heap.size, 9, none⟩ = some (.slice ah th.length ch) ∧ W.cell? ⟨w.heap.size, 10, none⟩ = some (.slice at_ ts.length ct) ∧ W.cell? ⟨w.heap.size, 11, none⟩ = some (.bool en) ∧ W.cell? ⟨w.heap.size, 12, none⟩ = some (.slice an nx.length cn) ∧ W.cell? ⟨w.heap.size, 13, none⟩ = some (.string rt))) := hide (fun W hW => by
      have a1 := HK.out W (hb2.trans (hW.mono hb2.size))
      exact ⟨a1.cell 0, a1.cell 1, a1.cell 2, a1.cell 3, a1.cell 4, a1.cell 5, a1.cell 6, a1.cell 7, a1.cell 8, a1.cell 9, a1.cell 10, a1.cell 11, a1.cell 12, a1.cell 13⟩)
    have HR2 := hide (fun V (hV : Below w2.heap.size w2 V) => Hr.out V (hb2.trans (hV.mono hb2.size)))
    have HRb2 := hide (fun V (hV : Below w2.heap.size w2 V) => Hrb.out V (hb2.trans (hV.mono hb2.size)))
    have HB2 := hide (HB1.out.trans (hb2.mono HB1.out.size))
    have bD : Below w2.heap.size w2 w2.drew := (Below.refl _ w2).drew
    have hS0 := HSx.out _ bD
    have rD := HR2.out _ bD
    clear hb2 HFd1 hw1 hmf Hr Hrb HK HB1
    go_wp2
    go_region_held_law (fun w' => w'.cell? ⟨w.heap.size, 0, none⟩ = some (.int .i64 id) ∧ w'.cell? ⟨w.heap.size, 1, none⟩ = some (.int .i64 ep) ∧ w'.cell? ⟨w.heap.size, 2, none⟩ = some (.int .i64 rd) ∧ w'.cell? ⟨w.heap.size, 3, none⟩ = some (.string md) ∧ w'.cell? ⟨w.heap.size, 4, none⟩ = some (.int .i64 qr) ∧ w'.cell? ⟨w.heap.size, 5, none⟩ = some (.int .i64 qb) ∧ w'.cell? ⟨w.heap.size, 6, none⟩ = some (.slice aq qw.length cq) ∧ w'.cell? ⟨w.heap.size, 7, none⟩ = some (.int .i64 tr) ∧ w'.cell? ⟨w.heap.size, 8, none⟩ = some (.slice aw tw.length cw) ∧ w'.cell? ⟨w.heap.size, 9, none⟩ = some (.slice ah th.length ch) ∧ w'.cell? ⟨w.heap.size, 10, none⟩ = some (.slice at_ ts.length ct) ∧ w'.cell? ⟨w.heap.size, 11, none⟩ = some (.bool en) ∧ w'.cell? ⟨w.heap.size, 12, none⟩ = some (.slice an nx.length cn) ∧ w'.cell? ⟨w.heap.size, 13, none⟩ = some (.string rt)) (first | with_reducible exact hS0 | with_reducible exact hS3 | with_reducible exact hS4 | with_reducible exact hS4a | with_reducible exact hS5) ((first
      | (go_at_call 49; (with_reducible refine (HIn.out w2.heap.size w3 _ _ _ _ oL bI kI gI oI hin4 zI).mono ?_); rintro e w5 ⟨v5, rfl, o5, hb5⟩; have hB5 : Below w2.heap.size w2 w5 := b24.trans hb5; have hS5 := HSx.out _ hB5; obtain ⟨a5, c5, hv5⟩ := HLI.out _ _ o5.rd; subst hv5)
      | (go_at_call 41; (with_reducible refine (HCb.out w3 rB3).mono ?_); rintro e w4 ⟨v4, rfl, o4, hin4, hb4⟩; obtain ⟨aq2, cq2, aw2, cw2, ah2, ch2, at2, ct2, an2, cn2, hv4⟩ := o4.rd.shapes9; subst hv4; (try simp only at o4 hin4); have bI : Below w3.heap.size w3 (w4.alloc (.cells #[.int .i64 id, .int .i64 ep, .int .i64 rd, .string md, .int .i64 qr, .int .i64 qb, .slice aq2 qw.length cq2, .int .i64 tr, .slice aw2 tw.length cw2, .slice ah2 th.length ch2, .slice at2 ts.length ct2, .bool en, .slice an2 nx.length cn2, .string rt] 37)) := hb4.alloc hb4.size _; have b24 := bL.trans (bI.mono bL.size); have hS4 := HSx.out _ (bL.trans (hb4.mono bL.size)); have hS4a := HSx.out _ b24; have kI : Blk (w4.alloc (.cells #[.int .i64 id, .int .i64 ep, .int .i64 rd, .string md, .int .i64 qr, .int .i64 qb, .slice aq2 qw.length cq2, .int .i64 tr, .slice aw2 tw.length cw2, .slice ah2 th.length ch2, .slice at2 ts.length ct2, .bool en, .slice an2 nx.length cn2, .string rt] 37)) w4.heap.size 37 (bkC ⟨id, ep, rd, md, qr, qb, qw, tr, tw, th, ts, en, nx, rt⟩ ⟨.slice aq2 qw.length cq2, .slice aw2 tw.length cw2, .slice ah2 th.length ch2, .slice at2 ts.length ct2, .slice an2 nx.length cn2⟩) := Blk.new w4 37 _; have gI := hb4.size; have oI : OwnK w3.heap.size (w4.alloc (.cells #[.int .i64 id, .int .i64 ep, .int .i64 rd, .string md, .int .i64 qr, .int .i64 qb, .slice aq2 qw.length cq2, .int .i64 tr, .slice aw2 tw.length cw2, .slice ah2 th.length ch2, .slice at2 ts.length ct2, .bool en, .slice an2 nx.length cn2, .string rt] 37)) ⟨id, ep, rd, md, qr, qb, qw, tr, tw, th, ts, en, nx, rt⟩ ⟨.slice aq2 qw.length cq2, .slice aw2 tw.length cw2, .slice ah2 th.length ch2, .slice at2 ts.length ct2, .slice an2 nx.length cn2⟩ := o4.below9 ((Below.refl _ w4).alloc (Nat.le_refl _) _) (Nat.le_refl _))
      | (go_at_call 50; (with_reducible refine (HCl.out w2.drew rD).mono ?_); rintro e w3 ⟨v3, rfl, o3, hb3⟩; have bL : Below w2.heap.size w2 w3 := bD.trans hb3; have hS3 := HSx.out _ bL; have rB3 := HRb2.out _ bL; have oL : OwnKs w2.heap.size w3 v3 l := o3; have zI := bL.size; obtain ⟨a3, c3, hv3⟩ := o3.rd.shape; subst hv3)))
    have O5 := hide o5
    have HB5 := hide hB5
    clear hS0 hS3 hS4 hS4a hS5 o3 oL o4 oI kI bI b24 bL rB3 rD hb3 hb4 hb5 bD o5 hB5 hin4 gI zI HIn HCb HRb2 HSx
    go_wp2_with fail
    refine (HT.out _ _ O5.out.rd).mono ?_
    rintro e w6 ⟨rfl, hb6⟩
    have hB6 : Below w2.heap.size w2 w6 := HB5.out.trans (hb6.mono HB5.out.size)
    cases hI : treeB I
    · rw [hI, if_neg (by simp)] at Had
      have HC6 := hide (HCl.out w6 (HR2.out w6 hB6))
      have HBw := hide (HB2.out.trans (hB6.mono HB2.out.size))
      clear hI hB6 hb6
      go_wp2_with fail
      refine HC6.out.mono ?_
      rintro e w7 ⟨v7, rfl, o7, hb7⟩
      obtain ⟨a7, c7, rfl⟩ := o7.rd.shape
      go_wp2
      go_ret2
      have := Had.out
      subst this
      exact ⟨.slice a7 l.length c7, rfl, o7.mono9L HBw.out.size, HBw.out.trans (hb7.mono HBw.out.size)⟩
    · rw [hI, if_pos rfl] at Had
      have HBw := hide (HB2.out.trans (hB6.mono HB2.out.size))
      have O6 := hide (O5.out.below hb6 (Nat.le_refl _))
      clear hI hB6 hb6
      go_wp2
      go_ret2
      have := Had.out
      subst this
      exact ⟨.slice a5 I.length c5, rfl, O6.out.mono9L HB2.out.size, HBw.out⟩
  · obtain rfl : K = l.length := by omega
    rw [if_neg hKl] at HFd1
    clear hfi hKl
    go_enter Try.func15, Try.ntmps15
    go_wp2_with fail
    refine HFd1.out.mono ?_
    rintro e w2 ⟨rfl, hb2⟩
    have HSx : Hid (∀ W, Below w2.heap.size w2 W → (W.cell? ⟨w.heap.size, 0, none⟩ = some (.int .i64 id) ∧ W.cell? ⟨w.heap.size, 1, none⟩ = some (.int .i64 ep) ∧ W.cell? ⟨w.heap.size, 2, none⟩ = some (.int .i64 rd) ∧ W.cell? ⟨w.heap.size, 3, none⟩ = some (.string md) ∧ W.cell? ⟨w.heap.size, 4, none⟩ = some (.int .i64 qr) ∧ W.cell? ⟨w.heap.size, 5, none⟩ = some (.int .i64 qb) ∧ W.cell? ⟨w.heap.size, 6, none⟩ = some (.slice aq qw.length cq) ∧ W.cell? ⟨w.heap.size, 7, none⟩ = some (.int .i64 tr) ∧ W.cell? ⟨w.heap.size, 8, none⟩ = some (.slice aw tw.length cw) ∧ W.cell? ⟨w.heap.size, 9, none⟩ = some (.slice ah th.length ch) ∧ W.cell? ⟨w.heap.size, 10, none⟩ = some (.slice at_ ts.length ct) ∧ W.cell? ⟨w.heap.size, 11, none⟩ = some (.bool en) ∧ W.cell? ⟨w.heap.size, 12, none⟩ = some (.slice an nx.length cn) ∧ W.cell? ⟨w.heap.size, 13, none⟩ = some (.string rt))) := hide (fun W hW => by
      have a1 := HK.out W (hb2.trans (hW.mono hb2.size))
      exact ⟨a1.cell 0, a1.cell 1, a1.cell 2, a1.cell 3, a1.cell 4, a1.cell 5, a1.cell 6, a1.cell 7, a1.cell 8, a1.cell 9, a1.cell 10, a1.cell 11, a1.cell 12, a1.cell 13⟩)
    have HR2 := hide (fun V (hV : Below w2.heap.size w2 V) => Hr.out V (hb2.trans (hV.mono hb2.size)))
    have HRb2 := hide (fun V (hV : Below w2.heap.size w2 V) => Hrb.out V (hb2.trans (hV.mono hb2.size)))
    have HB2 := hide (HB1.out.trans (hb2.mono HB1.out.size))
    have bD : Below w2.heap.size w2 w2.drew := (Below.refl _ w2).drew
    have hS0 := HSx.out _ bD
    have rD := HR2.out _ bD
    clear hb2 HFd1 hw1 hmf Hr Hrb HK HB1
    go_wp2
    go_region_held_law (fun w' => w'.cell? ⟨w.heap.size, 0, none⟩ = some (.int .i64 id) ∧ w'.cell? ⟨w.heap.size, 1, none⟩ = some (.int .i64 ep) ∧ w'.cell? ⟨w.heap.size, 2, none⟩ = some (.int .i64 rd) ∧ w'.cell? ⟨w.heap.size, 3, none⟩ = some (.string md) ∧ w'.cell? ⟨w.heap.size, 4, none⟩ = some (.int .i64 qr) ∧ w'.cell? ⟨w.heap.size, 5, none⟩ = some (.int .i64 qb) ∧ w'.cell? ⟨w.heap.size, 6, none⟩ = some (.slice aq qw.length cq) ∧ w'.cell? ⟨w.heap.size, 7, none⟩ = some (.int .i64 tr) ∧ w'.cell? ⟨w.heap.size, 8, none⟩ = some (.slice aw tw.length cw) ∧ w'.cell? ⟨w.heap.size, 9, none⟩ = some (.slice ah th.length ch) ∧ w'.cell? ⟨w.heap.size, 10, none⟩ = some (.slice at_ ts.length ct) ∧ w'.cell? ⟨w.heap.size, 11, none⟩ = some (.bool en) ∧ w'.cell? ⟨w.heap.size, 12, none⟩ = some (.slice an nx.length cn) ∧ w'.cell? ⟨w.heap.size, 13, none⟩ = some (.string rt)) (first | with_reducible exact hS0 | with_reducible exact hS3 | with_reducible exact hS4 | with_reducible exact hS4a | with_reducible exact hS5) ((first
      | (go_at_call 49; (with_reducible refine (HIn.out w2.heap.size w3 _ _ _ _ oL bI kI gI oI hin4 zI).mono ?_); rintro e w5 ⟨v5, rfl, o5, hb5⟩; have hB5 : Below w2.heap.size w2 w5 := b24.trans hb5; have hS5 := HSx.out _ hB5; obtain ⟨a5, c5, hv5⟩ := HLI.out _ _ o5.rd; subst hv5)
      | (go_at_call 41; (with_reducible refine (HCb.out w3 rB3).mono ?_); rintro e w4 ⟨v4, rfl, o4, hin4, hb4⟩; obtain ⟨aq2, cq2, aw2, cw2, ah2, ch2, at2, ct2, an2, cn2, hv4⟩ := o4.rd.shapes9; subst hv4; (try simp only at o4 hin4); have bI : Below w3.heap.size w3 (w4.alloc (.cells #[.int .i64 id, .int .i64 ep, .int .i64 rd, .string md, .int .i64 qr, .int .i64 qb, .slice aq2 qw.length cq2, .int .i64 tr, .slice aw2 tw.length cw2, .slice ah2 th.length ch2, .slice at2 ts.length ct2, .bool en, .slice an2 nx.length cn2, .string rt] 37)) := hb4.alloc hb4.size _; have b24 := bL.trans (bI.mono bL.size); have hS4 := HSx.out _ (bL.trans (hb4.mono bL.size)); have hS4a := HSx.out _ b24; have kI : Blk (w4.alloc (.cells #[.int .i64 id, .int .i64 ep, .int .i64 rd, .string md, .int .i64 qr, .int .i64 qb, .slice aq2 qw.length cq2, .int .i64 tr, .slice aw2 tw.length cw2, .slice ah2 th.length ch2, .slice at2 ts.length ct2, .bool en, .slice an2 nx.length cn2, .string rt] 37)) w4.heap.size 37 (bkC ⟨id, ep, rd, md, qr, qb, qw, tr, tw, th, ts, en, nx, rt⟩ ⟨.slice aq2 qw.length cq2, .slice aw2 tw.length cw2, .slice ah2 th.length ch2, .slice at2 ts.length ct2, .slice an2 nx.length cn2⟩) := Blk.new w4 37 _; have gI := hb4.size; have oI : OwnK w3.heap.size (w4.alloc (.cells #[.int .i64 id, .int .i64 ep, .int .i64 rd, .string md, .int .i64 qr, .int .i64 qb, .slice aq2 qw.length cq2, .int .i64 tr, .slice aw2 tw.length cw2, .slice ah2 th.length ch2, .slice at2 ts.length ct2, .bool en, .slice an2 nx.length cn2, .string rt] 37)) ⟨id, ep, rd, md, qr, qb, qw, tr, tw, th, ts, en, nx, rt⟩ ⟨.slice aq2 qw.length cq2, .slice aw2 tw.length cw2, .slice ah2 th.length ch2, .slice at2 ts.length ct2, .slice an2 nx.length cn2⟩ := o4.below9 ((Below.refl _ w4).alloc (Nat.le_refl _) _) (Nat.le_refl _))
      | (go_at_call 50; (with_reducible refine (HCl.out w2.drew rD).mono ?_); rintro e w3 ⟨v3, rfl, o3, hb3⟩; have bL : Below w2.heap.size w2 w3 := bD.trans hb3; have hS3 := HSx.out _ bL; have rB3 := HRb2.out _ bL; have oL : OwnKs w2.heap.size w3 v3 l := o3; have zI := bL.size; obtain ⟨a3, c3, hv3⟩ := o3.rd.shape; subst hv3)))
    have O5 := hide o5
    have HB5 := hide hB5
    clear hS0 hS3 hS4 hS4a hS5 o3 oL o4 oI kI bI b24 bL rB3 rD hb3 hb4 hb5 bD o5 hB5 hin4 gI zI HIn HCb HRb2 HSx
    go_wp2_with fail
    refine (HT.out _ _ O5.out.rd).mono ?_
    rintro e w6 ⟨rfl, hb6⟩
    have hB6 : Below w2.heap.size w2 w6 := HB5.out.trans (hb6.mono HB5.out.size)
    cases hI : treeB I
    · rw [hI, if_neg (by simp)] at Had
      have HC6 := hide (HCl.out w6 (HR2.out w6 hB6))
      have HBw := hide (HB2.out.trans (hB6.mono HB2.out.size))
      clear hI hB6 hb6
      go_wp2_with fail
      refine HC6.out.mono ?_
      rintro e w7 ⟨v7, rfl, o7, hb7⟩
      obtain ⟨a7, c7, rfl⟩ := o7.rd.shape
      go_wp2
      go_ret2
      have := Had.out
      subst this
      exact ⟨.slice a7 l.length c7, rfl, o7.mono9L HBw.out.size, HBw.out.trans (hb7.mono HBw.out.size)⟩
    · rw [hI, if_pos rfl] at Had
      have HBw := hide (HB2.out.trans (hB6.mono HB2.out.size))
      have O6 := hide (O5.out.below hb6 (Nat.le_refl _))
      clear hI hB6 hb6
      go_wp2
      go_ret2
      have := Had.out
      subst this
      exact ⟨.slice a5 I.length c5, rfl, O6.out.mono9L HB2.out.size, HBw.out⟩
end Go.Proofs.Ytbjeonnaannofaa
