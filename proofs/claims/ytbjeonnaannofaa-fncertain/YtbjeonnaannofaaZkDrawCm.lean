/- How long what is drawn may be. A drawn tree, and a certificate. -/
import Derived.Test.YtbjeonnaannofaaZkStrs
import Derived.Test.YtbjeonnaannofaaZkDrawLs
import Derived.Test.YtbjeonnaannofaaZkKsApp
namespace Go.Proofs.Ytbjeonnaannofaa
open Go.RowKit
set_option linter.unusedVariables false

set_option maxRecDepth 20000 in
theorem l1Size_any (cv : Value) (code : List UInt8) (most : Nat) (w : World) (hr : RdB w cv code) (hl : code.length ≤ 1048576) (hm : most ≤ 1000) :
    Calls Try.prog 36 #[cv, .int .i64 (most : Int)] w fun e w' => (∃ n : Nat, e = .returned (.int .i64 (n : Int)) ∧ n ≤ most) ∧ w' = w := by
  obtain ⟨a, c, rfl⟩ : ∃ a c, cv = .slice a code.length c := by
    rcases hr with ⟨a, c, h1, h2, -⟩ | ⟨b, off, c, h0, h1, _⟩
    · subst h2; exact ⟨a, c, h1⟩
    · exact ⟨_, c, h1⟩
  clear hr
  obtain ⟨q, hq⟩ : ∃ q : Nat, (code.length : Int) / 12 = (q : Int) := ⟨code.length / 12, by omega⟩
  have hqb : q ≤ 1048576 := by omega
  by_cases h : (most : Int) < 3 + (q : Int)
  · go_enter Try.func36, Try.ntmps36
    go_wp2
    go_ret
    exact ⟨⟨most, rfl, Nat.le_refl _⟩, rfl⟩
  · have h2 : 3 + q ≤ most := by omega
    go_enter Try.func36, Try.ntmps36
    go_wp2
    go_ret
    exact ⟨⟨3 + q, by congr 2, h2⟩, rfl⟩
end Go.Proofs.Ytbjeonnaannofaa

namespace Go.Proofs.Ytbjeonnaannofaa
open Go.RowKit
set_option linter.unusedVariables false

set_option maxRecDepth 20000 in
set_option maxHeartbeats 8000000 in
theorem drawCommitOf_any (w : World) (cv : Value) (code : List UInt8) (hr : RdB w cv code) (hl : code.length ≤ 1048576) :
    Calls Try.prog 20 #[cv] w fun e w' => ∃ (v : Value) (l : List Bk) (qr qb : Int) (vq : Value) (ws : List ByteArray), e = .returned (.tuple #[v, qcV qr qb vq]) ∧ RdKs w' v l ∧ l.length ≤ 1001 ∧ (∀ x ∈ l, Lk x) ∧ (0 ≤ qr ∧ qr ≤ 10001) ∧ RdS w' vq ws ∧ ws.length ≤ 7 ∧ Below w.heap.size w w' := by
  obtain ⟨a, c, rfl⟩ : ∃ a c, cv = .slice a code.length c := by
    rcases hr with ⟨a, c, h1, h2, -⟩ | ⟨b, off, c, h0, h1, _⟩
    · subst h2; exact ⟨a, c, h1⟩
    · exact ⟨_, c, h1⟩
  obtain ⟨w1, hw1⟩ : ∃ x, w.alloc (.cells #[.int .i64 0, .int .i64 0, .slice none 0 0] 31) = x := ⟨_, rfl⟩
  have b1 : Below w.heap.size w w1 := by rw [← hw1]; exact (Below.refl _ w).alloc (Nat.le_refl _) _
  have z1 : w1.heap.size = w.heap.size + 1 := by rw [← hw1]; simp
  have K1 : Hid (Blk w1 w.heap.size 31 [.int .i64 0, .int .i64 0, .slice none 0 0]) := hide (by rw [← hw1]; exact Blk.new w _ _)
  have HN := hide (l1New_any w1 (.slice a code.length c) code (hr.below b1 (Nat.le_refl _)) hl)
  have Hr := hide (hr.below b1 (Nat.le_refl _))
  have HB1 := hide b1
  have Hz1 := hide z1
  clear hr b1 z1
  go_enter Try.func20, Try.ntmps20
  go_wp2_with fail
  refine HN.out.mono ?_
  rintro e w2 ⟨rfl, hc2, hb2⟩
  have HC2 := hide hc2
  have Hr2 := hide (Hr.out.below hb2 (Nat.le_refl _))
  have z2 := hc2.lt
  have K2 := hide (K1.out.below hb2 K1.out.lt)
  clear hc2 hb2 HN Hr K1 hw1
  go_wp2_with fail
  refine (l1Size_any (.slice a code.length c) code 14 w2 Hr2.out hl (by omega)).mono ?_
  rintro e w3 ⟨⟨n, rfl, hn⟩, rfl⟩
  clear Hr2
  go_wp2_with fail
  refine (l10Any_any w1 w3 w1.heap.size _ code n HC2.out hl (by omega)).mono ?_
  rintro e w4 ⟨v, l, rfl, hst, hlen, hlk, hc4, hg4⟩
  obtain ⟨va, vc, rfl⟩ := hst.rd.shape
  have Hst := hide hst
  have Hlk := hide hlk
  have z4 := hg4.size
  have zz := Hz1.out
  have K4 := hide (blk_notg5 K2.out hg4 (by omega))
  have HC4 := hide hc4
  clear hst hlk hc4 hg4 K2 HC2 zz
  have HLAST : Hid (∀ (W : World) (HC : Cur w1 W w1.heap.size (.slice a code.length c) code) (hK : Blk W w.heap.size 31 [.int .i64 0, .int .i64 0, .slice none 0 0]), True) := hide (fun _ _ _ => trivial)
  clear HLAST
  by_cases hl0 : 0 < l.length
  · have hli : (0 : Int) < (l.length : Int) := by omega
    have hlb : decide ((0 : Int) < (l.length : Int)) = true := by simpa using hli
    go_wp2_with fail
    refine (l1Once_any w1 _ w1.heap.size _ code 4 HC4.out hl (by omega) (by omega)).mono ?_
    rintro e w5 ⟨o1, rfl, hc5, hg5⟩
    have z5 := hg5.size
    have zz := Hz1.out
    have K5 := hide (blk_notg5 K4.out hg5 (by omega))
    have Hs5 := hide (Hst.out.call hg5 z2)
    have HC5 := hide hc5
    clear hc5 hg5 K4 HC4 Hst zz
    cases o1
    · go_wp2_with fail
      refine (l1Below_any w1 _ w1.heap.size _ code (l.length : Int) HC5.out hl (by omega) (by omega)).mono ?_
      rintro e w6 ⟨y, rfl, hy, -, hc6, hg6⟩
      have hyl : y < l.length := by have := hy hli; omega
      have z6 := hg6.size
      have zz := Hz1.out
      have K6 := hide (blk_notg5 K5.out hg6 (by omega))
      have Hs6 := hide (Hs5.out.call hg6 z2)
      have HC6 := hide hc6
      clear hc6 hg6 K5 HC5 Hs5 hy zz
      obtain ⟨g, off, hag, hgl, hcell⟩ := Hs6.out.rd.parts9 (by omega)
      obtain ⟨lv, hat, hrl⟩ := hcell y hyl
      subst hag
      obtain ⟨c0, c1, c2, c3, c4, c5, c6, c7, c8, c9, c10, c11, c12, c13⟩ := hat.cells
      have Hbd := hide (Hlk.out _ (List.getElem_mem hyl)).rd
      have Hsh := hide hrl.shapes9
      have hyi : (y : Int) < (l.length : Int) := by omega
      clear hat hrl hcell hgl
      generalize l[y] = ak at c0 c1 c2 c3 c4 c5 c6 c7 c8 c9 c10 c11 c12 c13 Hsh Hbd
      obtain ⟨aq2, cq2, aw2, cw2, ah2, ch2, at2, ct2, an2, cn2, rfl⟩ := Hsh.out
      clear Hsh
      obtain ⟨id2, ep2, rd2, md2, qr2, qb2, qw2, tr2, tw2, th2, ts2, en2, nx2, rt2⟩ := ak
      simp only at c0 c1 c2 c3 c4 c5 c6 c7 c8 c9 c10 c11 c12 c13 Hbd
      obtain ⟨w7, hw7⟩ : ∃ x, w6.alloc (.cells #[.int .i64 id2, .int .i64 ep2, .int .i64 rd2, .string md2, .int .i64 qr2, .int .i64 qb2, .slice aq2 qw2.length cq2, .int .i64 tr2, .slice aw2 tw2.length cw2, .slice ah2 th2.length ch2, .slice at2 ts2.length ct2, .bool en2, .slice an2 nx2.length cn2, .string rt2] 37) = x := ⟨_, rfl⟩
      have b7 : Below w6.heap.size w6 w7 := by rw [← hw7]; exact (Below.refl _ w6).alloc (Nat.le_refl _) _
      have k7 : Blk w7 w6.heap.size 37 [.int .i64 id2, .int .i64 ep2, .int .i64 rd2, .string md2, .int .i64 qr2, .int .i64 qb2, .slice aq2 qw2.length cq2, .int .i64 tr2, .slice aw2 tw2.length cw2, .slice ah2 th2.length ch2, .slice at2 ts2.length ct2, .bool en2, .slice an2 nx2.length cn2, .string rt2] := by rw [← hw7]; exact Blk.new w6 _ _
      have K7 := hide (K6.out.below b7 K6.out.lt)
      have Hs7 := hide (Hs6.out.bel b7)
      have HC7 := hide (HC6.out.below b7 HC6.out.lt)
      have y0 := k7.cell 0
      have y2 := k7.cell 2
      simp only [List.getElem?_cons_zero, List.getElem?_cons_succ] at y0 y2
      have z7 := k7.lt
      have Hw7 := hide hw7
      clear hw7 b7 k7 K6 Hs6 HC6
      go_upto_region 5 with fail
      rw [Hw7.out]
      clear Hw7 c0 c1 c2 c3 c4 c5 c6 c7 c8 c9 c10 c11 c12 c13
      have b8 : Below w7.heap.size w7 (w7.alloc (.cells #[.string { data := #[97] }] 9)) := (Below.refl _ w7).alloc (Nat.le_refl _) _
      have k8 := K7.out.below b8 K7.out.lt
      have e0 := k8.cell 0
      have e1 := k8.cell 1
      have e2 := k8.cell 2
      have f0 := k8.frozen 0
      have f1 := k8.frozen 1
      have f2 := k8.frozen 2
      have y0' := (b8.cell (p := ⟨w6.heap.size, 0, none⟩) z7).trans y0
      have y2' := (b8.cell (p := ⟨w6.heap.size, 2, none⟩) z7).trans y2
      simp only [List.getElem?_cons_zero, List.getElem?_cons_succ] at e0 e1 e2
      have zz := Hz1.out
      have Hs8 := hide ((((Hs7.out.bel b8).set w.heap.size 0 (.int .i64 rd2) (by omega)).set w.heap.size 1 (.int .i64 id2) (by omega)).set w.heap.size 2 (.slice (some ⟨w7.heap.size, 0, none⟩) 1 1) (by omega))
      have R8 : Hid (RdS ((((w7.alloc (.cells #[.string { data := #[97] }] 9)).setCell ⟨w.heap.size, 0, none⟩ (.int .i64 rd2)).setCell ⟨w.heap.size, 1, none⟩ (.int .i64 id2)).setCell ⟨w.heap.size, 2, none⟩ (.slice (some ⟨w7.heap.size, 0, none⟩) 1 1)) (.slice (some ⟨w7.heap.size, 0, none⟩) 1 1) [{ data := #[97] }]) := hide (by
        have hb := Blk.new w7 9 [.string { data := #[97] }]
        have h3 := ((hb.otherC w.heap.size 0 (.int .i64 rd2) (by omega)).otherC w.heap.size 1 (.int .i64 id2) (by omega)).otherC w.heap.size 2 (.slice (some ⟨w7.heap.size, 0, none⟩) 1 1) (by omega)
        refine .inr ⟨w7.heap.size, 0, 1, by simp, rfl, by simp, by unfold maxLen; omega, by simp, ?_⟩
        intro i hi
        have : i = 0 := by simp at hi; omega
        subst this
        exact h3.cell 0)
      have B8 := hide ((((HB1.out.trans ((HC7.out.bel.mono (by omega)).trans (b8.mono (by omega)))).setCell (p := ⟨w.heap.size, 0, none⟩) (Nat.le_refl _) (.int .i64 rd2)).setCell (p := ⟨w.heap.size, 1, none⟩) (Nat.le_refl _) (.int .i64 id2)).setCell (p := ⟨w.heap.size, 2, none⟩) (Nat.le_refl _) (.slice (some ⟨w7.heap.size, 0, none⟩) 1 1))
      clear b8 k8 K7 Hs7 HC7
      go_region
      all_goals
        go_wp2
        refine bodyPost_ret (v := .tuple #[.slice (some ⟨g, off, none⟩) l.length vc, .agg #[.int .i64 rd2, .int .i64 id2, .slice (some ⟨w7.heap.size, 0, none⟩) 1 1]]) (by simp [results, Try.f20, go_sem, e0, e1, e2]) rfl ?_
        exact ⟨_, l, rd2, id2, _, [{ data := #[97] }], rfl, Hs8.out.rd.below ((Below.refl _ _).drew) (Nat.le_refl _), hlen, Hlk.out, by have := Hbd.out; omega, R8.out.below ((Below.refl _ _).drew) (Nat.le_refl _), by simp, B8.out.drew⟩
    · go_wp2_with fail
      refine (l8Qc_any w1 _ w1.heap.size _ code HC5.out hl).mono ?_
      rintro e w9 ⟨r, q, v9, ls, rfl, hrq, o9, hl9, hs9, hc9, hg9⟩
      obtain ⟨a9, c9, rfl⟩ := o9.rd.shape
      have z9 := hg9.size
      have zz := Hz1.out
      have k9 := blk_notg5 K5.out hg9 (by omega)
      have e0 := k9.cell 0
      have e1 := k9.cell 1
      have e2 := k9.cell 2
      have f0 := k9.frozen 0
      have f1 := k9.frozen 1
      have f2 := k9.frozen 2
      simp only [List.getElem?_cons_zero, List.getElem?_cons_succ] at e0 e1 e2
      have Hs9 := hide ((((Hs5.out.call hg9 z2).set w.heap.size 0 (.int .i64 r) (by omega)).set w.heap.size 1 (.int .i64 q) (by omega)).set w.heap.size 2 (.slice a9 ls.length c9) (by omega))
      have O9 := hide (((o9.olderC (g := w.heap.size) (by omega) 0 (.int .i64 r)).olderC (g := w.heap.size) (by omega) 1 (.int .i64 q)).olderC (g := w.heap.size) (by omega) 2 (.slice a9 ls.length c9))
      have B9 := hide ((((HB1.out.trans (hc9.bel.mono (by omega))).setCell (p := ⟨w.heap.size, 0, none⟩) (Nat.le_refl _) (.int .i64 r)).setCell (p := ⟨w.heap.size, 1, none⟩) (Nat.le_refl _) (.int .i64 q)).setCell (p := ⟨w.heap.size, 2, none⟩) (Nat.le_refl _) (.slice a9 ls.length c9))
      simp only [qcV]
      clear o9 hc9 hg9 k9 K5 HC5 Hs5 hs9
      go_wp2
      refine bodyPost_ret (v := .tuple #[.slice va l.length vc, .agg #[.int .i64 r, .int .i64 q, .slice a9 ls.length c9]]) (by simp [results, Try.f20, go_sem, e0, e1, e2]) rfl ?_
      exact ⟨_, l, r, q, _, ls, rfl, Hs9.out.rd, hlen, Hlk.out, hrq.1, O9.out.rd, hl9, B9.out⟩
  · have hli : ¬ (0 : Int) < (l.length : Int) := by omega
    have hlb : decide ((0 : Int) < (l.length : Int)) = false := by simpa using hli
    go_wp2_with fail
    refine (l8Qc_any w1 _ w1.heap.size _ code HC4.out hl).mono ?_
    rintro e w9 ⟨r, q, v9, ls, rfl, hrq, o9, hl9, hs9, hc9, hg9⟩
    obtain ⟨a9, c9, rfl⟩ := o9.rd.shape
    have z9 := hg9.size
    have zz := Hz1.out
    have k9 := blk_notg5 K4.out hg9 (by omega)
    have e0 := k9.cell 0
    have e1 := k9.cell 1
    have e2 := k9.cell 2
    have f0 := k9.frozen 0
    have f1 := k9.frozen 1
    have f2 := k9.frozen 2
    simp only [List.getElem?_cons_zero, List.getElem?_cons_succ] at e0 e1 e2
    have Hs9 := hide ((((Hst.out.call hg9 z2).set w.heap.size 0 (.int .i64 r) (by omega)).set w.heap.size 1 (.int .i64 q) (by omega)).set w.heap.size 2 (.slice a9 ls.length c9) (by omega))
    have O9 := hide (((o9.olderC (g := w.heap.size) (by omega) 0 (.int .i64 r)).olderC (g := w.heap.size) (by omega) 1 (.int .i64 q)).olderC (g := w.heap.size) (by omega) 2 (.slice a9 ls.length c9))
    have B9 := hide ((((HB1.out.trans (hc9.bel.mono (by omega))).setCell (p := ⟨w.heap.size, 0, none⟩) (Nat.le_refl _) (.int .i64 r)).setCell (p := ⟨w.heap.size, 1, none⟩) (Nat.le_refl _) (.int .i64 q)).setCell (p := ⟨w.heap.size, 2, none⟩) (Nat.le_refl _) (.slice a9 ls.length c9))
    simp only [qcV]
    clear o9 hc9 hg9 k9 K4 HC4 Hst hs9
    go_wp2
    refine bodyPost_ret (v := .tuple #[.slice va l.length vc, .agg #[.int .i64 r, .int .i64 q, .slice a9 ls.length c9]]) (by simp [results, Try.f20, go_sem, e0, e1, e2]) rfl ?_
    exact ⟨_, l, r, q, _, ls, rfl, Hs9.out.rd, hlen, Hlk.out, hrq.1, O9.out.rd, hl9, B9.out⟩
end Go.Proofs.Ytbjeonnaannofaa
