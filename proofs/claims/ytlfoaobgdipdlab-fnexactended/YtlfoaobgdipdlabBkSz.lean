/- How large a block is, as the laws ask. -/
import Derived.Test.YtlfoaobgdipdlabBkVal
import Derived.Test.YtlfoaobgdipdlabCtVal
import Derived.Test.YtlfoaobgdipdlabVsEq
namespace Go.Proofs.Ytlfoaobgdipdlab
open Go.RowKit
set_option linter.unusedVariables false

set_option maxRecDepth 20000 in
set_option maxHeartbeats 1000000 in
theorem szQc_any (r b : Int) (vw : Value) (ws : List ByteArray) (m : Nat) (w : World) (hrw : RdS w vw ws) (hm : m ≤ 100000000) (hlw : ws.length ≤ 9223372036854775807) (hsw : ∀ s ∈ ws, s.size ≤ 9223372036854775807) :
    Calls Try.prog 18 #[qcV r b vw, .int .i64 (m : Int)] w fun en w' => ∃ q : Int, en = .returned (.int .i64 q) ∧ (0 ≤ q → ws.length ≤ m ∧ q ≤ (m : Int)) ∧ Below w.heap.size w w' := by
  obtain ⟨a1, c1, rfl⟩ := hrw.shape
  simp only [qcV] at *
  obtain ⟨w1, hw1⟩ : ∃ w1, w.alloc (.cells #[.int .i64 r, .int .i64 b, .slice a1 ws.length c1] 25) = w1 := ⟨_, rfl⟩
  have hb1 : Below w.heap.size w w1 := by rw [← hw1]; exact (Below.refl _ w).alloc (Nat.le_refl _) _
  have kA : Blk w1 w.heap.size 25 [.int .i64 r, .int .i64 b, .slice a1 ws.length c1] := by rw [← hw1]; exact Blk.new w _ _
  have HZ := hide (szStringS_any _ ws m w1 (hrw.below hb1 (Nat.le_refl _)) hm hlw hsw)
  have Hok : Hid (0 ≤ szR ws m → ws.length ≤ m ∧ szR ws m ≤ (m : Int)) := hide (fun h => by unfold szR at h ⊢; split at h <;> rename_i h' <;> first | (rw [if_pos h']; omega) | omega)
  have x2 := kA.cell 2
  simp only [List.getElem?_cons_zero, List.getElem?_cons_succ] at x2
  generalize szR ws m = z at HZ Hok
  clear hrw hsw
  by_cases hz : z < 0
  · clear Hok
    go_enter Try.func18, Try.ntmps18
    go_wp2_with fail
    refine HZ.out.mono ?_
    rintro en w2 ⟨rfl, hw2⟩
    subst hw2
    go_wp2
    go_ret
    exact ⟨_, rfl, fun h => by omega, hb1⟩
  · go_enter Try.func18, Try.ntmps18
    go_wp2_with fail
    refine HZ.out.mono ?_
    rintro en w2 ⟨rfl, hw2⟩
    subst hw2
    go_wp2
    go_ret
    exact ⟨_, rfl, Hok.out, hb1⟩
set_option maxRecDepth 20000 in
set_option maxHeartbeats 2000000 in
theorem szBlock_any (b : Bk) (v : Bv) (m : Nat) (w : World) (hr : RdK w b v) (hm : m ≤ 100000000) (l1 : b.qw.length ≤ maxLen) (l2 : b.tw.length ≤ maxLen) (l3 : b.th.length ≤ maxLen) (l4 : b.ts.length ≤ maxLen) (l5 : b.nx.length ≤ maxLen) (s1 : ∀ s ∈ b.qw, s.size ≤ maxLen) (s2 : ∀ s ∈ b.tw, s.size ≤ maxLen) (s3 : ∀ t ∈ b.ts, t.2.1.size ≤ maxLen ∧ t.2.2.1.size ≤ maxLen) (s4 : ∀ p ∈ b.nx, p.1.size ≤ maxLen) (s5 : b.md.size ≤ maxLen) (s6 : b.rt.size ≤ maxLen) :
    Calls Try.prog 6 #[bkV b v, .int .i64 (m : Int)] w fun e w' => ∃ q : Int, e = .returned (.int .i64 q) ∧ (0 ≤ q → b.qw.length ≤ m ∧ b.tw.length ≤ m ∧ b.th.length ≤ m ∧ b.ts.length ≤ m ∧ b.nx.length ≤ m) ∧ Below w.heap.size w w' := by
  have em : maxLen ≤ 9223372036854775807 := by unfold maxLen; omega
  obtain ⟨id, ep, rd, mk, qr, qb, qw, tr, tw, th, ts, en, nx, rt⟩ := b
  obtain ⟨vq, vw, vh, vt, vn⟩ := v
  obtain ⟨hq, hw, hh, ht, hn⟩ := hr
  simp only at *
  obtain ⟨aq, cq, rfl⟩ := hq.shape
  obtain ⟨aw, cw, rfl⟩ := hw.shape
  obtain ⟨ah, ch, rfl⟩ := hh.shape
  obtain ⟨at_, ct, rfl⟩ := ht.shape
  obtain ⟨an, cn, rfl⟩ := hn.shape
  have E1 := hide (fun (k : Nat) (hk : k ≤ 100000000) V (hV : Below w.heap.size w V) => szQc_any qr qb (.slice aq qw.length cq) qw k V (hq.below hV (Nat.le_refl _)) hk (Nat.le_trans l1 em) (fun s hs => Nat.le_trans (s1 s hs) em))
  have E2 := hide (fun (k : Nat) (hk : k ≤ 100000000) V (hV : Below w.heap.size w V) => szTcM_any tr (.slice aw tw.length cw) (.slice ah th.length ch) tw th k V (hw.below hV (Nat.le_refl _)) (hh.below hV (Nat.le_refl _)) hk (Nat.le_trans l2 em) (fun s hs => Nat.le_trans (s2 s hs) em) (Nat.le_trans l3 em))
  have E3 := hide (fun (k : Nat) (hk : k ≤ 100000000) V (hV : Below w.heap.size w V) => szTxM_any (.slice at_ ts.length ct) ts k V (ht.below hV (Nat.le_refl _)) hk (Nat.le_trans l4 em) (fun t hs => ⟨Nat.le_trans (s3 t hs).1 em, Nat.le_trans (s3 t hs).2 em⟩))
  have E4 := hide (fun (k : Nat) (hk : k ≤ 100000000) V (hV : Below w.heap.size w V) => szValS_any (.slice an nx.length cn) nx k V (hn.below hV (Nat.le_refl _)) hk (Nat.le_trans l5 em) (fun p hs => Nat.le_trans (s4 p hs) em))
  have s5' : mk.size ≤ 9223372036854775807 := Nat.le_trans s5 em
  have s6' : rt.size ≤ 9223372036854775807 := Nat.le_trans s6 em
  simp only [bkV, qcV, tcV] at *
  clear hq hw hh ht hn l1 l2 l3 l4 l5 s1 s2 s3 s4 s5 s6 em
  obtain ⟨w1, hw1⟩ : ∃ x, w.alloc (.cells #[.int .i64 id, .int .i64 ep, .int .i64 rd, .string mk, .int .i64 qr, .int .i64 qb, .slice aq qw.length cq, .int .i64 tr, .slice aw tw.length cw, .slice ah th.length ch, .slice at_ ts.length ct, .bool en, .slice an nx.length cn, .string rt] 32) = x := ⟨_, rfl⟩
  have b1 : Below w.heap.size w w1 := by rw [← hw1]; exact (Below.refl _ w).alloc (Nat.le_refl _) _
  have k1 : Blk w1 w.heap.size 32 [.int .i64 id, .int .i64 ep, .int .i64 rd, .string mk, .int .i64 qr, .int .i64 qb, .slice aq qw.length cq, .int .i64 tr, .slice aw tw.length cw, .slice ah th.length ch, .slice at_ ts.length ct, .bool en, .slice an nx.length cn, .string rt] := by rw [← hw1]; exact Blk.new w _ _
  have x3 := k1.cell 3
  have x4 := k1.cell 4
  have x5 := k1.cell 5
  have x6 := k1.cell 6
  simp only [List.getElem?_cons_zero, List.getElem?_cons_succ] at x3 x4 x5 x6
  go_enter Try.func6, Try.ntmps6
  by_cases hz : m < mk.size
  · have hzi : (m : Int) - (mk.size : Int) < 0 := by omega
    have hwz : IntKind.i64.wrap ((m : Int) - (mk.size : Int)) = (m : Int) - (mk.size : Int) := by rw [IntKind.wrap_i64]; omega
    clear hz
    go_wp2
    go_ret
    exact ⟨_, rfl, fun h => by omega, b1⟩
  obtain ⟨m1, hm1⟩ : ∃ k, m - mk.size = k := ⟨_, rfl⟩
  have hwz : IntKind.i64.wrap ((m : Int) - (mk.size : Int)) = (m1 : Int) := by rw [IntKind.wrap_i64]; omega
  have hm1' : m1 ≤ m := by omega
  have hnn : ¬ (m1 : Int) < 0 := by omega
  clear hz hm1
  go_wp2_with fail
  refine (E1.out m1 (by omega) _ b1).mono ?_
  rintro e w2 ⟨q1, rfl, f1, hb2⟩
  have k2 := k1.below hb2 k1.lt
  have b2 := b1.trans (hb2.mono b1.size)
  clear x3 x4 x5 x6 hw1 hwz k1 b1 hb2
  by_cases zq1 : q1 < 0
  · go_wp2
    go_ret
    exact ⟨_, rfl, fun h => by omega, b2⟩
  obtain ⟨m2, em2⟩ : ∃ k : Nat, q1 = (k : Int) := ⟨q1.toNat, by omega⟩
  subst em2
  have Ff1 := hide (f1 (by omega))
  clear f1
  have hm2 : m2 ≤ 100000000 := by have := Ff1.out; omega
  have x7 := k2.cell 7
  have x8 := k2.cell 8
  have x9 := k2.cell 9
  simp only [List.getElem?_cons_zero, List.getElem?_cons_succ] at x7 x8 x9
  go_wp2_with fail
  refine (E2.out m2 hm2 _ b2).mono ?_
  rintro e w3 ⟨q2, rfl, f2, hb3⟩
  have k3 := k2.below hb3 k2.lt
  have b3 := b2.trans (hb3.mono b2.size)
  clear x7 x8 x9 k2 b2 hb3
  by_cases zq2 : q2 < 0
  · go_wp2
    go_ret
    exact ⟨_, rfl, fun h => by omega, b3⟩
  obtain ⟨m3, em3⟩ : ∃ k : Nat, q2 = (k : Int) := ⟨q2.toNat, by omega⟩
  subst em3
  have Ff2 := hide (f2 (by omega))
  clear f2
  have hm3 : m3 ≤ 100000000 := by have := Ff2.out; omega
  have x10 := k3.cell 10
  simp only [List.getElem?_cons_zero, List.getElem?_cons_succ] at x10
  go_wp2_with fail
  refine (E3.out m3 hm3 _ b3).mono ?_
  rintro e w4 ⟨q3, rfl, f3, hb4⟩
  have k4 := k3.below hb4 k3.lt
  have b4 := b3.trans (hb4.mono b3.size)
  clear x10 k3 b3 hb4
  by_cases zq3 : q3 < 0
  · go_wp2
    go_ret
    exact ⟨_, rfl, fun h => by omega, b4⟩
  obtain ⟨m4, em4⟩ : ∃ k : Nat, q3 = (k : Int) := ⟨q3.toNat, by omega⟩
  subst em4
  have Ff3 := hide (f3 (by omega))
  clear f3
  have hm4 : m4 ≤ 100000000 := by have := Ff3.out; omega
  have x12 := k4.cell 12
  simp only [List.getElem?_cons_zero, List.getElem?_cons_succ] at x12
  go_wp2_with fail
  refine (E4.out m4 hm4 _ b4).mono ?_
  rintro e w5 ⟨q4, rfl, f4, hb5⟩
  have k5 := k4.below hb5 k4.lt
  have b5 := b4.trans (hb5.mono b4.size)
  have x13 := k5.cell 13
  simp only [List.getElem?_cons_zero, List.getElem?_cons_succ] at x13
  clear x12 k4 b4 hb5 k5
  by_cases zq4 : q4 < 0
  · go_wp2
    go_ret
    exact ⟨_, rfl, fun h => by omega, b5⟩
  obtain ⟨m5, em5⟩ : ∃ k : Nat, q4 = (k : Int) := ⟨q4.toNat, by omega⟩
  subst em5
  have Ff4 := hide (f4 (by omega))
  clear f4
  have hfin : Hid (qw.length ≤ m ∧ tw.length ≤ m ∧ th.length ≤ m ∧ ts.length ≤ m ∧ nx.length ≤ m) := hide (by
    have h1 := Ff1.out
    have h2 := Ff2.out
    have h3 := Ff3.out
    have h4 := Ff4.out
    omega)
  have hm5 : m5 ≤ 100000000 := by have := Ff4.out; omega
  have hw5 : IntKind.i64.wrap ((m5 : Int) - (rt.size : Int)) = (m5 : Int) - (rt.size : Int) := by rw [IntKind.wrap_i64]; omega
  by_cases h9 : (m5 : Int) - (rt.size : Int) < 0
  · go_wp2
    go_ret
    exact ⟨_, rfl, fun h => by omega, b5⟩
  · go_wp2
    go_ret
    exact ⟨_, rfl, fun _ => hfin.out, b5⟩
end Go.Proofs.Ytlfoaobgdipdlab
