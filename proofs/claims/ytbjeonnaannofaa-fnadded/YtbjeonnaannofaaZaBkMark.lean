/- Blocks marked. -/
import Derived.Test.YtbjeonnaannofaaZaBkTo
import Derived.Test.YtbjeonnaannofaaZaTxMarkC
import Derived.Test.YtbjeonnaannofaaZaMarkStr
import Derived.Deep.RegionWith
import Derived.Test.YtbjeonnaannofaaZaVsMark
namespace Go.Proofs.Ytbjeonnaannofaa
open Go.RowKit
set_option linter.unusedVariables false

def mkI (k n : Nat) : List Int := (List.range n).map (fun j => ((k + j : Nat) : Int))
theorem mkI_len (k n : Nat) : (mkI k n).length = n := by simp [mkI]
theorem mkI_at (k n j : Nat) (h : j < (mkI k n).length) : (mkI k n)[j] = ((k + j : Nat) : Int) := by simp [mkI]
set_option maxRecDepth 20000 in
set_option maxHeartbeats 2000000 in
theorem markIntS_any (v : Value) (l : List Int) (k base : Nat) (w : World) (ho : OwnI base w v l) (hl : l.length ≤ 10000000) (hk : k ≤ 100000000) (hk0 : 0 < k) :
    Calls Try.prog 68 #[v, .int .i64 (k : Int)] w fun e w' => e = .returned (.int .i64 ((k + l.length : Nat) : Int)) ∧ OwnI base w' v (mkI k l.length) ∧ w.grownBy w' v.ownBlock := by
  have hML := mkI_len k l.length
  have hMA := mkI_at k l.length
  generalize hMd : mkI k l.length = M at hML hMA
  clear hMd
  rcases ho.2 with ⟨rfl, hn⟩ | ⟨g, cap, cur, rfl, _, _, _, hcm, _, _⟩
  · have e : l = [] := List.length_eq_zero_iff.1 hn
    subst e
    have e2 : M = [] := List.length_eq_zero_iff.1 hML
    subst e2
    have Ho := hide ho
    clear ho
    go_enter Try.func68, Try.ntmps68
    go_wp2
    refine wp_loop_rounds 1 ?_
    rw [rounds_succ]
    go_wp2
    go_ret
    exact ⟨rfl, Ho.out, World.grownBy.refl _ _⟩
  · have Ho := hide ho
    have HML := hide hML
    have HMA := hide hMA
    have hMl : l.length ≤ M.length := by omega
    have hMg : M.length ≤ l.length := by omega
    clear ho hML hMA
    go_enter Try.func68, Try.ntmps68
    go_wp2
    go_loopw [1, 5] (fun kv iv wr => ∃ j : Nat, j ≤ l.length ∧ iv = .int .i64 (j : Int) ∧ kv = .int .i64 ((k + j : Nat) : Int) ∧ wr.ownsRow base 3 1 (.slice (some ⟨g, 0, none⟩) l.length cap) l.length ((M.take j ++ l.drop j).map (Value.int .i64)) ∧ w.grownBy wr (some g))
      (fun _ iv _ => l.length - (intOf iv).toNat)
    case atStart => exact ⟨0, Nat.zero_le _, rfl, rfl, by simpa [OwnI] using Ho.out, World.grownBy.refl _ _⟩
    case round =>
      obtain ⟨j, hj, rfl, rfl, hown, hgr⟩ := hrel
      by_cases hlt : j < l.length
      · have hjM : j < M.length := by omega
        obtain ⟨K, hK⟩ : ∃ K : Nat, k + j = K := ⟨_, rfl⟩
        have hK2 : K ≤ 200000000 := by omega
        have hK0 : 0 < K := by omega
        have eM : M[j] = (K : Int) := by rw [HMA.out j hjM, hK]
        rw [hK]
        have HK := hide hK
        clear hK
        have Hown := hide hown
        have Hgr := hide hgr
        clear hown hgr
        have hown2 := Hown.out
        have hf := hown2.frozenAt j
        have hd := hown2.cellAt j (by omega)
        obtain ⟨u, hu⟩ : ∃ u, ((M.take j ++ l.drop j).map (Value.int .i64))[j]? = some u := ⟨_, List.getElem?_eq_getElem (by simp; omega)⟩
        rw [hu] at hd
        have hst := hown2.stored j (.int .i64 M[j])
        rw [gen_set M l (Value.int .i64) j HML.out hjM, eM] at hst
        have Hst := hide hst
        clear hst hown2 hu eM
        go_wp2
        go_roundw
        case rel => exact ⟨j + 1, by omega, by go_num, by rw [show k + (j + 1) = K + 1 from by have := HK.out; omega]; go_num, Hst.out.1, grownS_trans Hgr.out Hst.out.2⟩
        case measure => simp [intOf]; omega
      · have e : M.take j ++ l.drop j = M := by rw [List.take_of_length_le (by omega), List.drop_of_length_le (by omega), List.append_nil]
        rw [e] at hown
        have ho' : OwnI base wr (.slice (some ⟨g, 0, none⟩) l.length cap) M := by
          unfold OwnI
          rw [HML.out]
          exact hown
        have e2 : j = l.length := by omega
        have Ho' := hide ho'
        have Hgr := hide hgr
        clear ho' hgr hown e
        subst e2
        go_wp2
        go_ret
        exact ⟨rfl, Ho'.out, Hgr.out⟩
set_option maxRecDepth 20000 in
set_option maxHeartbeats 2000000 in
theorem markTxO_any (v : Value) (l : List Tx5) (k base : Nat) (S : Nat → Prop) (w : World) (ho : OwnT base w v l) (hhi : ∀ g, v.ownBlock = some g → S g) (hl : l.length ≤ 10000000) (hk : k + 5 * l.length ≤ 90000000) (hk0 : 0 < k) :
    Calls Try.prog 69 #[v, .int .i64 (k : Int)] w fun e w' => e = .returned (.int .i64 ((k + 5 * l.length : Nat) : Int)) ∧ Oth S w w' := by
  have hcl : (l.map txC).flatten.length = 5 * l.length := by
    clear ho hhi hl hk hk0
    induction l with
    | nil => rfl
    | cons t l ih =>
      rw [List.map_cons, List.flatten_cons, List.length_append, ih, List.length_cons]
      show 5 + 5 * l.length = 5 * (l.length + 1)
      omega
  by_cases hne : l = []
  · subst hne
    obtain ⟨a, c, rfl⟩ := ho.rd.shape
    clear ho hhi hcl
    go_enter Try.func69, Try.ntmps69
    go_wp2
    refine wp_loop_rounds 1 ?_
    rw [rounds_succ]
    go_wp2
    go_ret
    exact ⟨by simp <;> rfl, Oth.refl _ _⟩
  · obtain ⟨g, cap, rfl⟩ : ∃ g cap, v = .slice (some ⟨g, 0, none⟩) l.length cap := by
      rcases ho.2 with ⟨rfl, hn⟩ | ⟨g, cap, cur, rfl, -⟩
      · exact absurd (List.length_eq_zero_iff.1 hn) hne
      · exact ⟨g, cap, rfl⟩
    have hgb : base ≤ g := (World.ownsRow.lt ho g rfl).1
    have hghi : S g := hhi g rfl
    have Hrow : Hid (w.ownsRow base 94 5 (.slice (some ⟨g, 0, none⟩) l.length cap) l.length (l.map txC).flatten) := hide ho
    clear ho hhi
    generalize (l.map txC).flatten = Y0 at Hrow hcl
    go_enter Try.func69, Try.ntmps69
    go_wp2
    go_loopw [1, 5] (fun kv iv wr => ∃ (j : Nat) (Y : List Value), j ≤ l.length ∧ iv = .int .i64 (j : Int) ∧ kv = .int .i64 ((k + 5 * j : Nat) : Int) ∧ Y.length = 5 * l.length ∧ wr.ownsRow base 94 5 (.slice (some ⟨g, 0, none⟩) l.length cap) l.length Y ∧ Oth S w wr)
      (fun _ iv _ => l.length - (intOf iv).toNat)
    case atStart => exact ⟨0, Y0, Nat.zero_le _, rfl, rfl, hcl, Hrow.out, Oth.refl _ _⟩
    case round =>
      obtain ⟨j, Y, hj, rfl, rfl, hYl, hown, hbt⟩ := hrel
      clear Hrow hcl
      by_cases hlt : j < l.length
      · have hli : (j : Int) < (l.length : Int) := by omega
        have Hnx : Hid (k + 5 * (j + 1) = k + 5 * j + 5) := hide (by omega)
        have hK1 : k + 5 * j + 5 ≤ 90000000 := by omega
        have hK0 : 0 < k + 5 * j := by omega
        generalize k + 5 * j = K at Hnx hK1 hK0 ⊢
        have Hm1 := hide (fun w => markText_any (K + 1) w (by omega) (by omega))
        have Hm2 := hide (fun w => markText_any (K + 1 + 1) w (by omega) (by omega))
        obtain ⟨⟨y0, q0⟩, f0, s0⟩ := row_step9 hown hYl (j * 5) (by omega)
        have S0 := hide s0
        have Hbt := hide hbt
        clear hown hbt s0
        go_wp2_with fail
        refine (Hm1.out _).mono ?_
        rintro e w1 ⟨rfl, hb1⟩
        have r1 := row_below (S0.out (.int .i64 (K : Int))) hb1 (Nat.le_refl _)
        have Hbt1 := hide ((Hbt.out.set hghi (j * 5) (.int .i64 (K : Int))).trans (Oth.of_below hb1))
        clear hb1 q0 f0
        obtain ⟨⟨y1, q1⟩, f1, s1⟩ := row_step9 r1 (by simp [hYl]) (j * 5 + 1) (by omega)
        have S1 := hide s1
        clear r1 s1
        go_wp2_with fail
        refine (Hm2.out _).mono ?_
        rintro e w2 ⟨rfl, hb2⟩
        have r2 := row_below (S1.out (.string (mtx (K + 1)))) hb2 (Nat.le_refl _)
        have Hbt2 := hide ((Hbt1.out.set hghi (j * 5 + 1) (.string (mtx (K + 1)))).trans (Oth.of_below hb2))
        clear hb2 q1 f1
        obtain ⟨⟨y2, q2⟩, f2, s2⟩ := row_step9 r2 (by simp [hYl]) (j * 5 + 2) (by omega)
        obtain ⟨⟨y3, q3⟩, f3, -⟩ := row_step9 r2 (by simp [hYl]) (j * 5 + 3) (by omega)
        obtain ⟨⟨y4, q4⟩, f4, -⟩ := row_step9 r2 (by simp [hYl]) (j * 5 + 4) (by omega)
        have S2 := hide (fun u2 u3 u4 => (((row_step9 (((row_step9 (s2 u2) (by simp [hYl]) (j * 5 + 3) (by omega)).2.2) u3) (by simp [hYl]) (j * 5 + 4) (by omega)).2.2) u4))
        clear r2 s2
        go_wp2
        go_roundw
        case rel =>
          refine ⟨j + 1, _, by omega, by go_num, by rw [Hnx.out]; go_num, ?_, S2.out _ _ _, ((Hbt2.out.set hghi _ _).set hghi _ _).set hghi _ _⟩
          simp [hYl]
        case measure => simp [intOf]; omega
      · have ej : j = l.length := by omega
        subst ej
        have Hbt := hide hbt
        clear hown hbt
        go_wp2
        go_ret
        exact ⟨rfl, Hbt.out⟩
set_option maxRecDepth 20000 in
set_option maxHeartbeats 2000000 in
theorem markQc_any (r b : Int) (v : Value) (l : List ByteArray) (k base : Nat) (w : World) (ho : OwnS base w v l) (hl : l.length ≤ 10000000) (hk : k ≤ 100000000) (hk0 : 0 < k) :
    Calls Try.prog 71 #[qcV r b v, .int .i64 (k : Int)] w fun e w' => e = .returned (.int .i64 ((k + l.length : Nat) : Int)) ∧ OwnS base w' v (mkS k l.length) ∧ Oth (fun g => v.ownBlock = some g) w w' := by
  obtain ⟨a, c, rfl⟩ := ho.rd.shape
  simp only [qcV]
  obtain ⟨w1, hw1⟩ : ∃ x, w.alloc (.cells #[.int .i64 r, .int .i64 b, .slice a l.length c] 31) = x := ⟨_, rfl⟩
  have b1 : Below w.heap.size w w1 := by rw [← hw1]; exact (Below.refl _ w).alloc (Nat.le_refl _) _
  have k1 : Blk w1 w.heap.size 31 [.int .i64 r, .int .i64 b, .slice a l.length c] := by rw [← hw1]; exact Blk.new w _ _
  have HM := hide (markStringS_any (.slice a l.length c) l k base w1 (ho.below b1 (Nat.le_refl _)) hl hk hk0)
  have x2 := k1.cell 2
  simp only [List.getElem?_cons_zero, List.getElem?_cons_succ] at x2
  have HB := hide b1
  clear ho k1 b1
  go_enter Try.func71, Try.ntmps71
  go_wp2_with fail
  refine HM.out.mono ?_
  rintro e w2 ⟨rfl, ho2, hg2⟩
  clear x2 hw1
  go_wp2
  go_ret
  exact ⟨rfl, ho2, (Oth.of_below HB.out).trans (Oth.of_grown hg2 (fun g h => h))⟩
set_option maxRecDepth 20000 in
set_option maxHeartbeats 2000000 in
theorem markTc_any (r : Int) (v u : Value) (l : List ByteArray) (n : List Int) (k b1 b2 : Nat) (w : World) (ho : OwnS b1 w v l) (hi : OwnI b2 w u n) (hl : l.length ≤ 10000000) (hn : n.length ≤ 10000000) (hk : k ≤ 80000000) (hk0 : 0 < k) :
    Calls Try.prog 72 #[tcV r v u, .int .i64 (k : Int)] w fun e w' => e = .returned (.int .i64 ((k + l.length + n.length : Nat) : Int)) ∧ OwnS b1 w' v (mkS k l.length) ∧ OwnI b2 w' u (mkI (k + l.length) n.length) ∧ Oth (fun g => v.ownBlock = some g ∨ u.ownBlock = some g) w w' := by
  have Hap := hide (rows_apart (w := w) ho hi (by decide))
  obtain ⟨a, c, rfl⟩ := ho.rd.shape
  obtain ⟨a2, c2, rfl⟩ := hi.rd.shape
  simp only [tcV]
  obtain ⟨w1, hw1⟩ : ∃ x, w.alloc (.cells #[.int .i64 r, .slice a l.length c, .slice a2 n.length c2] 33) = x := ⟨_, rfl⟩
  have p1 : Below w.heap.size w w1 := by rw [← hw1]; exact (Below.refl _ w).alloc (Nat.le_refl _) _
  have k1 : Blk w1 w.heap.size 33 [.int .i64 r, .slice a l.length c, .slice a2 n.length c2] := by rw [← hw1]; exact Blk.new w _ _
  have HM := hide (markStringS_any (.slice a l.length c) l k b1 w1 (ho.below p1 (Nat.le_refl _)) hl (by omega) hk0)
  have hlt : Hid (∀ g, (Value.slice a l.length c).ownBlock = some g → g < w.heap.size) := hide (fun g h => (World.ownsRow.lt ho g h).2)
  have x1 := k1.cell 1
  simp only [List.getElem?_cons_zero, List.getElem?_cons_succ] at x1
  have HB := hide p1
  have K1 := hide k1
  have Hi := hide (show OwnI b2 w1 (.slice a2 n.length c2) n from row_oth (S := fun _ => False) hi (Oth.of_below p1) (fun _ _ h => h))
  obtain ⟨K, hK⟩ : ∃ K : Nat, k + l.length = K := ⟨_, rfl⟩
  have hKb : K ≤ 90000000 := by omega
  have hK0 : 0 < K := by omega
  rw [hK] at HM ⊢
  clear ho hi k1 p1
  go_enter Try.func72, Try.ntmps72
  go_wp2_with fail
  refine HM.out.mono ?_
  rintro e w2 ⟨rfl, ho2, hg2⟩
  have O2 := Oth.of_grown (S := fun g => (Value.slice a l.length c).ownBlock = some g) hg2 (fun g h => h)
  have hi2 : OwnI b2 w2 (.slice a2 n.length c2) n := row_oth Hi.out O2 (fun g h h' => Hap.out g h h')
  have x2 : w2.cell? ⟨w.heap.size, 2, none⟩ = some (.slice a2 n.length c2) := by
    have h := K1.out.cell 2
    simp only [List.getElem?_cons_zero, List.getElem?_cons_succ] at h
    unfold World.cell? at h ⊢
    rw [O2.block w.heap.size K1.out.lt (fun h' => by have := hlt.out _ h'; omega)]
    exact h
  have HI := hide (markIntS_any (.slice a2 n.length c2) n K b2 w2 hi2 hn (by omega) hK0)
  have Ho2 := hide ho2
  have HO2 := hide O2
  clear ho2 hg2 O2 hi2 x1 hw1
  go_wp2_with fail
  refine HI.out.mono ?_
  rintro e w3 ⟨rfl, ho3, hg3⟩
  have O3 := Oth.of_grown (S := fun g => (Value.slice a2 n.length c2).ownBlock = some g) hg3 (fun g h => h)
  have Hs3 : Hid (OwnS b1 w3 (.slice a l.length c) (mkS k l.length)) := hide (row_oth Ho2.out O3 (fun g h h' => Hap.out g h' h))
  have HO := hide ((Oth.of_below (S := fun g => (Value.slice a l.length c).ownBlock = some g ∨ (Value.slice a2 n.length c2).ownBlock = some g) HB.out).trans ((HO2.out.mono (fun _ h => .inl h)).trans (O3.mono (fun _ h => .inr h))))
  clear hg3 O3 x2
  go_wp2
  go_ret
  exact ⟨rfl, Hs3.out, ho3, HO.out⟩
set_option maxRecDepth 20000 in
set_option maxHeartbeats 4000000 in
theorem markBlock_any (b : Bk) (v : Bv) (k base : Nat) (w0 w : World) (ho0 : OwnK base w0 b v) (hw0 : Below w0.heap.size w0 w) (hne : ∀ g, v.q.ownBlock = some g → v.w.ownBlock ≠ some g) (l1 : b.qw.length ≤ 4000000) (l2 : b.tw.length ≤ 4000000) (l3 : b.th.length ≤ 4000000) (l4 : b.ts.length ≤ 4000000) (l5 : b.nx.length ≤ 4000000) (hk : k ≤ 1000) (hk0 : 0 < k) :
    Calls Try.prog 29 #[bkV b v, .int .i64 (k : Int)] w fun e w' => e = .returned (.int .i64 ((k + b.qw.length + b.tw.length + b.th.length + 5 * b.ts.length + 2 * b.nx.length : Nat) : Int)) ∧ Oth (fun g => base ≤ g ∧ g < w0.heap.size) w w' := by
  have ho : OwnK base w b v := ⟨row_oth (S := fun _ => False) ho0.q (Oth.of_below hw0) (fun _ _ h => h), row_oth (S := fun _ => False) ho0.p (Oth.of_below hw0) (fun _ _ h => h), row_oth (S := fun _ => False) ho0.h (Oth.of_below hw0) (fun _ _ h => h), row_oth (S := fun _ => False) ho0.t (Oth.of_below hw0) (fun _ _ h => h), row_oth (S := fun _ => False) ho0.n (Oth.of_below hw0) (fun _ _ h => h)⟩
  obtain ⟨oq, ow, oh, ot, on⟩ := ho
  obtain ⟨oq0, ow0, oh0, ot0, on0⟩ := ho0
  have hsz0 := hw0.size
  obtain ⟨id, ep, rd, mk, qr, qb, qw, tr, tw, th, ts, en, nx, rt⟩ := b
  obtain ⟨vq, vw, vh, vt, vn⟩ := v
  simp only [bkV] at *
  obtain ⟨aq, cq, rfl⟩ := oq.rd.shape
  obtain ⟨aw, cw, rfl⟩ := ow.rd.shape
  obtain ⟨ah, ch, rfl⟩ := oh.rd.shape
  obtain ⟨at_, ct, rfl⟩ := ot.rd.shape
  obtain ⟨an, cn, rfl⟩ := on.rd.shape
  obtain ⟨w1, hw1⟩ : ∃ x, w.alloc (.cells #[.int .i64 id, .int .i64 ep, .int .i64 rd, .string mk, .int .i64 qr, .int .i64 qb, .slice aq qw.length cq, .int .i64 tr, .slice aw tw.length cw, .slice ah th.length ch, .slice at_ ts.length ct, .bool en, .slice an nx.length cn, .string rt] 37) = x := ⟨_, rfl⟩
  have p1 : Below w.heap.size w w1 := by rw [← hw1]; exact (Below.refl _ w).alloc (Nat.le_refl _) _
  have k1 : Blk w1 w.heap.size 37 [.int .i64 id, .int .i64 ep, .int .i64 rd, .string mk, .int .i64 qr, .int .i64 qb, .slice aq qw.length cq, .int .i64 tr, .slice aw tw.length cw, .slice ah th.length ch, .slice at_ ts.length ct, .bool en, .slice an nx.length cn, .string rt] := by rw [← hw1]; exact Blk.new w _ _
  obtain ⟨S, hS⟩ : ∃ S : Nat → Prop, S = fun g => base ≤ g ∧ g < w0.heap.size := ⟨_, rfl⟩
  have Hq : Hid (∀ g, (Value.slice aq qw.length cq).ownBlock = some g → S g) := hide (fun g h => by rw [hS]; exact World.ownsRow.lt oq0 g h)
  have Hw : Hid (∀ g, (Value.slice aw tw.length cw).ownBlock = some g → S g) := hide (fun g h => by rw [hS]; exact World.ownsRow.lt ow0 g h)
  have Hh : Hid (∀ g, (Value.slice ah th.length ch).ownBlock = some g → S g) := hide (fun g h => by rw [hS]; exact World.ownsRow.lt oh0 g h)
  have Ht : Hid (∀ g, (Value.slice at_ ts.length ct).ownBlock = some g → S g) := hide (fun g h => by rw [hS]; exact World.ownsRow.lt ot0 g h)
  have Hn : Hid (∀ g, (Value.slice an nx.length cn).ownBlock = some g → S g) := hide (fun g h => by rw [hS]; exact World.ownsRow.lt on0 g h)
  have HnS : Hid (¬ S w.heap.size) := hide (by rw [hS]; intro h; have := h.2; omega)
  have HSb : Hid (∀ g, S g → base ≤ g ∧ g < w0.heap.size) := hide (fun g h => by rw [hS] at h; exact h)
  clear hS
  have Dwq := hide hne
  have Dqh := hide (rows_apart (w := w) oq oh (by decide))
  have Dqt := hide (rows_apart (w := w) oq ot (by decide))
  have Dqn := hide (rows_apart (w := w) oq on (by decide))
  have Dwt := hide (rows_apart (w := w) ow ot (by decide))
  have Dwn := hide (rows_apart (w := w) ow on (by decide))
  have Dht := hide (rows_apart (w := w) oh ot (by decide))
  have Dhn := hide (rows_apart (w := w) oh on (by decide))
  have Dtn := hide (rows_apart (w := w) ot on (by decide))
  have O1 : Oth S w w1 := Oth.of_below p1
  have q1 : OwnS base w1 (.slice aq qw.length cq) qw := oq.below p1 (Nat.le_refl _)
  have y1 : OwnS base w1 (.slice aw tw.length cw) tw := ow.below p1 (Nat.le_refl _)
  have h1 : OwnI base w1 (.slice ah th.length ch) th := row_oth (S := fun _ => False) oh (Oth.of_below p1) (fun _ _ h => h)
  have t1 : OwnT base w1 (.slice at_ ts.length ct) ts := row_oth (S := fun _ => False) ot (Oth.of_below p1) (fun _ _ h => h)
  have n1 : OwnV base w1 (.slice an nx.length cn) nx := row_oth (S := fun _ => False) on (Oth.of_below p1) (fun _ _ h => h)
  have Hcell : Hid (∀ V, Oth S w1 V → Blk V w.heap.size 37 [.int .i64 id, .int .i64 ep, .int .i64 rd, .string mk, .int .i64 qr, .int .i64 qb, .slice aq qw.length cq, .int .i64 tr, .slice aw tw.length cw, .slice ah th.length ch, .slice at_ ts.length ct, .bool en, .slice an nx.length cn, .string rt]) := hide (fun V hV => (hV.block w.heap.size k1.lt HnS.out).trans k1)
  have HM1 := hide (markQc_any qr qb (.slice aq qw.length cq) qw k base w1 q1 (by omega) (by omega) hk0)
  have x4 := k1.cell 4
  have x5 := k1.cell 5
  have x6 := k1.cell 6
  simp only [List.getElem?_cons_zero, List.getElem?_cons_succ] at x4 x5 x6
  simp only [qcV] at HM1
  have HO1 := hide O1
  clear oq ow oh ot on hne k1 q1 O1 oq0 ow0 oh0 ot0 on0 hw0
  obtain ⟨K1, hK1⟩ : ∃ K : Nat, k + qw.length = K := ⟨_, rfl⟩
  obtain ⟨K2, hK2⟩ : ∃ K : Nat, K1 + tw.length + th.length = K := ⟨_, rfl⟩
  obtain ⟨K3, hK3⟩ : ∃ K : Nat, K2 + 5 * ts.length = K := ⟨_, rfl⟩
  obtain ⟨K4, hK4⟩ : ∃ K : Nat, K3 + 2 * nx.length = K := ⟨_, rfl⟩
  rw [hK1, hK2, hK3, hK4]
  rw [hK1] at HM1
  have u1 : 0 < K1 ∧ K1 ≤ 5000000 := by omega
  have u2 : 0 < K2 ∧ K2 ≤ 13000000 := by omega
  have u3 : 0 < K3 ∧ K3 ≤ 33000000 := by omega
  have HK2 := hide hK2
  have HK3 := hide hK3
  have HK4 := hide hK4
  clear hK1 hK2 hK3 hK4
  go_enter Try.func29, Try.ntmps29
  go_wp2_with fail
  refine HM1.out.mono ?_
  rintro e w2 ⟨rfl, -, O2⟩
  have S2 : Oth S w1 w2 := O2.mono (fun g h => Hq.out g h)
  have y2 : OwnS base w2 (.slice aw tw.length cw) tw := row_oth y1 O2 (fun g h h' => Dwq.out g h' h)
  have h2 : OwnI base w2 (.slice ah th.length ch) th := row_oth h1 O2 (fun g h h' => Dqh.out g h h')
  have t2 : OwnT base w2 (.slice at_ ts.length ct) ts := row_oth t1 O2 (fun g h h' => Dqt.out g h h')
  have n2 : OwnV base w2 (.slice an nx.length cn) nx := row_oth n1 O2 (fun g h h' => Dqn.out g h h')
  have k2 := Hcell.out w2 S2
  have HM2 := hide (markTc_any tr (.slice aw tw.length cw) (.slice ah th.length ch) tw th K1 base base w2 y2 h2 (by omega) (by omega) (by omega) (by omega))
  simp only [tcV] at HM2
  clear x4 x5 x6 hw1 y1 h1 t1 n1 O2 y2 h2 HM1
  have x7 := k2.cell 7
  have x8 := k2.cell 8
  have x9 := k2.cell 9
  simp only [List.getElem?_cons_zero, List.getElem?_cons_succ] at x7 x8 x9
  rw [HK2.out] at HM2
  have HS2 := hide S2
  clear k2 S2
  go_wp2_with fail
  refine HM2.out.mono ?_
  rintro e w3 ⟨rfl, -, -, O3⟩
  have S3 : Oth S w1 w3 := HS2.out.trans (O3.mono (fun g h => h.elim (Hw.out g) (Hh.out g)))
  have t3 : OwnT base w3 (.slice at_ ts.length ct) ts := row_oth t2 O3 (fun g h h' => h'.elim (Dwt.out g h) (Dht.out g h))
  have n3 : OwnV base w3 (.slice an nx.length cn) nx := row_oth n2 O3 (fun g h h' => h'.elim (Dwn.out g h) (Dhn.out g h))
  have k3 := Hcell.out w3 S3
  have x10 := k3.cell 10
  simp only [List.getElem?_cons_zero, List.getElem?_cons_succ] at x10
  clear x7 x8 x9 t2 n2 O3 HM2 HS2 k3
  have HS3 := hide S3
  have HM3 := hide (markTxO_any (.slice at_ ts.length ct) ts K2 base (fun g => (Value.slice at_ ts.length ct).ownBlock = some g) w3 t3 (fun g h => h) (by omega) (by omega) (by omega))
  rw [HK3.out] at HM3
  clear t3 S3
  go_wp2_with fail
  refine HM3.out.mono ?_
  rintro e w4 ⟨rfl, O4⟩
  have S4 : Oth S w1 w4 := HS3.out.trans (O4.mono (fun g h => Ht.out g h))
  have n4 : OwnV base w4 (.slice an nx.length cn) nx := row_oth n3 O4 (fun g h h' => Dtn.out g h h')
  have k4 := Hcell.out w4 S4
  have x12 := k4.cell 12
  simp only [List.getElem?_cons_zero, List.getElem?_cons_succ] at x12
  have HM4 := hide (markValS_any (.slice an nx.length cn) nx K3 base w4 n4 (by omega) (by omega) (by omega))
  rw [HK4.out] at HM4
  have HS4 := hide S4
  clear x10 n3 O4 HM3 HS3 k4 n4 S4
  go_wp2_with fail
  refine HM4.out.mono ?_
  rintro e w5 ⟨rfl, -, hg5⟩
  have HO := hide ((HO1.out.trans (HS4.out.trans (Oth.of_grown hg5 (fun g h => Hn.out g h)))).mono HSb.out)
  clear x12 hg5
  go_wp2
  go_ret
  exact ⟨rfl, HO.out⟩
end Go.Proofs.Ytbjeonnaannofaa
