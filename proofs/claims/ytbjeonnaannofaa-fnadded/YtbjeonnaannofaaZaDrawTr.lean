/- Drawn trees. -/
import Derived.Test.YtbjeonnaannofaaZaKsAdd
import Derived.Test.YtbjeonnaannofaaZaIn
import Derived.Deep.CutRange
namespace Go.Proofs.Ytbjeonnaannofaa
open Go.RowKit
set_option linter.unusedVariables false

/-- What is drawn is small. -/
structure DtK (b : Bk) : Prop where
  few : FewK b
  tr : b.tr = 0
theorem OwnKs.notg {base : Nat} {w w' : World} {v : Value} {l : List Bk} {g : Nat} (h : OwnKs base w v l) (hg : w.grownBy w' (some g)) (hb : g < base) : OwnKs base w' v l := by
  obtain ⟨G, cap, Z, hZ, rfl, hr, hk⟩ := h
  have hG := (World.ownsRow.lt hr G rfl).1
  refine ⟨G, cap, Z, hZ, rfl, World.ownsRow.kept hr hg (.inr (fun e => ?_)), ⟨fun i hi => (hk.own i hi).grown9 hg (fun e => by have := ((hk.own i hi).in9 _ e).1; omega), hk.far, hk.inner, hk.apart⟩⟩
  simp only [Value.ownBlock, Option.some.injEq] at e
  omega
/-- A block half put together in block B. -/
structure Rn (w0 w W : World) (g B : Nat) (cv : Value) (code : List UInt8) (b : Bk) (v : Bv) : Prop where
  o : Blk W B 37 (bkC b v)
  lo : w.heap.size ≤ B
  own : OwnK (B + 1) W b v
  cur : Cur w0 W g cv code
  grw : w.grownBy W (some g)
  gl : g < w.heap.size
theorem Rn.call {w0 w W W' : World} {g B : Nat} {cv : Value} {code : List UInt8} {b : Bk} {v : Bv} (h : Rn w0 w W g B cv code b v) (hc : Cur w0 W' g cv code) (hg : W.grownBy W' (some g)) : Rn w0 w W' g B cv code b v := by
  have h1 := h.gl
  have h2 := h.lo
  exact ⟨(hg.block B h.o.lt (fun e => by simp only [Option.some.injEq] at e; omega)).trans h.o, h2, h.own.grown9 hg (fun e => by have := (h.own.in9 _ e).1; omega), hc, grw_trans h.grw hg, h1⟩
theorem Rn.bel {w0 w W W' : World} {g B : Nat} {cv : Value} {code : List UInt8} {b : Bk} {v : Bv} (h : Rn w0 w W g B cv code b v) (hb : Below W.heap.size W W') : Rn w0 w W' g B cv code b v :=
  h.call (h.cur.below hb h.cur.lt) (grw_of_below (some g) hb (Nat.le_refl _))
theorem Rn.put {w0 w W : World} {g B : Nat} {cv : Value} {code : List UInt8} {b b' : Bk} {v v' : Bv} (h : Rn w0 w W g B cv code b v) (j : Nat) (u : Value) (he : (bkC b v).set j u = bkC b' v') (ho : OwnK (B + 1) W b' v') : Rn w0 w (W.setCell ⟨B, j, none⟩ u) g B cv code b' v' := by
  have h1 := h.gl
  have h2 := h.lo
  have hb : Below w.heap.size W (W.setCell ⟨B, j, none⟩ u) := (Below.refl _ W).setCell (p := ⟨B, j, none⟩) h2 u
  exact ⟨by rw [← he]; exact h.o.setC j u, h2, ⟨ho.q.olderC (Nat.lt_succ_self B) j u, ho.p.olderC (Nat.lt_succ_self B) j u, ho.h.olderC (Nat.lt_succ_self B) j u, ho.t.olderC (Nat.lt_succ_self B) j u, ho.n.olderC (Nat.lt_succ_self B) j u⟩, h.cur.below hb h1, grw_below h.grw hb (Nat.le_refl _), h1⟩
theorem Rn.putQc {w0 w W : World} {g B : Nat} {cv : Value} {code : List UInt8} {b : Bk} {v : Bv} (h : Rn w0 w W g B cv code b v) (r k : Int) {u : Value} {l : List ByteArray} (oq : OwnS (B + 1) W u l) : Rn w0 w (((W.setCell ⟨B, 4, none⟩ (.int .i64 r)).setCell ⟨B, 5, none⟩ (.int .i64 k)).setCell ⟨B, 6, none⟩ u) g B cv code { b with qr := r, qb := k, qw := l } { v with q := u } := by
  have d4 : Rn w0 w (W.setCell ⟨B, 4, none⟩ (.int .i64 r)) g B cv code { b with qr := r } v := h.put 4 (.int .i64 r) rfl ⟨h.own.q, h.own.p, h.own.h, h.own.t, h.own.n⟩
  have d5 : Rn w0 w ((W.setCell ⟨B, 4, none⟩ (.int .i64 r)).setCell ⟨B, 5, none⟩ (.int .i64 k)) g B cv code { b with qr := r, qb := k } v := d4.put 5 (.int .i64 k) rfl ⟨d4.own.q, d4.own.p, d4.own.h, d4.own.t, d4.own.n⟩
  exact d5.put 6 u rfl ⟨(oq.olderC (Nat.lt_succ_self B) 4 _).olderC (Nat.lt_succ_self B) 5 _, d5.own.p, d5.own.h, d5.own.t, d5.own.n⟩
theorem blk_notgR {w w' : World} {B g : Nat} {t : TypeId} {cs : List Value} (h : Blk w B t cs) (hg : w.grownBy w' (some g)) (hne : B ≠ g) : Blk w' B t cs := (hg.block B h.lt (fun e => by simp only [Option.some.injEq] at e; omega)).trans h
theorem grw_trans9 {a b c : World} {g : Nat} (h : a.grownBy b (some g)) (k : b.grownBy c (some g)) : a.grownBy c (some g) := grw_trans h k
theorem dt_new (i r : Int) (s : ByteArray) (hs : s.size ≤ 9) : DtK ⟨i, 0, r, s, 0, -1, [], 0, [], [], [], false, [], ⟨#[]⟩⟩ := by
  have m : 1000 ≤ maxLen := by unfold maxLen; omega
  exact ⟨⟨by simp, by simp, by simp, by simp, by simp, by simp, by simp, by simp, by simp, by show s.size ≤ maxLen; omega, by show (0 : Nat) ≤ maxLen; omega⟩, rfl⟩
def nm3 : List ByteArray := [{ data := #[97] }, { data := #[98] }, { data := #[99] }]
theorem dt_qc {b : Bk} (h : DtK b) (qr qb : Int) : DtK { b with qr := qr, qb := qb, qw := nm3 } := by
  have m : 1000 ≤ maxLen := by unfold maxLen; omega
  refine ⟨⟨by simp [nm3], h.few.w, h.few.h, h.few.t, h.few.n, fun s hs => ?_, h.few.ws, h.few.ts, h.few.ns, h.few.ms, h.few.rs⟩, h.tr⟩
  have : s.size = 1 := by
    simp only [nm3, List.mem_cons, List.not_mem_nil, or_false] at hs
    rcases hs with rfl | rfl | rfl <;> rfl
  omega
theorem Rn.setId {w0 w W : World} {g B : Nat} {cv : Value} {code : List UInt8} {b : Bk} {v : Bv} (h : Rn w0 w W g B cv code b v) (hd : DtK b) (e : Int) : ∃ b' v', Rn w0 w (W.setCell ⟨B, 0, none⟩ (.int .i64 e)) g B cv code b' v' ∧ DtK b' :=
  ⟨{ b with id := e }, v, h.put 0 (.int .i64 e) rfl ⟨h.own.q, h.own.p, h.own.h, h.own.t, h.own.n⟩, ⟨⟨hd.few.q, hd.few.w, hd.few.h, hd.few.t, hd.few.n, hd.few.qs, hd.few.ws, hd.few.ts, hd.few.ns, hd.few.ms, hd.few.rs⟩, hd.tr⟩⟩
theorem Rn.setRd {w0 w W : World} {g B : Nat} {cv : Value} {code : List UInt8} {b : Bk} {v : Bv} (h : Rn w0 w W g B cv code b v) (hd : DtK b) (e : Int) : ∃ b' v', Rn w0 w (W.setCell ⟨B, 2, none⟩ (.int .i64 e)) g B cv code b' v' ∧ DtK b' :=
  ⟨{ b with rd := e }, v, h.put 2 (.int .i64 e) rfl ⟨h.own.q, h.own.p, h.own.h, h.own.t, h.own.n⟩, ⟨⟨hd.few.q, hd.few.w, hd.few.h, hd.few.t, hd.few.n, hd.few.qs, hd.few.ws, hd.few.ts, hd.few.ns, hd.few.ms, hd.few.rs⟩, hd.tr⟩⟩
def bvN : Bv := ⟨.slice none 0 0, .slice none 0 0, .slice none 0 0, .slice none 0 0, .slice none 0 0⟩
theorem own_bvN (base : Nat) (w : World) (i r : Int) (s : ByteArray) : OwnK base w ⟨i, 0, r, s, 0, -1, [], 0, [], [], [], false, [], ⟨#[]⟩⟩ bvN := ⟨World.ownsRow_nil _ _ _ _, World.ownsRow_nil _ _ _ _, World.ownsRow_nil _ _ _ _, World.ownsRow_nil _ _ _ _, World.ownsRow_nil _ _ _ _⟩
theorem ad_dt {l : List Bk} {b : Bk} (h : ∀ x ∈ l, DtK x) (hb : DtK b) : ∀ x ∈ (adS l b).1, DtK x := by
  intro x hx
  unfold adS at hx
  split at hx
  · exact h x hx
  · split at hx
    · rcases insK_mem x hx with rfl | h2
      · exact hb
      · exact h x h2
    · exact h x hx
theorem ad_tree {l : List Bk} {b : Bk} (h : (adS l b).2 = true) : treeB (adS l b).1 = true := by
  unfold adS at h ⊢
  split at h
  · cases h
  · split at h
    · rename_i h1 h2
      rw [if_neg h1, if_pos h2]
      exact h2
    · cases h
theorem ad_len (l : List Bk) (b : Bk) : (adS l b).1.length ≤ l.length + 1 := by
  unfold adS
  split
  · simp
  · split
    · rw [insK_len]; exact Nat.le_refl _
    · simp
theorem tree_nil : treeB [] = true := by decide
set_option maxRecDepth 20000 in
set_option maxHeartbeats 8000000 in
theorem l10Draw_any (w0 w : World) (g : Nat) (cv : Value) (code : List UInt8) (most : Nat) (hc : Cur w0 w g cv code) (hl : code.length ≤ 1048576) (hm : most ≤ 1000) :
    Calls Try.prog 35 #[.pointer (some ⟨g, 0, none⟩), .int .i64 (most : Int)] w fun e w' => ∃ (v : Value) (l : List Bk), e = .returned v ∧ OwnKs w.heap.size w' v l ∧ treeB l = true ∧ l.length ≤ 1000 ∧ (∀ x ∈ l, DtK x) ∧ Cur w0 w' g cv code ∧ w.grownBy w' (some g) := by
  have hgl := hc.lt
  obtain ⟨w1, hw1⟩ : ∃ w1, w.alloc (.cells #[] 37) = w1 := ⟨_, rfl⟩
  have hb1 : Below w.heap.size w w1 := by rw [← hw1]; exact (Below.refl _ w).alloc (Nat.le_refl _) _
  have O1 : Hid (OwnKs w.heap.size w1 (.slice (some ⟨w.heap.size, 0, none⟩) 0 0) []) := hide (by rw [← hw1]; exact own_nilKs w _ (Nat.le_refl _))
  have C1 := hide (hc.below hb1 hgl)
  have G1 := hide (grw_of_below (some g) hb1 (Nat.le_refl _))
  have hs1 : w1.heap.size = w.heap.size + 1 := by rw [← hw1]; simp
  have HS1 := hide hs1
  clear hc hb1 hs1
  go_enter Try.func35, Try.ntmps35
  go_wp2_with fail
  refine (l1Below_any w0 w1 g cv code (most : Int) C1.out hl (by omega) (by omega)).mono ?_
  rintro e w2 ⟨n, rfl, hn1, hn2, hc2, hg2⟩
  have hn : n ≤ 1000 := by
    by_cases h : 0 < (most : Int)
    · have := hn1 h; omega
    · have := hn2 (by omega); omega
  have O2 := hide (O1.out.notg hg2 hgl)
  have G2 := hide (grw_trans G1.out hg2)
  have C2 := hide hc2
  clear hn1 hn2 hc2 hg2 O1 G1 C1 hw1
  go_wp2
  go_loopw [6, 5] (fun iv ov wr => ∃ (i : Nat) (L : List Bk), iv = .int .i64 (i : Int) ∧ i + L.length ≤ n ∧ OwnKs w.heap.size wr ov L ∧ treeB L = true ∧ (∀ x ∈ L, DtK x) ∧ Cur w0 wr g cv code ∧ w.grownBy wr (some g)) (fun iv _ _ => (intOf iv).toNat)
  case atStart => exact ⟨n, [], rfl, by simp, O2.out, tree_nil, by simp, C2.out, G2.out⟩
  case round =>
    clear O2 G2 C2 HS1
    obtain ⟨i, L, rfl, hiL, ho, htb, hdt, hcr, hgr⟩ := hrel
    obtain ⟨oa, oc, rfl⟩ := ho.rd.shape
    have Htb := hide htb
    have Hdt := hide hdt
    have Ho := hide ho
    have Hgr := hide hgr
    have hglr : g < wr.heap.size := hcr.lt
    have hszr := hgr.size
    clear htb hdt ho hgr
    rcases i with _ | j
    · have hz : ((0 : Nat) : Int) = 0 := rfl
      rw [hz]
      have Hcr := hide hcr
      have hL9 : L.length ≤ 1000 := by omega
      clear hcr hz
      go_wp2
      go_ret
      exact ⟨_, L, rfl, Ho.out, Htb.out, hL9, Hdt.out, Hcr.out, Hgr.out⟩
    · have hjp : (0 : Int) < ((j + 1 : Nat) : Int) := by omega
      have hL9 : L.length ≤ 1000 := by omega
      go_wp2_with fail
      refine (l1Below_any w0 wr g cv code 2 hcr hl (by omega) (by omega)).mono ?_
      rintro e w3 ⟨x1, rfl, hx1, -, hc3, hg3⟩
      have hx1 := hx1 (by omega)
      go_wp2_with fail
      refine (l1Below_any w0 w3 g cv code 2 hc3 hl (by omega) (by omega)).mono ?_
      rintro e w4 ⟨x2, rfl, hx2, -, hc4, hg4⟩
      have hx2 := hx2 (by omega)
      go_wp2_with fail
      refine (l1Name_any w0 w4 g cv code hc4 hl).mono ?_
      rintro e w5 ⟨s, rfl, hss, hc5, hg5⟩
      have HG5 := hide (grw_trans (grw_trans hg3 hg4) hg5)
      have Hc5 := hide hc5
      clear hc3 hc4 hc5 hg3 hg4 hg5 hcr
      go_upto_region 6 with fail
      generalize hw6 : World.alloc w5 _ = w6
      have R6 : Rn w0 wr w6 g w5.heap.size cv code ⟨(L.length : Int) + (x1 : Int), 0, 1 + (x2 : Int), s, 0, -1, [], 0, [], [], [], false, [], ⟨#[]⟩⟩ bvN := by
        have b6 : Below w5.heap.size w5 w6 := by rw [← hw6]; exact (Below.refl _ w5).alloc (Nat.le_refl _) _
        exact ⟨by rw [← hw6]; exact Blk.new w5 _ _, HG5.out.size, own_bvN _ _ _ _ _, Hc5.out.below b6 Hc5.out.lt, grw_below HG5.out b6 HG5.out.size, hglr⟩
      have HD6 := hide (dt_new ((L.length : Int) + (x1 : Int)) (1 + (x2 : Int)) s hss)
      have HR6 := hide R6
      have hB5 := HG5.out.size
      clear hw6 R6 HG5 Hc5
      generalize hBB : w5.heap.size = B at *
      clear hBB
      by_cases hL : L = []
      · have hR := HR6.out
        have hD := HD6.out
        obtain ⟨b, hb9⟩ : ∃ b : Bk, (⟨(L.length : Int) + (x1 : Int), 0, 1 + (x2 : Int), s, 0, -1, [], 0, [], [], [], false, [], ⟨#[]⟩⟩ : Bk) = b := ⟨_, rfl⟩
        rw [hb9] at hR hD
        clear hb9 HR6 HD6
        subst hL
        have HoA : Hid (OwnKs w.heap.size wr (.slice oa 0 oc) []) := Ho
        clear Ho
        have hv9 : ∃ v : Bv, bvN = v := ⟨_, rfl⟩
        obtain ⟨v, hv9⟩ := hv9
        rw [hv9] at hR
        clear hv9

        have y0 := hR.o.cell 0
        have y1 := hR.o.cell 1
        have y2 := hR.o.cell 2
        have y3 := hR.o.cell 3
        have y4 := hR.o.cell 4
        have y5 := hR.o.cell 5
        have y6 := hR.o.cell 6
        have y7 := hR.o.cell 7
        have y8 := hR.o.cell 8
        have y9 := hR.o.cell 9
        have y10 := hR.o.cell 10
        have y11 := hR.o.cell 11
        have y12 := hR.o.cell 12
        have y13 := hR.o.cell 13
        simp only [bkC, List.getElem?_cons_zero, List.getElem?_cons_succ] at y0 y1 y2 y3 y4 y5 y6 y7 y8 y9 y10 y11 y12 y13
        have HA := hide (specAddTo_any (.slice oa 0 oc) [] b v w6 (HoA.out.notg hR.grw hgl).rd hR.own.rd (by first | omega | simp) (fun x hx => (Hdt.out x hx).few) hD.few (fun x hx => by rw [(Hdt.out x hx).tr]; omega) (by rw [hD.tr]; omega))
        have HOW := hide (HoA.out.notg hR.grw hgl)
        have HAD := hide (fun x hx => ad_dt Hdt.out hD x hx)
        have HAT := hide (fun h => ad_tree (l := []) (b := b) h)
        have hAL := ad_len [] b
        have HcW := hide hR.cur
        have HgW := hide (grw_trans9 Hgr.out hR.grw)
        have hWg := hR.cur.lt
        have hWs := hR.grw.size
        simp only [bkV] at HA
        generalize adS [] b = AD at HA HAD HAT hAL
        obtain ⟨L2, ok⟩ := AD
        simp only at HA HAD HAT hAL
        clear hR hD
        go_wp2_with fail
        refine HA.out.mono ?_
        rintro e w9 ⟨v9, rfl, o9, hb9⟩
        have HG9 := hide (grw_below HgW.out hb9 (by omega))
        have HC9 := hide (HcW.out.below hb9 hWg)
        have hL2s := o9.rd.shape
        cases ok
        · have HO9 := hide (HOW.out.below hb9 (Nat.le_refl _))
          clear o9 hb9 HA HAD HAT y0 y1 y2 y3 y4 y5 y6 y7 y8 y9 y10 y11 y12 y13
          go_wp2
          go_roundw
          case rel => exact ⟨j, [], by go_num, by first | omega | (simp; omega), HO9.out, Htb.out, Hdt.out, HC9.out, HG9.out⟩
          case measure => simp [intOf]; try omega
        · have HO9 := hide (o9.mono9L (show w.heap.size ≤ w6.heap.size by omega))
          have HT9 := hide (HAT.out rfl)
          clear o9 hb9 HA HAT y0 y1 y2 y3 y4 y5 y6 y7 y8 y9 y10 y11 y12 y13
          go_wp2
          go_roundw
          case rel => exact ⟨j, L2, by go_num, by first | omega | (simp at hAL hiL; omega), HO9.out, HT9.out, HAD.out, HC9.out, HG9.out⟩
          case measure => simp [intOf]; try omega
      · have hL1 : decide ((0 : Int) < (L.length : Int)) = true := decide_eq_true (by have := List.length_pos_iff.2 hL; omega)
        have hLp : 0 < L.length := List.length_pos_iff.2 hL
        have hLi : (0 : Int) < (L.length : Int) := by omega
        clear hL
        go_wp2_with fail
        refine (l1Once_any w0 w6 g cv code 5 HR6.out.cur hl (by omega) (by omega)).mono ?_
        rintro e w7 ⟨o1, rfl, hc7, hg7⟩
        have HR7 := hide (HR6.out.call hc7 hg7)
        clear hc7 hg7 HR6
        go_upto_if 38 with fail
        go_cut [8] from 15 to 82 (fun pv wc => ∃ (b : Bk) (v : Bv), Rn w0 wr wc g B cv code b v ∧ DtK b)
        case first =>
          cases o1
          · have hx9 : ∀ x3 : Nat, x3 < L.length → ∃ q : Nat, q < L.length ∧ (L.length : Int) - 1 - (x3 : Int) / 2 = (q : Int) := fun x3 h => ⟨L.length - 1 - x3 / 2, by omega, by omega⟩
            go_wp2_with fail
            refine (l1Below_any w0 w7 g cv code (L.length : Int) HR7.out.cur hl (by omega) (by omega)).mono ?_
            rintro e w8 ⟨x3, rfl, hx3, -, hc8, hg8⟩
            obtain ⟨q, hql, hqe⟩ := hx9 x3 (by have := hx3 hLi; omega)
            have HR8 := hide (HR7.out.call hc8 hg8)
            clear hc8 hg8 hx3 hx9 HR7
            have hq0 : (0 : Int) ≤ (q : Int) := by omega
            have hqi : (q : Int) < (L.length : Int) := by omega
            obtain ⟨b9, off9, hoa, h39, hcell⟩ := (Ho.out.notg HR8.out.grw hgl).rd.parts9 hLp
            subst hoa
            obtain ⟨lv, hat, hrl⟩ := hcell q hql
            obtain ⟨aq, cq, aw, cw, ah, ch, at_, ct, an, cn, rfl⟩ := hrl.shapes9
            obtain ⟨c0, c1, c2, c3, c4, c5, c6, c7, c8, c9, c10, c11, c12, c13⟩ := hat.cells
            simp only at c0 c1 c2 c3 c4 c5 c6 c7 c8 c9 c10 c11 c12 c13
            obtain ⟨lv2, hat2, -⟩ := hcell (L.length - 1) (by omega)
            have HL2 := hide hat2
            generalize L[q] = pq at c0 c1 c2 c3 c4 c5 c6 c7 c8 c9 c10 c11 c12 c13
            clear hat hrl hcell hat2
            have hL3 : ((L.length : Int) - 1) = ((L.length - 1 : Nat) : Int) := by omega
            have HL3 := hide hL3
            clear hL3
            go_upto_region 8 with fail
            generalize hw10 : World.alloc w8 _ = w10
            have b10 : Below w8.heap.size w8 w10 := by rw [← hw10]; exact (Below.refl _ w8).alloc (Nat.le_refl _) _
            have k10 : Blk w10 w8.heap.size 37 (bkC pq ⟨.slice aq pq.qw.length cq, .slice aw pq.tw.length cw, .slice ah pq.th.length ch, .slice at_ pq.ts.length ct, .slice an pq.nx.length cn⟩) := by rw [← hw10]; exact Blk.new w8 _ _
            have p0 := k10.cell 0
            have p2 := k10.cell 2
            have R10 := HR8.out.bel b10
            obtain ⟨w11, hw11⟩ : ∃ x, w10.alloc (.cells #[.string { data := #[97] }, .string { data := #[98] }, .string { data := #[99] }] 9) = x := ⟨_, rfl⟩
            have b11 : Below w10.heap.size w10 w11 := by rw [← hw11]; exact (Below.refl _ w10).alloc (Nat.le_refl _) _
            have R11 := R10.bel b11
            have hBlt := R10.o.lt
            have oq : OwnS (B + 1) w11 (.slice (some ⟨w10.heap.size, 0, none⟩) 3 3) nm3 := by rw [← hw11]; exact World.ownsRow_lit w10 #[.string { data := #[97] }, .string { data := #[98] }, .string { data := #[99] }] 3 (by omega) (by unfold maxLen; omega) (by simp)
            have R12 := R11.putQc pq.rd pq.id oq
            have z4 := R11.o.cell 4
            have z5 := R11.o.cell 5
            have z6 := R11.o.cell 6
            have f4 := R11.o.frozen 4
            have f5 := R11.o.frozen 5
            have f6 := R11.o.frozen 6
            have k11 := k10.below b11 k10.lt
            simp only [bkC, List.getElem?_cons_zero, List.getElem?_cons_succ] at p0 p2 z4 z5 z6
            have hB8 := HR8.out.o.lt
            have hPB : w8.heap.size ≠ B := by omega
            have k12 := ((k11.otherC B 4 (.int .i64 pq.rd) hPB).otherC B 5 (.int .i64 pq.id) hPB).otherC B 6 (.slice (some ⟨w10.heap.size, 0, none⟩) 3 3) hPB
            obtain ⟨w12, hw12⟩ : ∃ x, ((w11.setCell ⟨B, 4, none⟩ (.int .i64 pq.rd)).setCell ⟨B, 5, none⟩ (.int .i64 pq.id)).setCell ⟨B, 6, none⟩ (.slice (some ⟨w10.heap.size, 0, none⟩) 3 3) = x := ⟨_, rfl⟩
            rw [hw12] at R12 k12
            obtain ⟨b12, v12, R12, D12⟩ : ∃ (b : Bk) (v : Bv), Rn w0 wr w12 g B cv code b v ∧ DtK b := ⟨_, _, R12, dt_qc HD6.out _ _⟩
            have HR12 := hide R12
            have HD12 := hide D12
            have HK12 := hide k12
            clear hw10 b10 k10 R10 b11 R11 oq R12 D12 k11 k12 HR8 c0 c1 c2 c3 c4 c5 c6 c7 c8 c9 c10 c11 c12 c13 HL2
            go_upto_region 9 with fail
            obtain ⟨wI, hwI⟩ : ∃ x, w12.alloc (.cells #[.int .i64 0, .int .i64 0, .int .i64 0, .int .i64 1] 3) = x := ⟨_, rfl⟩
            have bI0 : Below w12.heap.size w12 wI := by rw [← hwI]; exact (Below.refl _ w12).alloc (Nat.le_refl _) _
            have bI : Below w12.heap.size w12 wI.drew := bI0.drew
            have R12b := HR12.out.bel bI
            have hIt : IntsAt wI.drew w12.heap.size [0, 0, 0, 1] := by rw [← hwI]; exact ints_new w12 [0, 0, 0, 1] 3
            have HI := hide (l1Int_any w0 wI.drew g w12.heap.size cv code [0, 0, 0, 1] R12b.cur hl hIt (by have := HR12.out.cur.lt; omega) (by simp) (by simp) 4)
            have q2d := (HK12.out.below bI0 HK12.out.lt).cell 2
            have HR12b := hide R12b
            have q2 := HK12.out.cell 2
            have HK12b := hide (HK12.out.below bI HK12.out.lt)
            have q2b := HK12b.out.cell 2
            simp only [bkC, List.getElem?_cons_zero, List.getElem?_cons_succ] at q2 q2b q2d
            have hPg : w8.heap.size ≠ g := by have := HR12.out.gl; have := HR12.out.lo; have := hB8; omega
            clear R12b bI bI0 hIt p0 p2 z4 z5 z6 f4 f5 f6 hw11 hw12
            go_region_law ((go_simp; go_at_call 88; refine HI.out.mono ?_; rintro e w13 ⟨n3, rfl, hn3, hc13, hg13⟩; have HR13 := hide (HR12b.out.call hc13 hg13); have q2c := (blk_notgR HK12b.out hg13 hPg).cell 2; have z2 := HR13.out.o.cell 2; have f2 := HR13.out.o.frozen 2; simp only [bkC, List.getElem?_cons_zero, List.getElem?_cons_succ] at q2c z2))
            all_goals
              generalize hw14 : World.setCell w13 _ _ = w14
              obtain ⟨b14, v14, R14, D14⟩ : ∃ (b : Bk) (v : Bv), Rn w0 wr w14 g B cv code b v ∧ DtK b := by rw [← hw14]; exact HR13.out.setRd HD12.out _
              obtain ⟨t, ht⟩ : ∃ t : Nat, L.length = t + 1 := ⟨L.length - 1, by omega⟩
              have hL3 : ((L.length : Int) - 1) = (t : Int) := by omega
              have ht0 : (0 : Int) ≤ (t : Int) := by omega
              have ht1 : (t : Int) < (L.length : Int) := by omega
              have htl : t < L.length := by omega
              obtain ⟨b8, off8, e8, h38, hcell8⟩ := (Ho.out.notg R14.grw hgl).rd.parts9 hLp
              simp only [Option.some.injEq, Addr.mk.injEq, and_true] at e8
              obtain ⟨rfl, rfl⟩ := e8
              obtain ⟨lv8, hat8, -⟩ := hcell8 t htl
              have c0 := hat8.cells.1
              have z0 := R14.o.cell 0
              have f0 := R14.o.frozen 0
              simp only [bkC, List.getElem?_cons_zero] at z0
              generalize L[t].id = td at c0
              have HR14 := hide R14
              have HD14 := hide D14
              clear ht hcell8 hat8 R14 D14 hw14 q2c z2 f2 HR13 HR12 HR12b HK12 HK12b q2 q2b q2d
              go_wp2
              go_meet
              exact HR14.out.setId HD14.out _
          · go_wp2
            go_meet
            exact ⟨_, _, HR7.out, HD6.out⟩
        case rest =>
          obtain ⟨b, v, hR, hD⟩ := hcut
          clear HD6 HR7

          have y0 := hR.o.cell 0
          have y1 := hR.o.cell 1
          have y2 := hR.o.cell 2
          have y3 := hR.o.cell 3
          have y4 := hR.o.cell 4
          have y5 := hR.o.cell 5
          have y6 := hR.o.cell 6
          have y7 := hR.o.cell 7
          have y8 := hR.o.cell 8
          have y9 := hR.o.cell 9
          have y10 := hR.o.cell 10
          have y11 := hR.o.cell 11
          have y12 := hR.o.cell 12
          have y13 := hR.o.cell 13
          simp only [bkC, List.getElem?_cons_zero, List.getElem?_cons_succ] at y0 y1 y2 y3 y4 y5 y6 y7 y8 y9 y10 y11 y12 y13
          have HA := hide (specAddTo_any (.slice oa L.length oc) L b v wc (Ho.out.notg hR.grw hgl).rd hR.own.rd (by first | omega | simp) (fun x hx => (Hdt.out x hx).few) hD.few (fun x hx => by rw [(Hdt.out x hx).tr]; omega) (by rw [hD.tr]; omega))
          have HOW := hide (Ho.out.notg hR.grw hgl)
          have HAD := hide (fun x hx => ad_dt Hdt.out hD x hx)
          have HAT := hide (fun h => ad_tree (l := L) (b := b) h)
          have hAL := ad_len L b
          have HcW := hide hR.cur
          have HgW := hide (grw_trans9 Hgr.out hR.grw)
          have hWg := hR.cur.lt
          have hWs := hR.grw.size
          simp only [bkV] at HA
          generalize adS L b = AD at HA HAD HAT hAL
          obtain ⟨L2, ok⟩ := AD
          simp only at HA HAD HAT hAL
          clear hR hD
          go_wp2_with fail
          refine HA.out.mono ?_
          rintro e w9 ⟨v9, rfl, o9, hb9⟩
          have HG9 := hide (grw_below HgW.out hb9 (by omega))
          have HC9 := hide (HcW.out.below hb9 hWg)
          have hL2s := o9.rd.shape
          cases ok
          · have HO9 := hide (HOW.out.below hb9 (Nat.le_refl _))
            clear o9 hb9 HA HAD HAT y0 y1 y2 y3 y4 y5 y6 y7 y8 y9 y10 y11 y12 y13
            go_wp2
            go_roundw
            case rel => exact ⟨j, L, by go_num, by first | omega | (simp; omega), HO9.out, Htb.out, Hdt.out, HC9.out, HG9.out⟩
            case measure => simp [intOf]; try omega
          · have HO9 := hide (o9.mono9L (show w.heap.size ≤ wc.heap.size by omega))
            have HT9 := hide (HAT.out rfl)
            clear o9 hb9 HA HAT y0 y1 y2 y3 y4 y5 y6 y7 y8 y9 y10 y11 y12 y13
            go_wp2
            go_roundw
            case rel => exact ⟨j, L2, by go_num, by first | omega | (simp at hAL hiL; omega), HO9.out, HT9.out, HAD.out, HC9.out, HG9.out⟩
            case measure => simp [intOf]; try omega
end Go.Proofs.Ytbjeonnaannofaa
