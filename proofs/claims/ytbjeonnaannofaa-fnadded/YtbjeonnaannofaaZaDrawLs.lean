/- Blocks drawn, bent or not; trees drawn, with a block more or less, or not. -/
import Derived.Test.YtbjeonnaannofaaZaDrawBd
import Derived.Test.YtbjeonnaannofaaZaDrawTr
namespace Go.Proofs.Ytbjeonnaannofaa
open Go.RowKit
set_option linter.unusedVariables false

/-- What stands in a drawn list of blocks. -/
structure Lk (b : Bk) : Prop where
  few : FewK b
  tr : 0 ≤ b.tr ∧ b.tr ≤ 5
  ie : (-1 ≤ b.id ∧ b.id ≤ 100001) ∧ -1 ≤ b.ep ∧ b.ep ≤ 901
  rd : 0 ≤ b.rd ∧ b.rd ≤ 10001
theorem SmB.lk {b : Bk} (h : SmB b) : Lk b := ⟨h.few, h.tr, h.ie, h.rd⟩
theorem DtK.lk {b : Bk} (h : DtK b) (hb : blB b = true) : Lk b := by
  unfold blB inB at hb
  simp only [Bool.and_eq_true, decide_eq_true_eq] at hb
  exact ⟨h.few, by rw [h.tr]; omega, by omega, by omega⟩
theorem Lk.bd {b : Bk} (h : Lk b) : -9223372036854775808 ≤ b.tr ∧ b.tr ≤ 9223372036854775807 := by have := h.tr; omega
theorem OwnK.othD {S : Nat → Prop} {base : Nat} {w w' : World} {b : Bk} {v : Bv} (h : OwnK base w b v) (hO : Oth S w w') (hn : ∀ g, v.has g → ¬ S g) : OwnK base w' b v :=
  ⟨row_oth h.q hO (fun g e => hn g (.inl e)), row_oth h.p hO (fun g e => hn g (.inr (.inl e))), row_oth h.h hO (fun g e => hn g (.inr (.inr (.inl e)))), row_oth h.t hO (fun g e => hn g (.inr (.inr (.inr (.inl e))))), row_oth h.n hO (fun g e => hn g (.inr (.inr (.inr (.inr e)))))⟩
theorem OwnKs.othD {S : Nat → Prop} {base : Nat} {w w' : World} {v : Value} {l : List Bk} (h : OwnKs base w v l) (hO : Oth S w w') (hn : ∀ g, base ≤ g → g < w.heap.size → ¬ S g) : OwnKs base w' v l := by
  obtain ⟨g, cap, Z, hZ, rfl, hr, hk⟩ := h
  refine ⟨g, cap, Z, hZ, rfl, row_oth hr hO (fun x hx => ?_), ?_⟩
  · have := World.ownsRow.lt hr x hx
    exact hn x this.1 this.2
  · exact ⟨fun i hi => (hk.own i hi).othD hO (fun x hx => by have := (hk.own i hi).in9 x hx; exact hn x this.1 this.2), hk.far, hk.inner, hk.apart⟩
/-- The slice v reads as the blocks l, and goes on so, whatever becomes of blocks below n and of new ones. -/
def Stay (w : World) (n : Nat) (v : Value) (l : List Bk) : Prop := ∀ W, Oth (fun k => k < n) w W → RdKs W v l
theorem Stay.rd {w : World} {n : Nat} {v : Value} {l : List Bk} (h : Stay w n v l) : RdKs w v l := h w (Oth.refl _ _)
theorem Stay.step {w W : World} {n : Nat} {v : Value} {l : List Bk} (h : Stay w n v l) (hO : Oth (fun k => k < n) w W) : Stay W n v l := fun W' h' => h W' (hO.trans h')
theorem Stay.call {w W : World} {n c : Nat} {v : Value} {l : List Bk} (h : Stay w n v l) (hg : w.grownBy W (some c)) (hc : c < n) : Stay W n v l := h.step (Oth.of_grown hg (fun k e => by cases e; exact hc))
theorem Stay.bel {w W : World} {n : Nat} {v : Value} {l : List Bk} (h : Stay w n v l) (hb : Below w.heap.size w W) : Stay W n v l := h.step (Oth.of_below hb)
theorem Stay.set {w : World} {n : Nat} {v : Value} {l : List Bk} (h : Stay w n v l) (g j : Nat) (u : Value) (hg : g < n) : Stay (w.setCell ⟨g, j, none⟩ u) n v l := h.step ((Oth.refl _ w).set (S := fun k => k < n) hg j u)
theorem OwnKs.stay {base n : Nat} {w : World} {v : Value} {l : List Bk} (h : OwnKs base w v l) (hn : n ≤ base) : Stay w n v l := fun W hO => (h.othD hO (fun g h1 _ h2 => by omega)).rd
/-- A row of the call's own, and one block more behind it: what is read then. -/
theorem rdKs_grow {base n : Nat} {w w' : World} {g : Nat} {l : List Bk} {Z : List (Bk × Bv)} {b : Bk} {bv : Bv} {v' : Value} (hZ : Z.map (·.1) = l) (hk : Kvs base w g Z)
    (hob : OwnK n w b bv) (hgn : g < n)
    (ho' : w'.ownsRow base 37 14 v' (l.length + 1) ((Z.map bkP).flatten ++ bkC b bv)) (hgr : w.grownBy w' (some g)) {c : Nat} (hcb : c ≤ base) (hcn : c ≤ n) : Stay w' c v' (l ++ [b]) := by
  intro W hW
  have hlen : Z.length = l.length := by rw [← hZ]; simp
  rcases ho'.2 with ⟨-, h0⟩ | ⟨g', cap', cur, hv', hb, hg, hnc, hcm, hcs, ht⟩
  · omega
  · subst hv'
    have ho3 : w'.ownsRow base 37 14 (.slice (some ⟨g', 0, none⟩) (l.length + 1) cap') (l.length + 1) ((Z ++ [(b, bv)]).map bkP).flatten := by
      rw [List.map_append, List.flatten_append]
      simpa [bkP] using ho'
    have hgs : g' < w'.heap.size := (Array.getElem?_eq_some_iff.1 hg).1
    have ho4 := row_oth ho3 hW (fun k e h => by simp only [Value.ownBlock, Option.some.injEq] at e; omega)
    refine .inr ⟨g', 0, cap', by simp, by simp, by simpa using hnc, hcm, by have := hW.size; omega, fun i hi => ?_⟩
    have hi' : i < (Z ++ [(b, bv)]).length := by simp at hi ⊢; omega
    have e : (l ++ [b])[i] = (Z ++ [(b, bv)])[i].1 := by
      have : l ++ [b] = (Z ++ [(b, bv)]).map (·.1) := by simp [hZ]
      simp only [this, List.getElem_map]
    refine ⟨(Z ++ [(b, bv)])[i].2, by rw [e]; exact rowP_at ho4 (by simp [hlen]) i hi', ?_⟩
    rw [e]
    by_cases h : i < Z.length
    · rw [List.getElem_append_left h]
      exact (((hk.own i h).grown9 hgr (hk.far i h)).othD hW (fun x e h2 => by have := ((hk.own i h).in9 x e).1; omega)).rd
    · have e2 : (Z ++ [(b, bv)])[i] = (b, bv) := by
        have : i = Z.length := by simp at hi'; omega
        subst this; simp
      rw [e2]
      exact ((hob.grown9 hgr (fun e => by have := (hob.in9 g e).1; omega)).othD hW (fun x e h2 => by have := (hob.in9 x e).1; omega)).rd
theorem app_rdKs {ops : Array Oper} {rest : List Oper} {o : Oper} {a : Act} {Q : Exit → Act → World → Prop} (w : World) (hgd : o.guard = none) (s x : Operand)
    (ho : o.op = .call { callee := .builtin .append, args := #[s, x], argTypes := #[24, 24] })
    (base n : Nat) (v : Value) (G : Nat) (l : List Bk) (b : Bk) (bv : Bv) (hs : a.eval s = v) (hx : a.eval x = .slice (some ⟨G, 0, none⟩) 1 1) (hown : OwnKs base w v l) (hblk : Blk w G 37 (bkC b bv))
    (hob : OwnK n w b bv) (hn : ∀ k, v.ownBlock = some k → k < n) (hlen : l.length ≤ 4000000) (hbase : base ≤ w.heap.size)
    (h : ∀ v' w', (∀ c, c ≤ base → c ≤ n → Stay w' c v' (l ++ [b])) → Below base w w' → wpList Try.prog ops Q rest (a.put o.dst v') w') : wpList Try.prog ops Q (o :: rest) a w := by
  obtain ⟨g, cap, Z, hZ, rfl, hrow, hk⟩ := hown
  have hone : ∀ u ∈ bkC b bv, u.oneCell' = true := List.all_eq_true.1 (bkC_one hob.rd)
  obtain ⟨i0, hi, hz0, hz1, hz2⟩ := info_parts Try.infoBk
  refine wpList_append_own_at w hgd s x 24 ho base 37 i0 _ 14 208 Try.underlying24 hi hz0 hz1 hz2 rfl (by decide) _ l.length (Z.map bkP).flatten hs hrow ⟨G, 0, none⟩ 1 1 (bkC b bv) hx rfl (fun j u hj => by rw [add_flatK, Nat.zero_add, hblk.cell j]; exact hj) (fun u hu => hone u hu) (by unfold maxLen; omega) (by omega) hbase ?_
  intro v' w' ho' hgr _ _
  exact h v' w' (fun c h1 h2 => rdKs_grow hZ hk hob (hn g rfl) ho' hgr h1 h2) ((Below.refl _ _).grown hgr hbase (fun k hk => by cases hk; exact (World.ownsRow.lt hrow g rfl).1))
/-- A row without its first. -/
theorem RdKs.tail9 {w : World} {b off cap : Nat} {l : List Bk} (h : RdKs w (.slice (some ⟨b, off, none⟩) l.length cap) l) (hl : 0 < l.length) : RdKs w (.slice (some ⟨b, off + 14, none⟩) (l.length - 1) (cap - 1)) (l.drop 1) := by
  rcases h with ⟨a, c, hv, rfl, -⟩ | ⟨b', off', c, h0, hv, h1, h2, h3, h4⟩
  · simp at hl
  · simp only [Value.slice.injEq, Option.some.injEq, Addr.mk.injEq, and_true, true_and] at hv
    obtain ⟨⟨rfl, rfl⟩, rfl⟩ := hv
    by_cases h5 : l.length = 1
    · have e : l.drop 1 = [] := List.drop_eq_nil_of_le (by omega)
      rw [e, h5]
      exact .inl ⟨_, _, rfl, rfl, fun h => by cases h⟩
    · refine .inr ⟨b, off + 14, cap - 1, fun e => ?_, by simp, by simp; omega, by omega, h3, fun i hi => ?_⟩
      · have := congrArg List.length e; simp at this; omega
      · simp only [List.length_drop] at hi
        obtain ⟨bv, k1, k2⟩ := h4 (i + 1) (by omega)
        refine ⟨bv, ?_, by simpa [Nat.add_comm] using k2⟩
        have e2 : off + (i + 1) * 14 = off + 14 + i * 14 := by omega
        rw [e2] at k1
        simpa [Nat.add_comm] using k1
set_option maxRecDepth 20000 in
set_option maxHeartbeats 8000000 in
theorem l9Any_any (w0 w : World) (g : Nat) (cv : Value) (code : List UInt8) (hc : Cur w0 w g cv code) (hl : code.length ≤ 1048576) :
    Calls Try.prog 44 #[.pointer (some ⟨g, 0, none⟩)] w fun e w' => ∃ (b : Bk) (v : Bv), e = .returned (bkV b v) ∧ OwnK w.heap.size w' b v ∧ SmB b ∧ Cur w0 w' g cv code ∧ w.grownBy w' (some g) := by
  have hgl := hc.lt
  obtain ⟨w1, hw1⟩ : ∃ w1, w.alloc (.cells #[.int .i64 0, .int .i64 0, .int .i64 0, .string { data := #[] }, .int .i64 0, .int .i64 0, .slice none 0 0, .int .i64 0, .slice none 0 0, .slice none 0 0, .slice none 0 0, .bool false, .slice none 0 0, .string { data := #[] }] 37) = w1 := ⟨_, rfl⟩
  have hb1 : Below w.heap.size w w1 := by rw [← hw1]; exact (Below.refl _ w).alloc (Nat.le_refl _) _
  have hs1 : w1.heap.size = w.heap.size + 1 := by rw [← hw1]; simp
  have K1 : Hid (Blk w1 w.heap.size 37 [.int .i64 0, .int .i64 0, .int .i64 0, .string { data := #[] }, .int .i64 0, .int .i64 0, .slice none 0 0, .int .i64 0, .slice none 0 0, .slice none 0 0, .slice none 0 0, .bool false, .slice none 0 0, .string { data := #[] }]) := hide (by rw [← hw1]; exact Blk.new w _ _)
  have Hc1 := hide (hc.below hb1 hgl)
  have HG1 := hide (grw_of_below (some g) hb1 (Nat.le_refl _))
  have Hs1 := hide hs1
  clear hc hb1 hs1
  go_enter Try.func44, Try.ntmps44
  go_wp2_with fail
  refine (l9Draw_any w0 _ g cv code Hc1.out hl).mono ?_
  rintro e w2 ⟨b, v, rfl, o2, hS, hc2, hg2⟩
  have HK := hide hS
  have z1 := Hs1.out
  have z2 := hg2.size
  have k2 := blk_notg5 K1.out hg2 (by omega)
  have hG2 := grw_trans HG1.out hg2
  obtain ⟨vq, vw, vh, vt, vn⟩ := v
  obtain ⟨aq, cq, hvq⟩ := o2.q.rd.shape
  obtain ⟨aw, cw, hvw⟩ := o2.p.rd.shape
  obtain ⟨ah, ch, hvh⟩ := o2.h.rd.shape
  obtain ⟨at_, ct, hvt⟩ := o2.t.rd.shape
  obtain ⟨an, cn, hvn⟩ := o2.n.rd.shape
  simp only at hvq hvw hvh hvt hvn
  subst hvq hvw hvh hvt hvn
  simp only [bkV]
  obtain ⟨w3, hw3⟩ : ∃ x, w2.alloc (.cells #[.int .i64 b.id, .int .i64 b.ep, .int .i64 b.rd, .string b.md, .int .i64 b.qr, .int .i64 b.qb, .slice aq b.qw.length cq, .int .i64 b.tr, .slice aw b.tw.length cw, .slice ah b.th.length ch, .slice at_ b.ts.length ct, .bool b.en, .slice an b.nx.length cn, .string b.rt] 37) = x := ⟨_, rfl⟩
  have b3 : Below w2.heap.size w2 w3 := by rw [← hw3]; exact (Below.refl _ w2).alloc (Nat.le_refl _) _
  have t3 : Blk w3 w2.heap.size 37 [.int .i64 b.id, .int .i64 b.ep, .int .i64 b.rd, .string b.md, .int .i64 b.qr, .int .i64 b.qb, .slice aq b.qw.length cq, .int .i64 b.tr, .slice aw b.tw.length cw, .slice ah b.th.length ch, .slice at_ b.ts.length ct, .bool b.en, .slice an b.nx.length cn, .string b.rt] := by rw [← hw3]; exact Blk.new w2 _ _
  have k3 := k2.below b3 k2.lt
  have hc3 := hc2.below b3 hc2.lt
  have z3 : w2.heap.size < w3.heap.size := t3.lt
  have hG3 := grw_trans hG2 (grw_of_below (some g) b3 (Nat.le_refl _))
  have o3 := o2.below9 b3 (Nat.le_refl _)
  have Hw3 := hide hw3
  have Hin : Hid (∀ k, (⟨.slice aq b.qw.length cq, .slice aw b.tw.length cw, .slice ah b.th.length ch, .slice at_ b.ts.length ct, .slice an b.nx.length cn⟩ : Bv).has k → k < w2.heap.size) := hide (fun k hk => (o2.in9 k hk).2)
  clear hw3 o2 hc2 hg2 k2 hG2 hS K1 HG1 Hc1 b3 hw1
  have HT3 := hide t3
  have HK3 := hide k3
  have HO3 := hide o3
  have HC3 := hide hc3
  have HG3 := hide hG3
  have Hz1 := hide z1
  clear t3 k3 o3 hc3 hG3 z1
  go_wp2_with fail
  rw [Hw3.out]
  clear Hw3
  refine (l1Once_any w0 _ g cv code 4 HC3.out hl (by omega) (by omega)).mono ?_
  rintro e w4 ⟨o1, rfl, hc4, hg4⟩
  have z4 := hg4.size
  have z1 := Hz1.out
  have t4 := blk_notg5 HT3.out hg4 (by omega)
  have k4 := blk_notg5 HK3.out hg4 (by omega)
  have o4 := HO3.out.grown9 hg4 (fun e => by have := (HO3.out.in9 _ e).1; omega)
  have hG4 := grw_trans HG3.out hg4
  clear HT3 HK3 HO3 HC3 HG3 hg4 Hz1
  cases o1
  · have oE := o4
    have cE := hc4
    have gE := hG4
    have tE := t4
    have kE := k4
    clear o4 hc4 hG4 t4 k4
    have HQ := hide ((oE.q.put14 (g := w.heap.size) (by omega) (.int .i64 b.id) (.int .i64 b.ep) (.int .i64 b.rd) (.string b.md) (.int .i64 b.qr) (.int .i64 b.qb) (.slice aq b.qw.length cq) (.int .i64 b.tr) (.slice aw b.tw.length cw) (.slice ah b.th.length ch) (.slice at_ b.ts.length ct) (.bool b.en) (.slice an b.nx.length cn) (.string b.rt)).mono (show w.heap.size ≤ w1.heap.size by omega))
    have HP := hide ((oE.p.put14 (g := w.heap.size) (by omega) (.int .i64 b.id) (.int .i64 b.ep) (.int .i64 b.rd) (.string b.md) (.int .i64 b.qr) (.int .i64 b.qb) (.slice aq b.qw.length cq) (.int .i64 b.tr) (.slice aw b.tw.length cw) (.slice ah b.th.length ch) (.slice at_ b.ts.length ct) (.bool b.en) (.slice an b.nx.length cn) (.string b.rt)).mono (show w.heap.size ≤ w1.heap.size by omega))
    have HH := hide ((oE.h.put14 (g := w.heap.size) (by omega) (.int .i64 b.id) (.int .i64 b.ep) (.int .i64 b.rd) (.string b.md) (.int .i64 b.qr) (.int .i64 b.qb) (.slice aq b.qw.length cq) (.int .i64 b.tr) (.slice aw b.tw.length cw) (.slice ah b.th.length ch) (.slice at_ b.ts.length ct) (.bool b.en) (.slice an b.nx.length cn) (.string b.rt)).mono (show w.heap.size ≤ w1.heap.size by omega))
    have HT := hide ((oE.t.put14 (g := w.heap.size) (by omega) (.int .i64 b.id) (.int .i64 b.ep) (.int .i64 b.rd) (.string b.md) (.int .i64 b.qr) (.int .i64 b.qb) (.slice aq b.qw.length cq) (.int .i64 b.tr) (.slice aw b.tw.length cw) (.slice ah b.th.length ch) (.slice at_ b.ts.length ct) (.bool b.en) (.slice an b.nx.length cn) (.string b.rt)).mono (show w.heap.size ≤ w1.heap.size by omega))
    have HN := hide ((oE.n.put14 (g := w.heap.size) (by omega) (.int .i64 b.id) (.int .i64 b.ep) (.int .i64 b.rd) (.string b.md) (.int .i64 b.qr) (.int .i64 b.qb) (.slice aq b.qw.length cq) (.int .i64 b.tr) (.slice aw b.tw.length cw) (.slice ah b.th.length ch) (.slice at_ b.ts.length ct) (.bool b.en) (.slice an b.nx.length cn) (.string b.rt)).mono (show w.heap.size ≤ w1.heap.size by omega))
    have hbR := below_put14 w4 w.heap.size (.int .i64 b.id) (.int .i64 b.ep) (.int .i64 b.rd) (.string b.md) (.int .i64 b.qr) (.int .i64 b.qb) (.slice aq b.qw.length cq) (.int .i64 b.tr) (.slice aw b.tw.length cw) (.slice ah b.th.length ch) (.slice at_ b.ts.length ct) (.bool b.en) (.slice an b.nx.length cn) (.string b.rt)
    have HC := hide (cE.below hbR hgl)
    have HG := hide (grw_below gE hbR (Nat.le_refl _))
    have t0 := tE.cell 0
    have e0 := kE.cell 0
    have f0 := kE.frozen 0
    have t1 := tE.cell 1
    have e1 := kE.cell 1
    have f1 := kE.frozen 1
    have t2 := tE.cell 2
    have e2 := kE.cell 2
    have f2 := kE.frozen 2
    have t3 := tE.cell 3
    have e3 := kE.cell 3
    have f3 := kE.frozen 3
    have t4 := tE.cell 4
    have e4 := kE.cell 4
    have f4 := kE.frozen 4
    have t5 := tE.cell 5
    have e5 := kE.cell 5
    have f5 := kE.frozen 5
    have t6 := tE.cell 6
    have e6 := kE.cell 6
    have f6 := kE.frozen 6
    have t7 := tE.cell 7
    have e7 := kE.cell 7
    have f7 := kE.frozen 7
    have t8 := tE.cell 8
    have e8 := kE.cell 8
    have f8 := kE.frozen 8
    have t9 := tE.cell 9
    have e9 := kE.cell 9
    have f9 := kE.frozen 9
    have t10 := tE.cell 10
    have e10 := kE.cell 10
    have f10 := kE.frozen 10
    have t11 := tE.cell 11
    have e11 := kE.cell 11
    have f11 := kE.frozen 11
    have t12 := tE.cell 12
    have e12 := kE.cell 12
    have f12 := kE.frozen 12
    have t13 := tE.cell 13
    have e13 := kE.cell 13
    have f13 := kE.frozen 13
    simp only [List.getElem?_cons_zero, List.getElem?_cons_succ] at t0 e0 t1 e1 t2 e2 t3 e3 t4 e4 t5 e5 t6 e6 t7 e7 t8 e8 t9 e9 t10 e10 t11 e11 t12 e12 t13 e13
    clear oE cE gE tE kE hbR
    go_wp2
    refine bodyPost_ret (v := .agg #[.int .i64 b.id, .int .i64 b.ep, .int .i64 b.rd, .string b.md, .int .i64 b.qr, .int .i64 b.qb, .slice aq b.qw.length cq, .int .i64 b.tr, .slice aw b.tw.length cw, .slice ah b.th.length ch, .slice at_ b.ts.length ct, .bool b.en, .slice an b.nx.length cn, .string b.rt]) (by simp [results, Try.f44, go_sem, e0, e1, e2, e3, e4, e5, e6, e7, e8, e9, e10, e11, e12, e13]) rfl ?_
    exact ⟨b, ⟨_, _, _, _, _⟩, rfl, ⟨HQ.out, HP.out, HH.out, HT.out, HN.out⟩, HK.out.bent, HC.out, HG.out⟩
  · have HB := hide (l9Bend_any w0 w4 g cv code b ⟨.slice aq b.qw.length cq, .slice aw b.tw.length cw, .slice ah b.th.length ch, .slice at_ b.ts.length ct, .slice an b.nx.length cn⟩ hc4 hl o4.rd HK.out)
    simp only [bkV] at HB
    have x0 := t4.cell 0
    have x1 := t4.cell 1
    have x2 := t4.cell 2
    have x3 := t4.cell 3
    have x4 := t4.cell 4
    have x5 := t4.cell 5
    have x6 := t4.cell 6
    have x7 := t4.cell 7
    have x8 := t4.cell 8
    have x9 := t4.cell 9
    have x10 := t4.cell 10
    have x11 := t4.cell 11
    have x12 := t4.cell 12
    have x13 := t4.cell 13
    simp only [List.getElem?_cons_zero, List.getElem?_cons_succ] at x0 x1 x2 x3 x4 x5 x6 x7 x8 x9 x10 x11 x12 x13
    have HT4 := hide t4
    have HK4 := hide k4
    have HG4 := hide hG4
    clear t4 k4 hG4 o4 hc4
    go_wp2_with fail
    refine HB.out.mono ?_
    rintro e w5 ⟨b', v5, rfl, o5, hS5, hc5, hg5⟩
    have HS5 := hide hS5
    have z5 := hg5.size
    have t5 := blk_notg5 HT4.out hg5 (by omega)
    have k5 := blk_notg5 HK4.out hg5 (by omega)
    have hG5 := grw_trans HG4.out hg5
    clear x0 x1 x2 x3 x4 x5 x6 x7 x8 x9 x10 x11 x12 x13 HB HT4 HK4 HG4 hS5
    obtain ⟨vq5, vw5, vh5, vt5, vn5⟩ := v5
    obtain ⟨aq5, cq5, hvq5⟩ := o5.q.rd.shape
    obtain ⟨aw5, cw5, hvw5⟩ := o5.p.rd.shape
    obtain ⟨ah5, ch5, hvh5⟩ := o5.h.rd.shape
    obtain ⟨at5, ct5, hvt5⟩ := o5.t.rd.shape
    obtain ⟨an5, cn5, hvn5⟩ := o5.n.rd.shape
    simp only at hvq5 hvw5 hvh5 hvt5 hvn5
    subst hvq5 hvw5 hvh5 hvt5 hvn5
    simp only
    have y0 := t5.cell 0
    have g0 := t5.frozen 0
    have y1 := t5.cell 1
    have g1 := t5.frozen 1
    have y2 := t5.cell 2
    have g2 := t5.frozen 2
    have y3 := t5.cell 3
    have g3 := t5.frozen 3
    have y4 := t5.cell 4
    have g4 := t5.frozen 4
    have y5 := t5.cell 5
    have g5 := t5.frozen 5
    have y6 := t5.cell 6
    have g6 := t5.frozen 6
    have y7 := t5.cell 7
    have g7 := t5.frozen 7
    have y8 := t5.cell 8
    have g8 := t5.frozen 8
    have y9 := t5.cell 9
    have g9 := t5.frozen 9
    have y10 := t5.cell 10
    have g10 := t5.frozen 10
    have y11 := t5.cell 11
    have g11 := t5.frozen 11
    have y12 := t5.cell 12
    have g12 := t5.frozen 12
    have y13 := t5.cell 13
    have g13 := t5.frozen 13
    simp only [List.getElem?_cons_zero, List.getElem?_cons_succ] at y0 y1 y2 y3 y4 y5 y6 y7 y8 y9 y10 y11 y12 y13
    obtain ⟨S1, hS1⟩ : ∃ x, ((((((((((((((w5).setCell ⟨w2.heap.size, 0, none⟩ (.int .i64 b'.id)).setCell ⟨w2.heap.size, 1, none⟩ (.int .i64 b'.ep)).setCell ⟨w2.heap.size, 2, none⟩ (.int .i64 b'.rd)).setCell ⟨w2.heap.size, 3, none⟩ (.string b'.md)).setCell ⟨w2.heap.size, 4, none⟩ (.int .i64 b'.qr)).setCell ⟨w2.heap.size, 5, none⟩ (.int .i64 b'.qb)).setCell ⟨w2.heap.size, 6, none⟩ (.slice aq5 b'.qw.length cq5)).setCell ⟨w2.heap.size, 7, none⟩ (.int .i64 b'.tr)).setCell ⟨w2.heap.size, 8, none⟩ (.slice aw5 b'.tw.length cw5)).setCell ⟨w2.heap.size, 9, none⟩ (.slice ah5 b'.th.length ch5)).setCell ⟨w2.heap.size, 10, none⟩ (.slice at5 b'.ts.length ct5)).setCell ⟨w2.heap.size, 11, none⟩ (.bool b'.en)).setCell ⟨w2.heap.size, 12, none⟩ (.slice an5 b'.nx.length cn5)).setCell ⟨w2.heap.size, 13, none⟩ (.string b'.rt) = x := ⟨_, rfl⟩
    have hbp := below_put14 w5 w2.heap.size (.int .i64 b'.id) (.int .i64 b'.ep) (.int .i64 b'.rd) (.string b'.md) (.int .i64 b'.qr) (.int .i64 b'.qb) (.slice aq5 b'.qw.length cq5) (.int .i64 b'.tr) (.slice aw5 b'.tw.length cw5) (.slice ah5 b'.th.length ch5) (.slice at5 b'.ts.length ct5) (.bool b'.en) (.slice an5 b'.nx.length cn5) (.string b'.rt)
    have tE : Blk S1 w2.heap.size 37 [.int .i64 b'.id, .int .i64 b'.ep, .int .i64 b'.rd, .string b'.md, .int .i64 b'.qr, .int .i64 b'.qb, .slice aq5 b'.qw.length cq5, .int .i64 b'.tr, .slice aw5 b'.tw.length cw5, .slice ah5 b'.th.length ch5, .slice at5 b'.ts.length ct5, .bool b'.en, .slice an5 b'.nx.length cn5, .string b'.rt] := by rw [← hS1]; exact ((((((((((((((t5.setC 0 _).setC 1 _).setC 2 _).setC 3 _).setC 4 _).setC 5 _).setC 6 _).setC 7 _).setC 8 _).setC 9 _).setC 10 _).setC 11 _).setC 12 _).setC 13 _)
    have kE : Blk S1 w.heap.size 37 [.int .i64 0, .int .i64 0, .int .i64 0, .string { data := #[] }, .int .i64 0, .int .i64 0, .slice none 0 0, .int .i64 0, .slice none 0 0, .slice none 0 0, .slice none 0 0, .bool false, .slice none 0 0, .string { data := #[] }] := by rw [← hS1]; exact ((((((((((((((k5.otherC w2.heap.size 0 _ (by omega)).otherC w2.heap.size 1 _ (by omega)).otherC w2.heap.size 2 _ (by omega)).otherC w2.heap.size 3 _ (by omega)).otherC w2.heap.size 4 _ (by omega)).otherC w2.heap.size 5 _ (by omega)).otherC w2.heap.size 6 _ (by omega)).otherC w2.heap.size 7 _ (by omega)).otherC w2.heap.size 8 _ (by omega)).otherC w2.heap.size 9 _ (by omega)).otherC w2.heap.size 10 _ (by omega)).otherC w2.heap.size 11 _ (by omega)).otherC w2.heap.size 12 _ (by omega)).otherC w2.heap.size 13 _ (by omega))
    have oE : OwnK w4.heap.size S1 b' ⟨.slice aq5 b'.qw.length cq5, .slice aw5 b'.tw.length cw5, .slice ah5 b'.th.length ch5, .slice at5 b'.ts.length ct5, .slice an5 b'.nx.length cn5⟩ := by
      rw [← hS1]
      exact ⟨o5.q.put14 (g := w2.heap.size) (by omega) (.int .i64 b'.id) (.int .i64 b'.ep) (.int .i64 b'.rd) (.string b'.md) (.int .i64 b'.qr) (.int .i64 b'.qb) (.slice aq5 b'.qw.length cq5) (.int .i64 b'.tr) (.slice aw5 b'.tw.length cw5) (.slice ah5 b'.th.length ch5) (.slice at5 b'.ts.length ct5) (.bool b'.en) (.slice an5 b'.nx.length cn5) (.string b'.rt), o5.p.put14 (g := w2.heap.size) (by omega) (.int .i64 b'.id) (.int .i64 b'.ep) (.int .i64 b'.rd) (.string b'.md) (.int .i64 b'.qr) (.int .i64 b'.qb) (.slice aq5 b'.qw.length cq5) (.int .i64 b'.tr) (.slice aw5 b'.tw.length cw5) (.slice ah5 b'.th.length ch5) (.slice at5 b'.ts.length ct5) (.bool b'.en) (.slice an5 b'.nx.length cn5) (.string b'.rt), o5.h.put14 (g := w2.heap.size) (by omega) (.int .i64 b'.id) (.int .i64 b'.ep) (.int .i64 b'.rd) (.string b'.md) (.int .i64 b'.qr) (.int .i64 b'.qb) (.slice aq5 b'.qw.length cq5) (.int .i64 b'.tr) (.slice aw5 b'.tw.length cw5) (.slice ah5 b'.th.length ch5) (.slice at5 b'.ts.length ct5) (.bool b'.en) (.slice an5 b'.nx.length cn5) (.string b'.rt), o5.t.put14 (g := w2.heap.size) (by omega) (.int .i64 b'.id) (.int .i64 b'.ep) (.int .i64 b'.rd) (.string b'.md) (.int .i64 b'.qr) (.int .i64 b'.qb) (.slice aq5 b'.qw.length cq5) (.int .i64 b'.tr) (.slice aw5 b'.tw.length cw5) (.slice ah5 b'.th.length ch5) (.slice at5 b'.ts.length ct5) (.bool b'.en) (.slice an5 b'.nx.length cn5) (.string b'.rt), o5.n.put14 (g := w2.heap.size) (by omega) (.int .i64 b'.id) (.int .i64 b'.ep) (.int .i64 b'.rd) (.string b'.md) (.int .i64 b'.qr) (.int .i64 b'.qb) (.slice aq5 b'.qw.length cq5) (.int .i64 b'.tr) (.slice aw5 b'.tw.length cw5) (.slice ah5 b'.th.length ch5) (.slice at5 b'.ts.length ct5) (.bool b'.en) (.slice an5 b'.nx.length cn5) (.string b'.rt)⟩
    have cE : Cur w0 S1 g cv code := by rw [← hS1]; exact hc5.below hbp (by omega)
    have gE : w.grownBy S1 (some g) := by rw [← hS1]; exact grw_below hG5 hbp (by omega)
    clear hbp o5 hc5 hG5 t5 k5
    have HQ := hide ((oE.q.put14 (g := w.heap.size) (by omega) (.int .i64 b'.id) (.int .i64 b'.ep) (.int .i64 b'.rd) (.string b'.md) (.int .i64 b'.qr) (.int .i64 b'.qb) (.slice aq5 b'.qw.length cq5) (.int .i64 b'.tr) (.slice aw5 b'.tw.length cw5) (.slice ah5 b'.th.length ch5) (.slice at5 b'.ts.length ct5) (.bool b'.en) (.slice an5 b'.nx.length cn5) (.string b'.rt)).mono (show w.heap.size ≤ w4.heap.size by omega))
    have HP := hide ((oE.p.put14 (g := w.heap.size) (by omega) (.int .i64 b'.id) (.int .i64 b'.ep) (.int .i64 b'.rd) (.string b'.md) (.int .i64 b'.qr) (.int .i64 b'.qb) (.slice aq5 b'.qw.length cq5) (.int .i64 b'.tr) (.slice aw5 b'.tw.length cw5) (.slice ah5 b'.th.length ch5) (.slice at5 b'.ts.length ct5) (.bool b'.en) (.slice an5 b'.nx.length cn5) (.string b'.rt)).mono (show w.heap.size ≤ w4.heap.size by omega))
    have HH := hide ((oE.h.put14 (g := w.heap.size) (by omega) (.int .i64 b'.id) (.int .i64 b'.ep) (.int .i64 b'.rd) (.string b'.md) (.int .i64 b'.qr) (.int .i64 b'.qb) (.slice aq5 b'.qw.length cq5) (.int .i64 b'.tr) (.slice aw5 b'.tw.length cw5) (.slice ah5 b'.th.length ch5) (.slice at5 b'.ts.length ct5) (.bool b'.en) (.slice an5 b'.nx.length cn5) (.string b'.rt)).mono (show w.heap.size ≤ w4.heap.size by omega))
    have HT := hide ((oE.t.put14 (g := w.heap.size) (by omega) (.int .i64 b'.id) (.int .i64 b'.ep) (.int .i64 b'.rd) (.string b'.md) (.int .i64 b'.qr) (.int .i64 b'.qb) (.slice aq5 b'.qw.length cq5) (.int .i64 b'.tr) (.slice aw5 b'.tw.length cw5) (.slice ah5 b'.th.length ch5) (.slice at5 b'.ts.length ct5) (.bool b'.en) (.slice an5 b'.nx.length cn5) (.string b'.rt)).mono (show w.heap.size ≤ w4.heap.size by omega))
    have HN := hide ((oE.n.put14 (g := w.heap.size) (by omega) (.int .i64 b'.id) (.int .i64 b'.ep) (.int .i64 b'.rd) (.string b'.md) (.int .i64 b'.qr) (.int .i64 b'.qb) (.slice aq5 b'.qw.length cq5) (.int .i64 b'.tr) (.slice aw5 b'.tw.length cw5) (.slice ah5 b'.th.length ch5) (.slice at5 b'.ts.length ct5) (.bool b'.en) (.slice an5 b'.nx.length cn5) (.string b'.rt)).mono (show w.heap.size ≤ w4.heap.size by omega))
    have hbR := below_put14 S1 w.heap.size (.int .i64 b'.id) (.int .i64 b'.ep) (.int .i64 b'.rd) (.string b'.md) (.int .i64 b'.qr) (.int .i64 b'.qb) (.slice aq5 b'.qw.length cq5) (.int .i64 b'.tr) (.slice aw5 b'.tw.length cw5) (.slice ah5 b'.th.length ch5) (.slice at5 b'.ts.length ct5) (.bool b'.en) (.slice an5 b'.nx.length cn5) (.string b'.rt)
    have HC := hide (cE.below hbR hgl)
    have HG := hide (grw_below gE hbR (Nat.le_refl _))
    have t0 := tE.cell 0
    have e0 := kE.cell 0
    have f0 := kE.frozen 0
    have t1 := tE.cell 1
    have e1 := kE.cell 1
    have f1 := kE.frozen 1
    have t2 := tE.cell 2
    have e2 := kE.cell 2
    have f2 := kE.frozen 2
    have t3 := tE.cell 3
    have e3 := kE.cell 3
    have f3 := kE.frozen 3
    have t4 := tE.cell 4
    have e4 := kE.cell 4
    have f4 := kE.frozen 4
    have t5 := tE.cell 5
    have e5 := kE.cell 5
    have f5 := kE.frozen 5
    have t6 := tE.cell 6
    have e6 := kE.cell 6
    have f6 := kE.frozen 6
    have t7 := tE.cell 7
    have e7 := kE.cell 7
    have f7 := kE.frozen 7
    have t8 := tE.cell 8
    have e8 := kE.cell 8
    have f8 := kE.frozen 8
    have t9 := tE.cell 9
    have e9 := kE.cell 9
    have f9 := kE.frozen 9
    have t10 := tE.cell 10
    have e10 := kE.cell 10
    have f10 := kE.frozen 10
    have t11 := tE.cell 11
    have e11 := kE.cell 11
    have f11 := kE.frozen 11
    have t12 := tE.cell 12
    have e12 := kE.cell 12
    have f12 := kE.frozen 12
    have t13 := tE.cell 13
    have e13 := kE.cell 13
    have f13 := kE.frozen 13
    simp only [List.getElem?_cons_zero, List.getElem?_cons_succ] at t0 e0 t1 e1 t2 e2 t3 e3 t4 e4 t5 e5 t6 e6 t7 e7 t8 e8 t9 e9 t10 e10 t11 e11 t12 e12 t13 e13
    clear oE cE gE tE kE hbR
    go_wp2
    (try rw [hS1])
    refine bodyPost_ret (v := .agg #[.int .i64 b'.id, .int .i64 b'.ep, .int .i64 b'.rd, .string b'.md, .int .i64 b'.qr, .int .i64 b'.qb, .slice aq5 b'.qw.length cq5, .int .i64 b'.tr, .slice aw5 b'.tw.length cw5, .slice ah5 b'.th.length ch5, .slice at5 b'.ts.length ct5, .bool b'.en, .slice an5 b'.nx.length cn5, .string b'.rt]) (by simp [results, Try.f44, go_sem, e0, e1, e2, e3, e4, e5, e6, e7, e8, e9, e10, e11, e12, e13]) rfl ?_
    exact ⟨b', ⟨_, _, _, _, _⟩, rfl, ⟨HQ.out, HP.out, HH.out, HT.out, HN.out⟩, HS5.out, HC.out, HG.out⟩
set_option maxRecDepth 20000 in
set_option maxHeartbeats 8000000 in
theorem l10Any_any (w0 w : World) (g : Nat) (cv : Value) (code : List UInt8) (most : Nat) (hc : Cur w0 w g cv code) (hl : code.length ≤ 1048576) (hm : most ≤ 1000) :
    Calls Try.prog 43 #[.pointer (some ⟨g, 0, none⟩), .int .i64 (most : Int)] w fun e w' => ∃ (v : Value) (l : List Bk), e = .returned v ∧ Stay w' w.heap.size v l ∧ l.length ≤ 1001 ∧ (∀ x ∈ l, Lk x) ∧ Cur w0 w' g cv code ∧ w.grownBy w' (some g) := by
  have hgl := hc.lt
  go_enter Try.func43, Try.ntmps43
  go_wp2_with fail
  refine (l10Draw_any w0 w g cv code most hc hl hm).mono ?_
  rintro e w1 ⟨v, l, rfl, ho, htb, hlen, hdt, hc1, hg1⟩
  have HL : Hid (∀ x ∈ l, Lk x) := hide (fun x hx => by
    obtain ⟨i, hi, rfl⟩ := List.getElem_of_mem hx
    exact (hdt _ hx).lk ((treeP_of htb).2 i hi).1)
  clear hdt htb hc
  obtain ⟨va, vc, rfl⟩ := ho.rd.shape
  go_wp2_with fail
  refine (l1Below_any w0 _ g cv code 10 hc1 hl (by omega) (by omega)).mono ?_
  rintro e w2 ⟨y, rfl, -, -, hc2, hg2⟩
  have Ho2 := hide (ho.notg hg2 hgl)
  have HG2 := hide (grw_trans hg1 hg2)
  have HC2 := hide hc2
  have hz2 := HG2.out.size
  clear ho hg1 hg2 hc1 hc2
  by_cases hy0 : y = 0
  · subst hy0
    go_wp2_with fail
    refine (l9Any_any w0 _ g cv code HC2.out hl).mono ?_
    rintro e w3 ⟨b, v3, rfl, o3, hS3, hc3, hg3⟩
    have HS3 := hide hS3
    have z3 := hg3.size
    have ho3 := Ho2.out.notg hg3 hgl
    have Hlt : Hid (∀ k, (Value.slice va l.length vc).ownBlock = some k → k < w2.heap.size) := hide (fun k hk => by obtain ⟨g0, c0, Z0, _, e0, hr0, _⟩ := Ho2.out; exact (World.ownsRow.lt hr0 k hk).2)
    obtain ⟨vq3, vw3, vh3, vt3, vn3⟩ := v3
    obtain ⟨aq3, cq3, hvq3⟩ := o3.q.rd.shape
    obtain ⟨aw3, cw3, hvw3⟩ := o3.p.rd.shape
    obtain ⟨ah3, ch3, hvh3⟩ := o3.h.rd.shape
    obtain ⟨at3, ct3, hvt3⟩ := o3.t.rd.shape
    obtain ⟨an3, cn3, hvn3⟩ := o3.n.rd.shape
    simp only at hvq3 hvw3 hvh3 hvt3 hvn3
    subst hvq3 hvw3 hvh3 hvt3 hvn3
    simp only [bkV]
    obtain ⟨w4, hw4⟩ : ∃ x, w3.alloc (.cells #[.int .i64 b.id, .int .i64 b.ep, .int .i64 b.rd, .string b.md, .int .i64 b.qr, .int .i64 b.qb, .slice aq3 b.qw.length cq3, .int .i64 b.tr, .slice aw3 b.tw.length cw3, .slice ah3 b.th.length ch3, .slice at3 b.ts.length ct3, .bool b.en, .slice an3 b.nx.length cn3, .string b.rt] 37) = x := ⟨_, rfl⟩
    have b4 : Below w3.heap.size w3 w4 := by rw [← hw4]; exact (Below.refl _ w3).alloc (Nat.le_refl _) _
    have T4 : Hid (Blk w4 w3.heap.size 37 [.int .i64 b.id, .int .i64 b.ep, .int .i64 b.rd, .string b.md, .int .i64 b.qr, .int .i64 b.qb, .slice aq3 b.qw.length cq3, .int .i64 b.tr, .slice aw3 b.tw.length cw3, .slice ah3 b.th.length ch3, .slice at3 b.ts.length ct3, .bool b.en, .slice an3 b.nx.length cn3, .string b.rt]) := hide (by rw [← hw4]; exact Blk.new w3 _ _)
    have Ho4 := hide (ho3.below b4 (Nat.le_refl _))
    have O4 := hide (o3.below9 b4 (Nat.le_refl _))
    have HC4 := hide (hc3.below b4 hc3.lt)
    have HG4 := hide (grw_trans (grw_trans HG2.out hg3) (grw_of_below (some g) b4 (Nat.le_refl _)))
    have z4 := b4.size
    clear ho3 o3 hc3 hg3 Ho2 HC2 HG2 b4 hS3
    go_wp2_with (at_builtin; (try rw [hw4]); refine app_rdKs _ rfl _ _ rfl w.heap.size w2.heap.size (.slice va l.length vc) w3.heap.size l b ⟨.slice aq3 b.qw.length cq3, .slice aw3 b.tw.length cw3, .slice ah3 b.th.length ch3, .slice at3 b.ts.length ct3, .slice an3 b.nx.length cn3⟩ rfl rfl Ho4.out T4.out O4.out Hlt.out (by omega) (by omega) ?_; intro v5 w5 hr5 hb5; have HR5 := hide (hr5 w.heap.size (Nat.le_refl _) (by omega)); have HB5 := hide hb5; have hsh := HR5.out.rd.shape; rw [List.length_append, List.length_cons, List.length_nil, Nat.zero_add] at hsh; obtain ⟨a5, c5, rfl⟩ := hsh; clear hr5 hb5)
    have HL5 : Hid (∀ x ∈ l ++ [b], Lk x) := hide (fun x hx => by
      rcases List.mem_append.1 hx with h | h
      · exact HL.out x h
      · rw [List.mem_singleton.1 h]; exact HS3.out.lk)
    go_ret
    exact ⟨_, l ++ [b], rfl, HR5.out, by simp; omega, HL5.out, HC4.out.below HB5.out hgl, grw_below HG4.out HB5.out (Nat.le_refl _)⟩
  have ny0 : ((y : Int) == 0) = false := by rw [beq_eq_false_iff_ne]; omega
  by_cases hy1 : y = 1
  · subst hy1
    by_cases hl0 : 0 < l.length
    · obtain ⟨g0, c0, Z0, hZ0, e0, hr0, hk0⟩ := Ho2.out
      simp only [Value.slice.injEq] at e0
      obtain ⟨rfl, -, rfl⟩ := e0
      have HT : Hid (Stay w2 w.heap.size (.slice (some ⟨g0, 14, none⟩) (l.length - 1) (vc - 1)) (l.drop 1)) := hide (fun W hW => by have := (Ho2.out.othD hW (fun x h1 _ h2 => by omega)).rd.tail9 hl0; rwa [Nat.zero_add] at this)
      have hcp : l.length ≤ vc := by
        rcases Ho2.out.rd with ⟨a, c, hv, hn, -⟩ | ⟨b', off', c, h0, hv, h1, _⟩
        · subst hn; simp at hl0
        · simp only [Value.slice.injEq] at hv; omega
      have hli : (0 : Int) < (l.length : Int) := by omega
      have HLd : Hid (∀ x ∈ l.drop 1, Lk x) := hide (fun x hx => HL.out x (List.mem_of_mem_drop hx))
      have hl9 : (l.drop 1).length ≤ 1001 := by simp; omega
      by_cases hv1 : vc = 1
      · have HT0 : Hid (Stay w2 w.heap.size (.slice (some ⟨g0, 0, none⟩) 0 0) (l.drop 1)) := hide (fun W _ => by
          rw [List.drop_eq_nil_of_le (by omega)]
          exact .inl ⟨_, _, rfl, rfl, fun h => by cases h⟩)
        subst hv1
        clear hr0 hk0 Ho2 HT
        go_wp2
        go_ret
        exact ⟨_, l.drop 1, rfl, HT0.out, hl9, HLd.out, HC2.out, HG2.out⟩
      · clear hr0 hk0 Ho2
        go_wp2
        all_goals first
          | (exfalso; omega)
          | (go_ret; exact ⟨_, l.drop 1, rfl, HT.out, hl9, HLd.out, HC2.out, HG2.out⟩)
    · have hli : ¬ (0 : Int) < (l.length : Int) := by omega
      have HR := hide (Ho2.out.stay (Nat.le_refl _))
      clear Ho2
      go_wp2
      go_ret
      exact ⟨_, l, rfl, HR.out, by omega, HL.out, HC2.out, HG2.out⟩
  have ny1 : ((y : Int) == 1) = false := by rw [beq_eq_false_iff_ne]; omega
  have HR := hide (Ho2.out.stay (Nat.le_refl _))
  clear Ho2
  go_wp2
  go_ret
  exact ⟨_, l, rfl, HR.out, by omega, HL.out, HC2.out, HG2.out⟩
end Go.Proofs.Ytbjeonnaannofaa
