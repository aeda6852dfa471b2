/- The landed code's signatures: of a vote and a leaving, of certificates, of a word. -/
import Derived.Test.YtkidfkngehcjgaaZsSgSigs
import Derived.Laws.AppendOwnNone
namespace Go.Proofs.Ytkidfkngehcjgaa
open Go.RowKit
set_option linter.unusedVariables false

theorem rdSg_cells {w : World} {b off : Nat} {k : List Sg} (h4 : ∀ i (h : i < k.length), SgAt w b (off + i * 5) k[i]) :
    ∀ j u, (k.map sgC).flatten[j]? = some u → w.cell? ((⟨b, off, none⟩ : Addr).add j) = some u := by
  intro j u hj
  have hjl : j < (k.map sgC).flatten.length := (List.getElem?_eq_some_iff.1 hj).1
  rw [flat_len 5 _ (sgM_sz k), List.length_map] at hjl
  have h1 : j / 5 < k.length := by omega
  have h2 : j % 5 < 5 := Nat.mod_lt _ (by omega)
  have e := flat_get 5 (k.map sgC) (j / 5) (j % 5) (by simpa using h1) (sgM_sz k) h2
  rw [show j / 5 * 5 + j % 5 = j from by omega, hj, List.getElem_map] at e
  obtain ⟨c0, c1, c2, c3, c4⟩ := h4 (j / 5) h1
  rw [add_flatR, show off + j = off + j / 5 * 5 + j % 5 from by omega]
  generalize j % 5 = m at e h2
  match m, h2 with
  | 0, _ => rw [Nat.add_zero, c0]; simpa [sgC] using e.symm
  | 1, _ => rw [c1]; simpa [sgC] using e.symm
  | 2, _ => rw [c2]; simpa [sgC] using e.symm
  | 3, _ => rw [c3]; simpa [sgC] using e.symm
  | 4, _ => rw [c4]; simpa [sgC] using e.symm
theorem app_ownSgs {ops : Array Oper} {rest : List Oper} {o : Oper} {a : Act} {Q : Exit → Act → World → Prop} (w : World) (hgd : o.guard = none) (s x : Operand)
    (ho : o.op = .call { callee := .builtin .append, args := #[s, x], argTypes := #[24, 24] })
    (base : Nat) (v vx : Value) (l k : List Sg) (hs : a.eval s = v) (hx : a.eval x = vx) (hown : OwnSg 44 base w v l) (hrd : RdSg w vx k)
    (hlen : l.length + k.length ≤ 100000000) (hbase : base ≤ w.heap.size)
    (h : ∀ v' w', OwnSg 44 base w' v' (l ++ k) → Below base w w' → w.grownBy w' v.ownBlock → wpList Try.prog ops Q rest (a.put o.dst v') w') : wpList Try.prog ops Q (o :: rest) a w := by
  obtain ⟨i0, hi, hz0, hz1, hz2⟩ := info_parts Try.infoSig
  have hbel : ∀ w', w.grownBy w' v.ownBlock → Below base w w' := fun w' hg => (Below.refl _ _).grown hg hbase (fun k hk => (World.ownsRow.lt hown k hk).1)
  rcases hrd with ⟨ax, cap, rfl, rfl, hnil⟩ | ⟨b, off, cap, h0, rfl, h1, h2, h3, h4⟩
  · cases ax with
    | none =>
      have hc : cap = 0 := hnil rfl
      subst hc
      refine wpList_append_own_none hgd s x 24 ho base 44 i0 5 Try.underlying24 hi v l.length (l.map sgC).flatten hs hown hx ?_
      exact h v w (by simpa [OwnSg] using hown) (Below.refl _ _) ⟨rfl, rfl, rfl, Nat.le_refl _, fun _ _ _ => rfl⟩
    | some ad =>
      refine wpList_append_own w hgd s x 24 ho base 44 i0 (.agg #[.int .i64 0, .int .i64 0, .int .i64 0, .int .i64 0, .string { data := #[] }]) 5 48 Try.underlying24 hi hz0 hz1 hz2 rfl (by decide) v l.length (l.map sgC).flatten hs hown ad 0 cap [] hx rfl (by intro j u hj; simp at hj) (by intro u hu; simp at hu) (by unfold maxLen; simp at hlen; omega) (by simp at hlen; omega) hbase ?_
      intro v' w' ho' hg _
      exact h v' w' (by simpa [OwnSg] using ho') (hbel w' hg) hg
  · refine wpList_append_own w hgd s x 24 ho base 44 i0 (.agg #[.int .i64 0, .int .i64 0, .int .i64 0, .int .i64 0, .string { data := #[] }]) 5 48 Try.underlying24 hi hz0 hz1 hz2 rfl (by decide) v l.length (l.map sgC).flatten hs hown ⟨b, off, none⟩ k.length cap (k.map sgC).flatten hx (by rw [flat_len 5 _ (sgM_sz k), List.length_map]) (rdSg_cells h4) ?_ (by unfold maxLen; omega) (by omega) hbase ?_
    · intro u hu
      obtain ⟨c, hc, hu⟩ := List.mem_flatten.1 hu
      obtain ⟨p, _, rfl⟩ := List.mem_map.1 hc
      simp only [sgC, List.mem_cons, List.not_mem_nil, or_false] at hu
      rcases hu with rfl | rfl | rfl | rfl | rfl <;> rfl
    · intro v' w' ho' hg _
      exact h v' w' (by simpa [OwnSg] using ho') (hbel w' hg) hg
theorem toList_nilS {s : ByteArray} (h : s.toList = []) : s = { data := #[] } := by
  rw [ByteArray.toList_eq] at h
  exact ByteArray.ext (Array.toList_inj.1 h)
theorem own_noneSg (w : World) (base : Nat) : OwnSg 44 base w (.slice none 0 0) [] := ⟨rfl, .inl ⟨rfl, rfl⟩⟩
def z3S (r k : Int) (s : ByteArray) : Bool := decide (r = 0 ∧ k = 0 ∧ s = { data := #[] })
/-- It says a vote, a leaving. -/
def svB (m : Mg) : Bool := decide (m.kd = 2) || !z3S m.vr m.vb m.vw
def sgB (m : Mg) : Bool := decide (m.kd = 3) || !z3S m.gr m.gh m.gw
set_option maxRecDepth 20000 in
set_option maxHeartbeats 2000000 in
theorem implSaysVote_any (m : Mg) (v : Mv) (w : World) (hr : RdM w m v) :
    Calls Try.prog 15 #[mgV m v] w fun e w' => e = .returned (.bool (svB m)) ∧ Below w.heap.size w w' := by
  have HX : Hid (svB m = (decide (m.kd = 2) || !z3S m.vr m.vb m.vw)) := hide rfl
  generalize svB m = X at HX ⊢
  obtain ⟨kd, tn, ep, bs, vr, vb, vw, gr, gh, gw, qr, qb, qw, tr, tw, th⟩ := m
  obtain ⟨xb, xq, xw, xh⟩ := v
  obtain ⟨hb, hq, hw, hh⟩ := hr
  simp only at *
  obtain ⟨ab, cb, rfl⟩ := hb.shape
  obtain ⟨aq, cq, rfl⟩ := hq.shape
  obtain ⟨aw, cw, rfl⟩ := hw.shape
  obtain ⟨ah, ch, rfl⟩ := hh.shape
  simp only [mgV]
  obtain ⟨w1, hw1⟩ : ∃ x, w.alloc (.cells #[.int .i64 kd, .string tn, .int .i64 ep, .slice ab bs.length cb, .int .i64 vr, .int .i64 vb, .string vw, .int .i64 gr, .int .i64 gh, .string gw, .int .i64 qr, .int .i64 qb, .slice aq qw.length cq, .int .i64 tr, .slice aw tw.length cw, .slice ah th.length ch] 37) = x := ⟨_, rfl⟩
  have b1 : Below w.heap.size w w1 := by rw [← hw1]; exact (Below.refl _ w).alloc (Nat.le_refl _) _
  have s1 : w1.heap.size = w.heap.size + 1 := by rw [← hw1]; simp
  have k1 : Blk w1 w.heap.size 37 [.int .i64 kd, .string tn, .int .i64 ep, .slice ab bs.length cb, .int .i64 vr, .int .i64 vb, .string vw, .int .i64 gr, .int .i64 gh, .string gw, .int .i64 qr, .int .i64 qb, .slice aq qw.length cq, .int .i64 tr, .slice aw tw.length cw, .slice ah th.length ch] := by rw [← hw1]; exact Blk.new w _ _
  have x0 := k1.cell 0
  have x4 := k1.cell 4
  have x5 := k1.cell 5
  have x6 := k1.cell 6
  simp only [List.getElem?_cons_zero, List.getElem?_cons_succ] at x0 x4 x5 x6
  have HB1 := hide b1
  clear hb hq hw hh b1 k1
  by_cases hk : kd = 2
  · have Hf : Hid (X = true) := hide (HX.out.trans (by rw [decide_eq_true hk]; rfl))
    subst hk
    go_enter Try.func15, Try.ntmps15
    go_wp2
    go_ret
    exact ⟨by rw [Hf.out]; rfl, HB1.out⟩
  · have d1 : decide (kd = 2) = false := decide_eq_false hk
    have hkb : (kd == 2) = false := by simpa using hk
    by_cases h0 : vr = 0 ∧ vb = 0 ∧ vw = { data := #[] }
    · have Hf : Hid (X = false) := hide (HX.out.trans (by rw [d1]; unfold z3S; rw [decide_eq_true h0]; rfl))
      obtain ⟨rfl, rfl, rfl⟩ := h0
      clear HX
      go_enter Try.func15, Try.ntmps15
      go_wp2
      go_ret
      exact ⟨by rw [Hf.out]; rfl, HB1.out⟩
    · have Hf : Hid (X = true) := hide (HX.out.trans (by rw [d1]; unfold z3S; rw [decide_eq_false h0]; rfl))
      have H0 := hide h0
      clear HX h0
      go_enter Try.func15, Try.ntmps15
      go_wp2
      all_goals first
        | (go_ret; exact ⟨ret_bool Hf.out.symm, HB1.out⟩)
        | (exfalso; rename_i h1 h2 h3; exact H0.out ⟨h1, h2, toList_nilS h3⟩)
set_option maxRecDepth 20000 in
set_option maxHeartbeats 2000000 in
theorem implSaysGone_any (m : Mg) (v : Mv) (w : World) (hr : RdM w m v) :
    Calls Try.prog 34 #[mgV m v] w fun e w' => e = .returned (.bool (sgB m)) ∧ Below w.heap.size w w' := by
  have HX : Hid (sgB m = (decide (m.kd = 3) || !z3S m.gr m.gh m.gw)) := hide rfl
  generalize sgB m = X at HX ⊢
  obtain ⟨kd, tn, ep, bs, vr, vb, vw, gr, gh, gw, qr, qb, qw, tr, tw, th⟩ := m
  obtain ⟨xb, xq, xw, xh⟩ := v
  obtain ⟨hb, hq, hw, hh⟩ := hr
  simp only at *
  obtain ⟨ab, cb, rfl⟩ := hb.shape
  obtain ⟨aq, cq, rfl⟩ := hq.shape
  obtain ⟨aw, cw, rfl⟩ := hw.shape
  obtain ⟨ah, ch, rfl⟩ := hh.shape
  simp only [mgV]
  obtain ⟨w1, hw1⟩ : ∃ x, w.alloc (.cells #[.int .i64 kd, .string tn, .int .i64 ep, .slice ab bs.length cb, .int .i64 vr, .int .i64 vb, .string vw, .int .i64 gr, .int .i64 gh, .string gw, .int .i64 qr, .int .i64 qb, .slice aq qw.length cq, .int .i64 tr, .slice aw tw.length cw, .slice ah th.length ch] 37) = x := ⟨_, rfl⟩
  have b1 : Below w.heap.size w w1 := by rw [← hw1]; exact (Below.refl _ w).alloc (Nat.le_refl _) _
  have s1 : w1.heap.size = w.heap.size + 1 := by rw [← hw1]; simp
  have k1 : Blk w1 w.heap.size 37 [.int .i64 kd, .string tn, .int .i64 ep, .slice ab bs.length cb, .int .i64 vr, .int .i64 vb, .string vw, .int .i64 gr, .int .i64 gh, .string gw, .int .i64 qr, .int .i64 qb, .slice aq qw.length cq, .int .i64 tr, .slice aw tw.length cw, .slice ah th.length ch] := by rw [← hw1]; exact Blk.new w _ _
  have x0 := k1.cell 0
  have x4 := k1.cell 7
  have x5 := k1.cell 8
  have x6 := k1.cell 9
  simp only [List.getElem?_cons_zero, List.getElem?_cons_succ] at x0 x4 x5 x6
  have HB1 := hide b1
  clear hb hq hw hh b1 k1
  by_cases hk : kd = 3
  · have Hf : Hid (X = true) := hide (HX.out.trans (by rw [decide_eq_true hk]; rfl))
    subst hk
    go_enter Try.func34, Try.ntmps34
    go_wp2
    go_ret
    exact ⟨by rw [Hf.out]; rfl, HB1.out⟩
  · have d1 : decide (kd = 3) = false := decide_eq_false hk
    have hkb : (kd == 3) = false := by simpa using hk
    by_cases h0 : gr = 0 ∧ gh = 0 ∧ gw = { data := #[] }
    · have Hf : Hid (X = false) := hide (HX.out.trans (by rw [d1]; unfold z3S; rw [decide_eq_true h0]; rfl))
      obtain ⟨rfl, rfl, rfl⟩ := h0
      clear HX
      go_enter Try.func34, Try.ntmps34
      go_wp2
      go_ret
      exact ⟨by rw [Hf.out]; rfl, HB1.out⟩
    · have Hf : Hid (X = true) := hide (HX.out.trans (by rw [d1]; unfold z3S; rw [decide_eq_false h0]; rfl))
      have H0 := hide h0
      clear HX h0
      go_enter Try.func34, Try.ntmps34
      go_wp2
      all_goals first
        | (go_ret; exact ⟨ret_bool Hf.out.symm, HB1.out⟩)
        | (exfalso; rename_i h1 h2 h3; exact H0.out ⟨h1, h2, toList_nilS h3⟩)
end Go.Proofs.Ytkidfkngehcjgaa
