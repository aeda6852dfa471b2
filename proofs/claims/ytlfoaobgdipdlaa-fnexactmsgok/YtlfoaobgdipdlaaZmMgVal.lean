/- Words: a datum, its value, what reads as it; the laws' copies, comparisons and sizes of them. -/
import Derived.Test.YtlfoaobgdipdlaaZmKsEq
import Derived.Test.YtlfoaobgdipdlaaZmKsSzW
import Derived.Test.YtlfoaobgdipdlaaZmKsOpen
import Derived.Test.YtlfoaobgdipdlaaTxMarkC
namespace Go.Proofs.Ytlfoaobgdipdlaa
open Go.RowKit
set_option linter.unusedVariables false

/-- A word: its kind, to whom, the epoch; its blocks; the vote's round, block and name; the leaving's round, High and name; the certificate's round, block and names; what was left: its round, names and Highs. -/
structure Mg where
  kd : Int
  tn : ByteArray
  ep : Int
  bs : List Bk
  vr : Int
  vb : Int
  vw : ByteArray
  gr : Int
  gh : Int
  gw : ByteArray
  qr : Int
  qb : Int
  qw : List ByteArray
  tr : Int
  tw : List ByteArray
  th : List Int
/-- A word's lists, as values. -/
structure Mv where
  b : Value
  q : Value
  w : Value
  h : Value
def mgC (m : Mg) (v : Mv) : List Value := [.int .i64 m.kd, .string m.tn, .int .i64 m.ep, v.b, .int .i64 m.vr, .int .i64 m.vb, .string m.vw, .int .i64 m.gr, .int .i64 m.gh, .string m.gw, .int .i64 m.qr, .int .i64 m.qb, v.q, .int .i64 m.tr, v.w, v.h]
def mgV (m : Mg) (v : Mv) : Value := .agg #[.int .i64 m.kd, .string m.tn, .int .i64 m.ep, v.b, .int .i64 m.vr, .int .i64 m.vb, .string m.vw, .int .i64 m.gr, .int .i64 m.gh, .string m.gw, .int .i64 m.qr, .int .i64 m.qb, v.q, .int .i64 m.tr, v.w, v.h]
/-- The lists read as the word's. -/
structure RdM (w : World) (m : Mg) (v : Mv) : Prop where
  b : RdKs w v.b m.bs
  q : RdS w v.q m.qw
  p : RdS w v.w m.tw
  h : RdI w v.h m.th
theorem RdM.below {B : Nat} {w w' : World} {m : Mg} {v : Mv} (h : RdM w m v) (hb : Below B w w') (hB : w.heap.size ≤ B) : RdM w' m v :=
  ⟨h.b.below hb hB, h.q.below hb hB, h.p.below hb hB, h.h.below hb hB⟩
/-- The lists are no longer than what the laws ask of, and numbers are those of 64 bits. -/
structure FewM (m : Mg) : Prop where
  b : m.bs.length ≤ 4000000
  bs : ∀ b ∈ m.bs, FewK b
  bt : ∀ b ∈ m.bs, -9223372036854775808 ≤ b.tr ∧ b.tr ≤ 9223372036854775807
  q : m.qw.length ≤ 4000000
  w : m.tw.length ≤ 4000000
  h : m.th.length ≤ 4000000
  qs : ∀ s ∈ m.qw, s.size ≤ maxLen
  ws : ∀ s ∈ m.tw, s.size ≤ maxLen
  t : m.tn.size ≤ maxLen
  vs : m.vw.size ≤ maxLen
  gs : m.gw.size ≤ maxLen
  gr : -9223372036854775808 ≤ m.gr ∧ m.gr ≤ 9223372036854775807
  tr : -9223372036854775808 ≤ m.tr ∧ m.tr ≤ 9223372036854775807
/-- The lists are the call's own from block 'base' on. -/
structure OwnG (base : Nat) (w : World) (m : Mg) (v : Mv) : Prop where
  b : OwnKs base w v.b m.bs
  q : OwnS base w v.q m.qw
  p : OwnS base w v.w m.tw
  h : OwnI base w v.h m.th
theorem OwnG.rd {base : Nat} {w : World} {m : Mg} {v : Mv} (h : OwnG base w m v) : RdM w m v := ⟨h.b.rd, h.q.rd, h.p.rd, h.h.rd⟩
theorem OwnG.below {B base : Nat} {w w' : World} {m : Mg} {v : Mv} (h : OwnG base w m v) (hb : Below B w w') (hB : w.heap.size ≤ B) : OwnG base w' m v :=
  ⟨h.b.below hb hB, row_below h.q hb hB, row_below h.p hb hB, row_below h.h hb hB⟩
theorem OwnK.othM {S : Nat → Prop} {base : Nat} {w w' : World} {b : Bk} {v : Bv} (h : OwnK base w b v) (hO : Oth S w w') (hn : ∀ g, v.has g → ¬ S g) : OwnK base w' b v :=
  ⟨row_oth h.q hO (fun g e => hn g (.inl e)), row_oth h.p hO (fun g e => hn g (.inr (.inl e))), row_oth h.h hO (fun g e => hn g (.inr (.inr (.inl e)))), row_oth h.t hO (fun g e => hn g (.inr (.inr (.inr (.inl e))))), row_oth h.n hO (fun g e => hn g (.inr (.inr (.inr (.inr e)))))⟩
theorem OwnKs.othM {S : Nat → Prop} {base : Nat} {w w' : World} {v : Value} {l : List Bk} (h : OwnKs base w v l) (hO : Oth S w w') (hn : ∀ g, base ≤ g → g < w.heap.size → ¬ S g) : OwnKs base w' v l := by
  obtain ⟨g, cap, Z, hZ, rfl, hr, hk⟩ := h
  refine ⟨g, cap, Z, hZ, rfl, row_oth hr hO (fun x hx => ?_), ?_⟩
  · have := World.ownsRow.lt hr x hx
    exact hn x this.1 this.2
  · exact ⟨fun i hi => (hk.own i hi).othM hO (fun x hx => by have := (hk.own i hi).in9 x hx; exact hn x this.1 this.2), hk.far, hk.inner, hk.apart⟩
theorem OwnKs.monoM {base base' : Nat} {w : World} {v : Value} {l : List Bk} (h : OwnKs base w v l) (hB : base' ≤ base) : OwnKs base' w v l := by
  obtain ⟨g, cap, Z, hZ, rfl, hr, hk⟩ := h
  refine ⟨g, cap, Z, hZ, rfl, ⟨hr.1, ?_⟩, ⟨fun i hi => (hk.own i hi).mono9 hB, hk.far, hk.inner, hk.apart⟩⟩
  rcases hr.2 with h' | ⟨g', cap', cur, hv, hbb, r⟩
  · exact .inl h'
  · exact .inr ⟨g', cap', cur, hv, by omega, r⟩
/-- A struct that is put together: the argument's place, the answer's (empty yet), and the new one. -/
structure Tg (T1 T2 : TypeId) (zs ps : List Value) (w S : World) (os : List Value) : Prop where
  p : Blk S w.heap.size T1 ps
  r : Blk S (w.heap.size + 1) T2 zs
  o : Blk S (w.heap.size + 2) T2 os
  b : Below w.heap.size w S
theorem Tg.lt {T1 T2 : TypeId} {zs ps os : List Value} {w S : World} (h : Tg T1 T2 zs ps w S os) : w.heap.size + 3 ≤ S.heap.size := by have := h.o.lt; omega
theorem Tg.call {T1 T2 : TypeId} {zs ps os : List Value} {w S S' : World} (h : Tg T1 T2 zs ps w S os) (hb : Below S.heap.size S S') : Tg T1 T2 zs ps w S' os :=
  ⟨h.p.below hb h.p.lt, h.r.below hb h.r.lt, h.o.below hb h.o.lt, h.b.trans (hb.mono h.b.size)⟩
theorem Tg.put {T1 T2 : TypeId} {zs ps os : List Value} {w S : World} (h : Tg T1 T2 zs ps w S os) (j : Nat) (u : Value) : Tg T1 T2 zs ps w (S.setCell ⟨w.heap.size + 2, j, none⟩ u) (os.set j u) :=
  ⟨h.p.otherC _ j u (by omega), h.r.otherC _ j u (by omega), h.o.setC j u, h.b.setCell (p := ⟨w.heap.size + 2, j, none⟩) (show w.heap.size ≤ w.heap.size + 2 by omega) u⟩
theorem tg_oth {w S S' : World} (hb : Below S.heap.size S S') (j : Nat) (u : Value) : Oth (fun g => g = w.heap.size + 2) S (S'.setCell ⟨w.heap.size + 2, j, none⟩ u) :=
  (Oth.of_below (S := fun g => g = w.heap.size + 2) hb).set (g := w.heap.size + 2) rfl j u
set_option maxRecDepth 20000 in
set_option maxHeartbeats 1000000 in
theorem toVote_any (r k : Int) (s : ByteArray) (w : World) : Calls Try.prog 49 #[.agg #[.int .i64 r, .int .i64 k, .string s]] w fun e w' => e = .returned (.agg #[.int .i64 r, .int .i64 k, .string s]) ∧ Below w.heap.size w w' := by
  go_enter Try.func49, Try.ntmps49
  go_wp2
  refine bodyPost_ret (v := .agg #[.int .i64 r, .int .i64 k, .string s]) (by simp [results, Try.f49, go_sem]) rfl ?_
  exact ⟨rfl, ((((Below.refl _ w).alloc (Nat.le_refl _) _).alloc (by simp) _).alloc (by simp; omega) _)⟩
set_option maxRecDepth 20000 in
set_option maxHeartbeats 1000000 in
theorem eqVote_same (r k : Int) (s : ByteArray) (w : World) : Calls Try.prog 60 #[.agg #[.int .i64 r, .int .i64 k, .string s], .agg #[.int .i64 r, .int .i64 k, .string s]] w fun e w' => e = .returned (.bool true) ∧ Below w.heap.size w w' := by
  have HB := hide (((Below.refl _ w).alloc (Nat.le_refl _) (.cells #[.int .i64 r, .int .i64 k, .string s] 38)).alloc (by simp) (.cells #[.int .i64 r, .int .i64 k, .string s] 38))
  go_enter Try.func60, Try.ntmps60
  go_wp2
  go_ret
  exact ⟨rfl, HB.out⟩
set_option maxRecDepth 20000 in
set_option maxHeartbeats 1000000 in
theorem szVote_any (r k : Int) (s : ByteArray) (m : Nat) (w : World) (hm : m ≤ 100000000) (hs : s.size ≤ 9223372036854775807) : Calls Try.prog 38 #[.agg #[.int .i64 r, .int .i64 k, .string s], .int .i64 (m : Int)] w fun e w' => ∃ q : Int, e = .returned (.int .i64 q) ∧ (0 ≤ q → q ≤ (m : Int)) ∧ Below w.heap.size w w' := by
  have HB := hide ((Below.refl _ w).alloc (Nat.le_refl _) (.cells #[.int .i64 r, .int .i64 k, .string s] 24))
  have w1 : IntKind.i64.wrap ((m : Int) - (s.size : Int)) = m - s.size := by rw [IntKind.wrap_i64]; omega
  by_cases h1 : (m : Int) - (s.size : Int) < 0
  · go_enter Try.func38, Try.ntmps38
    go_wp2
    go_ret
    exact ⟨-1, rfl, fun h => by omega, HB.out⟩
  · go_enter Try.func38, Try.ntmps38
    go_wp2
    go_ret
    exact ⟨(m : Int) - s.size, rfl, fun h => by omega, HB.out⟩
set_option maxRecDepth 20000 in
set_option maxHeartbeats 1000000 in
theorem toGone_any (r k : Int) (s : ByteArray) (w : World) : Calls Try.prog 50 #[.agg #[.int .i64 r, .int .i64 k, .string s]] w fun e w' => e = .returned (.agg #[.int .i64 r, .int .i64 k, .string s]) ∧ Below w.heap.size w w' := by
  go_enter Try.func50, Try.ntmps50
  go_wp2
  refine bodyPost_ret (v := .agg #[.int .i64 r, .int .i64 k, .string s]) (by simp [results, Try.f50, go_sem]) rfl ?_
  exact ⟨rfl, ((((Below.refl _ w).alloc (Nat.le_refl _) _).alloc (by simp) _).alloc (by simp; omega) _)⟩
set_option maxRecDepth 20000 in
set_option maxHeartbeats 1000000 in
theorem eqGone_same (r k : Int) (s : ByteArray) (w : World) : Calls Try.prog 61 #[.agg #[.int .i64 r, .int .i64 k, .string s], .agg #[.int .i64 r, .int .i64 k, .string s]] w fun e w' => e = .returned (.bool true) ∧ Below w.heap.size w w' := by
  have HB := hide (((Below.refl _ w).alloc (Nat.le_refl _) (.cells #[.int .i64 r, .int .i64 k, .string s] 39)).alloc (by simp) (.cells #[.int .i64 r, .int .i64 k, .string s] 39))
  go_enter Try.func61, Try.ntmps61
  go_wp2
  go_ret
  exact ⟨rfl, HB.out⟩
set_option maxRecDepth 20000 in
set_option maxHeartbeats 1000000 in
theorem szGone_any (r k : Int) (s : ByteArray) (m : Nat) (w : World) (hm : m ≤ 100000000) (hs : s.size ≤ 9223372036854775807) : Calls Try.prog 39 #[.agg #[.int .i64 r, .int .i64 k, .string s], .int .i64 (m : Int)] w fun e w' => ∃ q : Int, e = .returned (.int .i64 q) ∧ (0 ≤ q → q ≤ (m : Int)) ∧ Below w.heap.size w w' := by
  have HB := hide ((Below.refl _ w).alloc (Nat.le_refl _) (.cells #[.int .i64 r, .int .i64 k, .string s] 26))
  have w1 : IntKind.i64.wrap ((m : Int) - (s.size : Int)) = m - s.size := by rw [IntKind.wrap_i64]; omega
  by_cases h1 : (m : Int) - (s.size : Int) < 0
  · go_enter Try.func39, Try.ntmps39
    go_wp2
    go_ret
    exact ⟨-1, rfl, fun h => by omega, HB.out⟩
  · go_enter Try.func39, Try.ntmps39
    go_wp2
    go_ret
    exact ⟨(m : Int) - s.size, rfl, fun h => by omega, HB.out⟩
set_option maxRecDepth 20000 in
set_option maxHeartbeats 8000000 in
theorem toMsg_any (m : Mg) (v : Mv) (w : World) (hr : RdM w m v) (hf : FewM m) :
    Calls Try.prog 11 #[mgV m v] w fun e w' => ∃ v', e = .returned (mgV m v') ∧ OwnG w.heap.size w' m v' ∧ Below w.heap.size w w' := by
  have hlb := hf.b
  have hbs := hf.bs
  have hlq := hf.q
  have hlw := hf.w
  have hlh := hf.h
  clear hf
  obtain ⟨kd, tn, ep, bs, vr, vb, vw, gr, gh, gw, qr, qb, qw, tr, tw, th⟩ := m
  obtain ⟨xb, xq, xw, xh⟩ := v
  obtain ⟨hb, hq, hw, hh⟩ := hr
  simp only at *
  obtain ⟨ab, cb, rfl⟩ := hb.shape
  obtain ⟨aq, cq, rfl⟩ := hq.shape
  obtain ⟨aw, cw, rfl⟩ := hw.shape
  obtain ⟨ah, ch, rfl⟩ := hh.shape
  have E1 := hide (fun V (hV : Below w.heap.size w V) => toBlockS_any (.slice ab bs.length cb) bs V (hb.below hV (Nat.le_refl _)) hlb hbs)
  have E2 := hide (fun V => toVote_any vr vb vw V)
  have E3 := hide (fun V => toGone_any gr gh gw V)
  have E4 := hide (fun V (hV : Below w.heap.size w V) => toQc_any qr qb (.slice aq qw.length cq) qw V (hq.below hV (Nat.le_refl _)) hlq)
  have E5 := hide (fun V (hV : Below w.heap.size w V) => toTc_any tr (.slice aw tw.length cw) (.slice ah th.length ch) tw th V (hw.below hV (Nat.le_refl _)) (hh.below hV (Nat.le_refl _)) hlw hlh)
  clear hb hq hw hh hbs
  simp only [mgV, qcV, tcV] at *
  go_enter Try.func11, Try.ntmps11
  go_wp2_with fail
  obtain ⟨S0, hS0⟩ : ∃ x, ((w.alloc (.cells #[.int .i64 kd, .string tn, .int .i64 ep, .slice ab bs.length cb, .int .i64 vr, .int .i64 vb, .string vw, .int .i64 gr, .int .i64 gh, .string gw, .int .i64 qr, .int .i64 qb, .slice aq qw.length cq, .int .i64 tr, .slice aw tw.length cw, .slice ah th.length ch] 34)).alloc (.cells #[.int .i64 0, .string { data := #[] }, .int .i64 0, .slice none 0 0, .int .i64 0, .int .i64 0, .string { data := #[] }, .int .i64 0, .int .i64 0, .string { data := #[] }, .int .i64 0, .int .i64 0, .slice none 0 0, .int .i64 0, .slice none 0 0, .slice none 0 0] 43)).alloc (.cells #[.int .i64 kd, .string tn, .int .i64 ep, .slice none 0 0, .int .i64 0, .int .i64 0, .string { data := #[] }, .int .i64 0, .int .i64 0, .string { data := #[] }, .int .i64 0, .int .i64 0, .slice none 0 0, .int .i64 0, .slice none 0 0, .slice none 0 0] 43) = x := ⟨_, rfl⟩
  rw [hS0]
  have C0 := hide (show Tg 34 43 [.int .i64 0, .string { data := #[] }, .int .i64 0, .slice none 0 0, .int .i64 0, .int .i64 0, .string { data := #[] }, .int .i64 0, .int .i64 0, .string { data := #[] }, .int .i64 0, .int .i64 0, .slice none 0 0, .int .i64 0, .slice none 0 0, .slice none 0 0] [.int .i64 kd, .string tn, .int .i64 ep, .slice ab bs.length cb, .int .i64 vr, .int .i64 vb, .string vw, .int .i64 gr, .int .i64 gh, .string gw, .int .i64 qr, .int .i64 qb, .slice aq qw.length cq, .int .i64 tr, .slice aw tw.length cw, .slice ah th.length ch] w S0 [.int .i64 kd, .string tn, .int .i64 ep, .slice none 0 0, .int .i64 0, .int .i64 0, .string { data := #[] }, .int .i64 0, .int .i64 0, .string { data := #[] }, .int .i64 0, .int .i64 0, .slice none 0 0, .int .i64 0, .slice none 0 0, .slice none 0 0] from by
    rw [← hS0]
    exact ⟨(Blk.new w _ _).below (((Below.refl (w.heap.size + 1) _).alloc (by simp) _).alloc (by simp) _) (by omega), (Blk.newR _ _ [.int .i64 0, .string { data := #[] }, .int .i64 0, .slice none 0 0, .int .i64 0, .int .i64 0, .string { data := #[] }, .int .i64 0, .int .i64 0, .string { data := #[] }, .int .i64 0, .int .i64 0, .slice none 0 0, .int .i64 0, .slice none 0 0, .slice none 0 0] _ (by simp)).below ((Below.refl (w.heap.size + 2) _).alloc (by simp) _) (by omega), Blk.newR _ _ [.int .i64 kd, .string tn, .int .i64 ep, .slice none 0 0, .int .i64 0, .int .i64 0, .string { data := #[] }, .int .i64 0, .int .i64 0, .string { data := #[] }, .int .i64 0, .int .i64 0, .slice none 0 0, .int .i64 0, .slice none 0 0, .slice none 0 0] _ (by simp), (((Below.refl _ w).alloc (Nat.le_refl _) _).alloc (by simp) _).alloc (by simp; omega) _⟩)
  clear hS0
  refine (E1.out S0 C0.out.b).mono ?_
  rintro e w1 ⟨v1, rfl, o1, hb1⟩
  obtain ⟨a1, c1, rfl⟩ := o1.rd.shape
  have G1 := C0.out.call hb1
  have q3 := G1.o.cell 3
  have g3 := G1.o.frozen 3
  simp only [List.getElem?_cons_zero, List.getElem?_cons_succ] at q3
  obtain ⟨S1, hS1⟩ : ∃ x, (w1).setCell ⟨w.heap.size + 2, 3, none⟩ (.slice a1 bs.length c1) = x := ⟨_, rfl⟩
  have C1 := hide (show Tg 34 43 [.int .i64 0, .string { data := #[] }, .int .i64 0, .slice none 0 0, .int .i64 0, .int .i64 0, .string { data := #[] }, .int .i64 0, .int .i64 0, .string { data := #[] }, .int .i64 0, .int .i64 0, .slice none 0 0, .int .i64 0, .slice none 0 0, .slice none 0 0] [.int .i64 kd, .string tn, .int .i64 ep, .slice ab bs.length cb, .int .i64 vr, .int .i64 vb, .string vw, .int .i64 gr, .int .i64 gh, .string gw, .int .i64 qr, .int .i64 qb, .slice aq qw.length cq, .int .i64 tr, .slice aw tw.length cw, .slice ah th.length ch] w S1 [.int .i64 kd, .string tn, .int .i64 ep, .slice a1 bs.length c1, .int .i64 0, .int .i64 0, .string { data := #[] }, .int .i64 0, .int .i64 0, .string { data := #[] }, .int .i64 0, .int .i64 0, .slice none 0 0, .int .i64 0, .slice none 0 0, .slice none 0 0] from by rw [← hS1]; exact (G1.put 3 _))
  have P1 := hide (show Oth (fun g => g = w.heap.size + 2) S0 S1 from by rw [← hS1]; exact (tg_oth hb1 3 _))
  have R1 := hide (show OwnKs S0.heap.size S1 (.slice a1 bs.length c1) bs from by rw [← hS1]; exact o1.othM ((Oth.refl (fun g => g = w.heap.size + 2) w1).set rfl 3 _) (fun g h1 _ h2 => by have := C0.out.lt; omega))
  clear o1
  clear G1 hb1
  have p4 := C1.out.p.cell 4
  have p5 := C1.out.p.cell 5
  have p6 := C1.out.p.cell 6
  simp only [List.getElem?_cons_zero, List.getElem?_cons_succ] at p4 p5 p6
  go_wp2_with fail
  (try rw [hS1])
  clear p4 p5 p6 q3 g3 hS1
  refine (E2.out S1).mono ?_
  rintro e w2 ⟨rfl, hb2⟩
  have G2 := C1.out.call hb2
  have q4 := G2.o.cell 4
  have g4 := G2.o.frozen 4
  have q5 := G2.o.cell 5
  have g5 := G2.o.frozen 5
  have q6 := G2.o.cell 6
  have g6 := G2.o.frozen 6
  simp only [List.getElem?_cons_zero, List.getElem?_cons_succ] at q4 q5 q6
  obtain ⟨S2, hS2⟩ : ∃ x, (((w2).setCell ⟨w.heap.size + 2, 4, none⟩ (.int .i64 vr)).setCell ⟨w.heap.size + 2, 5, none⟩ (.int .i64 vb)).setCell ⟨w.heap.size + 2, 6, none⟩ (.string vw) = x := ⟨_, rfl⟩
  have C2 := hide (show Tg 34 43 [.int .i64 0, .string { data := #[] }, .int .i64 0, .slice none 0 0, .int .i64 0, .int .i64 0, .string { data := #[] }, .int .i64 0, .int .i64 0, .string { data := #[] }, .int .i64 0, .int .i64 0, .slice none 0 0, .int .i64 0, .slice none 0 0, .slice none 0 0] [.int .i64 kd, .string tn, .int .i64 ep, .slice ab bs.length cb, .int .i64 vr, .int .i64 vb, .string vw, .int .i64 gr, .int .i64 gh, .string gw, .int .i64 qr, .int .i64 qb, .slice aq qw.length cq, .int .i64 tr, .slice aw tw.length cw, .slice ah th.length ch] w S2 [.int .i64 kd, .string tn, .int .i64 ep, .slice a1 bs.length c1, .int .i64 vr, .int .i64 vb, .string vw, .int .i64 0, .int .i64 0, .string { data := #[] }, .int .i64 0, .int .i64 0, .slice none 0 0, .int .i64 0, .slice none 0 0, .slice none 0 0] from by rw [← hS2]; exact (((G2.put 4 _).put 5 _).put 6 _))
  have P2 := hide (show Oth (fun g => g = w.heap.size + 2) S1 S2 from by rw [← hS2]; exact (((tg_oth hb2 4 _).set (S := fun g => g = w.heap.size + 2) rfl 5 _).set (S := fun g => g = w.heap.size + 2) rfl 6 _))
  clear G2 hb2
  have p7 := C2.out.p.cell 7
  have p8 := C2.out.p.cell 8
  have p9 := C2.out.p.cell 9
  simp only [List.getElem?_cons_zero, List.getElem?_cons_succ] at p7 p8 p9
  go_wp2_with fail
  (try rw [hS2])
  clear p7 p8 p9 q4 q5 q6 g4 g5 g6 hS2
  refine (E3.out S2).mono ?_
  rintro e w3 ⟨rfl, hb3⟩
  have G3 := C2.out.call hb3
  have q7 := G3.o.cell 7
  have g7 := G3.o.frozen 7
  have q8 := G3.o.cell 8
  have g8 := G3.o.frozen 8
  have q9 := G3.o.cell 9
  have g9 := G3.o.frozen 9
  simp only [List.getElem?_cons_zero, List.getElem?_cons_succ] at q7 q8 q9
  obtain ⟨S3, hS3⟩ : ∃ x, (((w3).setCell ⟨w.heap.size + 2, 7, none⟩ (.int .i64 gr)).setCell ⟨w.heap.size + 2, 8, none⟩ (.int .i64 gh)).setCell ⟨w.heap.size + 2, 9, none⟩ (.string gw) = x := ⟨_, rfl⟩
  have C3 := hide (show Tg 34 43 [.int .i64 0, .string { data := #[] }, .int .i64 0, .slice none 0 0, .int .i64 0, .int .i64 0, .string { data := #[] }, .int .i64 0, .int .i64 0, .string { data := #[] }, .int .i64 0, .int .i64 0, .slice none 0 0, .int .i64 0, .slice none 0 0, .slice none 0 0] [.int .i64 kd, .string tn, .int .i64 ep, .slice ab bs.length cb, .int .i64 vr, .int .i64 vb, .string vw, .int .i64 gr, .int .i64 gh, .string gw, .int .i64 qr, .int .i64 qb, .slice aq qw.length cq, .int .i64 tr, .slice aw tw.length cw, .slice ah th.length ch] w S3 [.int .i64 kd, .string tn, .int .i64 ep, .slice a1 bs.length c1, .int .i64 vr, .int .i64 vb, .string vw, .int .i64 gr, .int .i64 gh, .string gw, .int .i64 0, .int .i64 0, .slice none 0 0, .int .i64 0, .slice none 0 0, .slice none 0 0] from by rw [← hS3]; exact (((G3.put 7 _).put 8 _).put 9 _))
  have P3 := hide (show Oth (fun g => g = w.heap.size + 2) S2 S3 from by rw [← hS3]; exact (((tg_oth hb3 7 _).set (S := fun g => g = w.heap.size + 2) rfl 8 _).set (S := fun g => g = w.heap.size + 2) rfl 9 _))
  clear G3 hb3
  have p10 := C3.out.p.cell 10
  have p11 := C3.out.p.cell 11
  have p12 := C3.out.p.cell 12
  simp only [List.getElem?_cons_zero, List.getElem?_cons_succ] at p10 p11 p12
  go_wp2_with fail
  (try rw [hS3])
  clear p10 p11 p12 q7 q8 q9 g7 g8 g9 hS3
  refine (E4.out S3 C3.out.b).mono ?_
  rintro e w4 ⟨v4, rfl, o4, hb4⟩
  obtain ⟨a4, c4, rfl⟩ := o4.rd.shape
  have G4 := C3.out.call hb4
  have q10 := G4.o.cell 10
  have g10 := G4.o.frozen 10
  have q11 := G4.o.cell 11
  have g11 := G4.o.frozen 11
  have q12 := G4.o.cell 12
  have g12 := G4.o.frozen 12
  simp only [List.getElem?_cons_zero, List.getElem?_cons_succ] at q10 q11 q12
  obtain ⟨S4, hS4⟩ : ∃ x, (((w4).setCell ⟨w.heap.size + 2, 10, none⟩ (.int .i64 qr)).setCell ⟨w.heap.size + 2, 11, none⟩ (.int .i64 qb)).setCell ⟨w.heap.size + 2, 12, none⟩ (.slice a4 qw.length c4) = x := ⟨_, rfl⟩
  have C4 := hide (show Tg 34 43 [.int .i64 0, .string { data := #[] }, .int .i64 0, .slice none 0 0, .int .i64 0, .int .i64 0, .string { data := #[] }, .int .i64 0, .int .i64 0, .string { data := #[] }, .int .i64 0, .int .i64 0, .slice none 0 0, .int .i64 0, .slice none 0 0, .slice none 0 0] [.int .i64 kd, .string tn, .int .i64 ep, .slice ab bs.length cb, .int .i64 vr, .int .i64 vb, .string vw, .int .i64 gr, .int .i64 gh, .string gw, .int .i64 qr, .int .i64 qb, .slice aq qw.length cq, .int .i64 tr, .slice aw tw.length cw, .slice ah th.length ch] w S4 [.int .i64 kd, .string tn, .int .i64 ep, .slice a1 bs.length c1, .int .i64 vr, .int .i64 vb, .string vw, .int .i64 gr, .int .i64 gh, .string gw, .int .i64 qr, .int .i64 qb, .slice a4 qw.length c4, .int .i64 0, .slice none 0 0, .slice none 0 0] from by rw [← hS4]; exact (((G4.put 10 _).put 11 _).put 12 _))
  have P4 := hide (show Oth (fun g => g = w.heap.size + 2) S3 S4 from by rw [← hS4]; exact (((tg_oth hb4 10 _).set (S := fun g => g = w.heap.size + 2) rfl 11 _).set (S := fun g => g = w.heap.size + 2) rfl 12 _))
  have R4 := hide (show OwnS S3.heap.size S4 (.slice a4 qw.length c4) qw from by rw [← hS4]; exact ((o4.olderC (by have := C3.out.lt; omega) 10 _).olderC (by have := C3.out.lt; omega) 11 _).olderC (by have := C3.out.lt; omega) 12 _)
  clear o4
  clear G4 hb4
  have p13 := C4.out.p.cell 13
  have p14 := C4.out.p.cell 14
  have p15 := C4.out.p.cell 15
  simp only [List.getElem?_cons_zero, List.getElem?_cons_succ] at p13 p14 p15
  go_wp2_with fail
  (try rw [hS4])
  clear p13 p14 p15 q10 q11 q12 g10 g11 g12 hS4
  refine (E5.out S4 C4.out.b).mono ?_
  rintro e w5 ⟨v5, u5, rfl, o5, i5, hb5⟩
  obtain ⟨a5, c5, rfl⟩ := o5.rd.shape
  obtain ⟨a6, c6, rfl⟩ := i5.rd.shape
  have G5 := C4.out.call hb5
  have q13 := G5.o.cell 13
  have g13 := G5.o.frozen 13
  have q14 := G5.o.cell 14
  have g14 := G5.o.frozen 14
  have q15 := G5.o.cell 15
  have g15 := G5.o.frozen 15
  simp only [List.getElem?_cons_zero, List.getElem?_cons_succ] at q13 q14 q15
  obtain ⟨S5, hS5⟩ : ∃ x, (((w5).setCell ⟨w.heap.size + 2, 13, none⟩ (.int .i64 tr)).setCell ⟨w.heap.size + 2, 14, none⟩ (.slice a5 tw.length c5)).setCell ⟨w.heap.size + 2, 15, none⟩ (.slice a6 th.length c6) = x := ⟨_, rfl⟩
  have C5 := hide (show Tg 34 43 [.int .i64 0, .string { data := #[] }, .int .i64 0, .slice none 0 0, .int .i64 0, .int .i64 0, .string { data := #[] }, .int .i64 0, .int .i64 0, .string { data := #[] }, .int .i64 0, .int .i64 0, .slice none 0 0, .int .i64 0, .slice none 0 0, .slice none 0 0] [.int .i64 kd, .string tn, .int .i64 ep, .slice ab bs.length cb, .int .i64 vr, .int .i64 vb, .string vw, .int .i64 gr, .int .i64 gh, .string gw, .int .i64 qr, .int .i64 qb, .slice aq qw.length cq, .int .i64 tr, .slice aw tw.length cw, .slice ah th.length ch] w S5 [.int .i64 kd, .string tn, .int .i64 ep, .slice a1 bs.length c1, .int .i64 vr, .int .i64 vb, .string vw, .int .i64 gr, .int .i64 gh, .string gw, .int .i64 qr, .int .i64 qb, .slice a4 qw.length c4, .int .i64 tr, .slice a5 tw.length c5, .slice a6 th.length c6] from by rw [← hS5]; exact (((G5.put 13 _).put 14 _).put 15 _))
  have P5 := hide (show Oth (fun g => g = w.heap.size + 2) S4 S5 from by rw [← hS5]; exact (((tg_oth hb5 13 _).set (S := fun g => g = w.heap.size + 2) rfl 14 _).set (S := fun g => g = w.heap.size + 2) rfl 15 _))
  have R5 := hide (show OwnS S4.heap.size S5 (.slice a5 tw.length c5) tw from by rw [← hS5]; exact ((o5.olderC (by have := C4.out.lt; omega) 13 _).olderC (by have := C4.out.lt; omega) 14 _).olderC (by have := C4.out.lt; omega) 15 _)
  have R6 := hide (show OwnI S4.heap.size S5 (.slice a6 th.length c6) th from by rw [← hS5]; exact ((i5.olderC (by have := C4.out.lt; omega) 13 _).olderC (by have := C4.out.lt; omega) 14 _).olderC (by have := C4.out.lt; omega) 15 _)
  clear o5 i5
  clear G5 hb5
  have t0 := C5.out.o.cell 0
  have e0 := C5.out.r.cell 0
  have f0 := C5.out.r.frozen 0
  have t1 := C5.out.o.cell 1
  have e1 := C5.out.r.cell 1
  have f1 := C5.out.r.frozen 1
  have t2 := C5.out.o.cell 2
  have e2 := C5.out.r.cell 2
  have f2 := C5.out.r.frozen 2
  have t3 := C5.out.o.cell 3
  have e3 := C5.out.r.cell 3
  have f3 := C5.out.r.frozen 3
  have t4 := C5.out.o.cell 4
  have e4 := C5.out.r.cell 4
  have f4 := C5.out.r.frozen 4
  have t5 := C5.out.o.cell 5
  have e5 := C5.out.r.cell 5
  have f5 := C5.out.r.frozen 5
  have t6 := C5.out.o.cell 6
  have e6 := C5.out.r.cell 6
  have f6 := C5.out.r.frozen 6
  have t7 := C5.out.o.cell 7
  have e7 := C5.out.r.cell 7
  have f7 := C5.out.r.frozen 7
  have t8 := C5.out.o.cell 8
  have e8 := C5.out.r.cell 8
  have f8 := C5.out.r.frozen 8
  have t9 := C5.out.o.cell 9
  have e9 := C5.out.r.cell 9
  have f9 := C5.out.r.frozen 9
  have t10 := C5.out.o.cell 10
  have e10 := C5.out.r.cell 10
  have f10 := C5.out.r.frozen 10
  have t11 := C5.out.o.cell 11
  have e11 := C5.out.r.cell 11
  have f11 := C5.out.r.frozen 11
  have t12 := C5.out.o.cell 12
  have e12 := C5.out.r.cell 12
  have f12 := C5.out.r.frozen 12
  have t13 := C5.out.o.cell 13
  have e13 := C5.out.r.cell 13
  have f13 := C5.out.r.frozen 13
  have t14 := C5.out.o.cell 14
  have e14 := C5.out.r.cell 14
  have f14 := C5.out.r.frozen 14
  have t15 := C5.out.o.cell 15
  have e15 := C5.out.r.cell 15
  have f15 := C5.out.r.frozen 15
  simp only [List.getElem?_cons_zero, List.getElem?_cons_succ] at t0 e0 t1 e1 t2 e2 t3 e3 t4 e4 t5 e5 t6 e6 t7 e7 t8 e8 t9 e9 t10 e10 t11 e11 t12 e12 t13 e13 t14 e14 t15 e15
  have hOx : Oth (fun g => g = w.heap.size + 1) S5 (((((((((((((((((S5).setCell ⟨w.heap.size + 1, 0, none⟩ (.int .i64 kd)).setCell ⟨w.heap.size + 1, 1, none⟩ (.string tn)).setCell ⟨w.heap.size + 1, 2, none⟩ (.int .i64 ep)).setCell ⟨w.heap.size + 1, 3, none⟩ (.slice a1 bs.length c1)).setCell ⟨w.heap.size + 1, 4, none⟩ (.int .i64 vr)).setCell ⟨w.heap.size + 1, 5, none⟩ (.int .i64 vb)).setCell ⟨w.heap.size + 1, 6, none⟩ (.string vw)).setCell ⟨w.heap.size + 1, 7, none⟩ (.int .i64 gr)).setCell ⟨w.heap.size + 1, 8, none⟩ (.int .i64 gh)).setCell ⟨w.heap.size + 1, 9, none⟩ (.string gw)).setCell ⟨w.heap.size + 1, 10, none⟩ (.int .i64 qr)).setCell ⟨w.heap.size + 1, 11, none⟩ (.int .i64 qb)).setCell ⟨w.heap.size + 1, 12, none⟩ (.slice a4 qw.length c4)).setCell ⟨w.heap.size + 1, 13, none⟩ (.int .i64 tr)).setCell ⟨w.heap.size + 1, 14, none⟩ (.slice a5 tw.length c5)).setCell ⟨w.heap.size + 1, 15, none⟩ (.slice a6 th.length c6)) := (((((((((((((((((Oth.refl (fun g => g = w.heap.size + 1) S5).set rfl 0 _).set rfl 1 _).set rfl 2 _).set rfl 3 _).set rfl 4 _).set rfl 5 _).set rfl 6 _).set rfl 7 _).set rfl 8 _).set rfl 9 _).set rfl 10 _).set rfl 11 _).set rfl 12 _).set rfl 13 _).set rfl 14 _).set rfl 15 _)
  have hBx : Below w.heap.size S5 (((((((((((((((((S5).setCell ⟨w.heap.size + 1, 0, none⟩ (.int .i64 kd)).setCell ⟨w.heap.size + 1, 1, none⟩ (.string tn)).setCell ⟨w.heap.size + 1, 2, none⟩ (.int .i64 ep)).setCell ⟨w.heap.size + 1, 3, none⟩ (.slice a1 bs.length c1)).setCell ⟨w.heap.size + 1, 4, none⟩ (.int .i64 vr)).setCell ⟨w.heap.size + 1, 5, none⟩ (.int .i64 vb)).setCell ⟨w.heap.size + 1, 6, none⟩ (.string vw)).setCell ⟨w.heap.size + 1, 7, none⟩ (.int .i64 gr)).setCell ⟨w.heap.size + 1, 8, none⟩ (.int .i64 gh)).setCell ⟨w.heap.size + 1, 9, none⟩ (.string gw)).setCell ⟨w.heap.size + 1, 10, none⟩ (.int .i64 qr)).setCell ⟨w.heap.size + 1, 11, none⟩ (.int .i64 qb)).setCell ⟨w.heap.size + 1, 12, none⟩ (.slice a4 qw.length c4)).setCell ⟨w.heap.size + 1, 13, none⟩ (.int .i64 tr)).setCell ⟨w.heap.size + 1, 14, none⟩ (.slice a5 tw.length c5)).setCell ⟨w.heap.size + 1, 15, none⟩ (.slice a6 th.length c6)) := (((((((((((((((((Below.refl w.heap.size S5).setCell (p := ⟨w.heap.size + 1, 0, none⟩) (show w.heap.size ≤ w.heap.size + 1 by omega) _).setCell (p := ⟨w.heap.size + 1, 1, none⟩) (show w.heap.size ≤ w.heap.size + 1 by omega) _).setCell (p := ⟨w.heap.size + 1, 2, none⟩) (show w.heap.size ≤ w.heap.size + 1 by omega) _).setCell (p := ⟨w.heap.size + 1, 3, none⟩) (show w.heap.size ≤ w.heap.size + 1 by omega) _).setCell (p := ⟨w.heap.size + 1, 4, none⟩) (show w.heap.size ≤ w.heap.size + 1 by omega) _).setCell (p := ⟨w.heap.size + 1, 5, none⟩) (show w.heap.size ≤ w.heap.size + 1 by omega) _).setCell (p := ⟨w.heap.size + 1, 6, none⟩) (show w.heap.size ≤ w.heap.size + 1 by omega) _).setCell (p := ⟨w.heap.size + 1, 7, none⟩) (show w.heap.size ≤ w.heap.size + 1 by omega) _).setCell (p := ⟨w.heap.size + 1, 8, none⟩) (show w.heap.size ≤ w.heap.size + 1 by omega) _).setCell (p := ⟨w.heap.size + 1, 9, none⟩) (show w.heap.size ≤ w.heap.size + 1 by omega) _).setCell (p := ⟨w.heap.size + 1, 10, none⟩) (show w.heap.size ≤ w.heap.size + 1 by omega) _).setCell (p := ⟨w.heap.size + 1, 11, none⟩) (show w.heap.size ≤ w.heap.size + 1 by omega) _).setCell (p := ⟨w.heap.size + 1, 12, none⟩) (show w.heap.size ≤ w.heap.size + 1 by omega) _).setCell (p := ⟨w.heap.size + 1, 13, none⟩) (show w.heap.size ≤ w.heap.size + 1 by omega) _).setCell (p := ⟨w.heap.size + 1, 14, none⟩) (show w.heap.size ≤ w.heap.size + 1 by omega) _).setCell (p := ⟨w.heap.size + 1, 15, none⟩) (show w.heap.size ≤ w.heap.size + 1 by omega) _)
  generalize hS6 : ((((((((((((((((S5).setCell ⟨w.heap.size + 1, 0, none⟩ (.int .i64 kd)).setCell ⟨w.heap.size + 1, 1, none⟩ (.string tn)).setCell ⟨w.heap.size + 1, 2, none⟩ (.int .i64 ep)).setCell ⟨w.heap.size + 1, 3, none⟩ (.slice a1 bs.length c1)).setCell ⟨w.heap.size + 1, 4, none⟩ (.int .i64 vr)).setCell ⟨w.heap.size + 1, 5, none⟩ (.int .i64 vb)).setCell ⟨w.heap.size + 1, 6, none⟩ (.string vw)).setCell ⟨w.heap.size + 1, 7, none⟩ (.int .i64 gr)).setCell ⟨w.heap.size + 1, 8, none⟩ (.int .i64 gh)).setCell ⟨w.heap.size + 1, 9, none⟩ (.string gw)).setCell ⟨w.heap.size + 1, 10, none⟩ (.int .i64 qr)).setCell ⟨w.heap.size + 1, 11, none⟩ (.int .i64 qb)).setCell ⟨w.heap.size + 1, 12, none⟩ (.slice a4 qw.length c4)).setCell ⟨w.heap.size + 1, 13, none⟩ (.int .i64 tr)).setCell ⟨w.heap.size + 1, 14, none⟩ (.slice a5 tw.length c5)).setCell ⟨w.heap.size + 1, 15, none⟩ (.slice a6 th.length c6) = S6 at hOx hBx
  have hz0 := C0.out.lt
  have hz3 := C3.out.lt
  have hz4 := C4.out.lt
  have F1 := hide (((((((R1.out.othM P2.out (fun g h1 _ h2 => by omega)).othM P3.out (fun g h1 _ h2 => by omega)).othM P4.out (fun g h1 _ h2 => by omega)).othM P5.out (fun g h1 _ h2 => by omega)).othM hOx (fun g h1 _ h2 => by omega))).monoM (show w.heap.size ≤ S0.heap.size by omega))
  have r4 : OwnS S3.heap.size S5 (.slice a4 qw.length c4) qw := row_oth R4.out P5.out (fun k hk e => by have := (World.ownsRow.lt R4.out k hk).1; omega)
  have F4 := hide ((show OwnS S3.heap.size S6 (.slice a4 qw.length c4) qw from row_oth r4 hOx (fun k hk e => by have := (World.ownsRow.lt r4 k hk).1; omega)).mono (show w.heap.size ≤ S3.heap.size by omega))
  have F5 := hide ((show OwnS S4.heap.size S6 (.slice a5 tw.length c5) tw from row_oth R5.out hOx (fun k hk e => by have := (World.ownsRow.lt R5.out k hk).1; omega)).mono (show w.heap.size ≤ S4.heap.size by omega))
  have F6 := hide ((show OwnI S4.heap.size S6 (.slice a6 th.length c6) th from row_oth R6.out hOx (fun k hk e => by have := (World.ownsRow.lt R6.out k hk).1; omega)).mono (show w.heap.size ≤ S4.heap.size by omega))
  have FB := hide (C5.out.b.trans hBx)
  have HS6 := hide hS6
  clear hOx hBx R1 R4 R5 R6 P1 P2 P3 P4 P5 C0 C1 C2 C3 C4 C5 r4 hS6
  go_wp2
  (try rw [hS5])
  refine bodyPost_ret (v := .agg #[.int .i64 kd, .string tn, .int .i64 ep, .slice a1 bs.length c1, .int .i64 vr, .int .i64 vb, .string vw, .int .i64 gr, .int .i64 gh, .string gw, .int .i64 qr, .int .i64 qb, .slice a4 qw.length c4, .int .i64 tr, .slice a5 tw.length c5, .slice a6 th.length c6]) (by simp [results, Try.f11, go_sem, e0, e1, e2, e3, e4, e5, e6, e7, e8, e9, e10, e11, e12, e13, e14, e15]) rfl ?_
  rw [HS6.out]
  exact ⟨⟨_, _, _, _⟩, rfl, ⟨F1.out, F4.out, F5.out, F6.out⟩, FB.out⟩
set_option maxRecDepth 20000 in
set_option maxHeartbeats 8000000 in
theorem eqMsg_any (m : Mg) (v v2 : Mv) (w : World) (hr : RdM w m v) (hr2 : RdM w m v2) (hf : FewM m) :
    Calls Try.prog 13 #[mgV m v, mgV m v2] w fun e w' => e = .returned (.bool true) ∧ Below w.heap.size w w' := by
  have hlb := hf.b
  have hbs := hf.bs
  have hlq := hf.q
  have hlw := hf.w
  have hlh := hf.h
  clear hf
  obtain ⟨kd, tn, ep, bs, vr, vb, vw, gr, gh, gw, qr, qb, qw, tr, tw, th⟩ := m
  obtain ⟨xb, xq, xw, xh⟩ := v
  obtain ⟨yb, yq, yw, yh⟩ := v2
  obtain ⟨hb, hq, hw, hh⟩ := hr
  obtain ⟨jb, jq, jw, jh⟩ := hr2
  simp only at *
  obtain ⟨ab, cb, rfl⟩ := hb.shape
  obtain ⟨aq, cq, rfl⟩ := hq.shape
  obtain ⟨aw, cw, rfl⟩ := hw.shape
  obtain ⟨ah, ch, rfl⟩ := hh.shape
  obtain ⟨ab2, cb2, rfl⟩ := jb.shape
  obtain ⟨aq2, cq2, rfl⟩ := jq.shape
  obtain ⟨aw2, cw2, rfl⟩ := jw.shape
  obtain ⟨ah2, ch2, rfl⟩ := jh.shape
  have E1 := hide (fun V (hV : Below w.heap.size w V) => eqBlockS_any (.slice ab bs.length cb) (.slice ab2 bs.length cb2) bs V (hb.below hV (Nat.le_refl _)) (jb.below hV (Nat.le_refl _)) hlb hbs)
  have E2 := hide (fun V => eqVote_same vr vb vw V)
  have E3 := hide (fun V => eqGone_same gr gh gw V)
  have E4 := hide (fun V (hV : Below w.heap.size w V) => eqQc_any qr qb (.slice aq qw.length cq) (.slice aq2 qw.length cq2) qw V (hq.below hV (Nat.le_refl _)) (jq.below hV (Nat.le_refl _)) hlq)
  have E5 := hide (fun V (hV : Below w.heap.size w V) => eqTc_any tr (.slice aw tw.length cw) (.slice ah th.length ch) (.slice aw2 tw.length cw2) (.slice ah2 th.length ch2) tw th V (hw.below hV (Nat.le_refl _)) (hh.below hV (Nat.le_refl _)) (jw.below hV (Nat.le_refl _)) (jh.below hV (Nat.le_refl _)) hlw hlh)
  clear hb hq hw hh jb jq jw jh hbs
  simp only [mgV, qcV, tcV] at *
  obtain ⟨S0, hS0⟩ : ∃ x, (w.alloc (.cells #[.int .i64 kd, .string tn, .int .i64 ep, .slice ab bs.length cb, .int .i64 vr, .int .i64 vb, .string vw, .int .i64 gr, .int .i64 gh, .string gw, .int .i64 qr, .int .i64 qb, .slice aq qw.length cq, .int .i64 tr, .slice aw tw.length cw, .slice ah th.length ch] 43)).alloc (.cells #[.int .i64 kd, .string tn, .int .i64 ep, .slice ab2 bs.length cb2, .int .i64 vr, .int .i64 vb, .string vw, .int .i64 gr, .int .i64 gh, .string gw, .int .i64 qr, .int .i64 qb, .slice aq2 qw.length cq2, .int .i64 tr, .slice aw2 tw.length cw2, .slice ah2 th.length ch2] 43) = x := ⟨_, rfl⟩
  have kA : Blk S0 w.heap.size 43 [.int .i64 kd, .string tn, .int .i64 ep, .slice ab bs.length cb, .int .i64 vr, .int .i64 vb, .string vw, .int .i64 gr, .int .i64 gh, .string gw, .int .i64 qr, .int .i64 qb, .slice aq qw.length cq, .int .i64 tr, .slice aw tw.length cw, .slice ah th.length ch] := by rw [← hS0]; exact (Blk.new w _ _).below ((Below.refl (w.heap.size + 1) _).alloc (by simp) _) (by omega)
  have kB : Blk S0 (w.heap.size + 1) 43 [.int .i64 kd, .string tn, .int .i64 ep, .slice ab2 bs.length cb2, .int .i64 vr, .int .i64 vb, .string vw, .int .i64 gr, .int .i64 gh, .string gw, .int .i64 qr, .int .i64 qb, .slice aq2 qw.length cq2, .int .i64 tr, .slice aw2 tw.length cw2, .slice ah2 th.length ch2] := by rw [← hS0]; exact Blk.newR _ _ [.int .i64 kd, .string tn, .int .i64 ep, .slice ab2 bs.length cb2, .int .i64 vr, .int .i64 vb, .string vw, .int .i64 gr, .int .i64 gh, .string gw, .int .i64 qr, .int .i64 qb, .slice aq2 qw.length cq2, .int .i64 tr, .slice aw2 tw.length cw2, .slice ah2 th.length ch2] _ (by simp)
  have b0 : Below w.heap.size w S0 := by rw [← hS0]; exact ((Below.refl _ w).alloc (Nat.le_refl _) _).alloc (by simp) _
  have x0 := kA.cell 0
  have x1 := kA.cell 1
  have x2 := kA.cell 2
  have x3 := kA.cell 3
  simp only [List.getElem?_cons_zero, List.getElem?_cons_succ] at x0 x1 x2 x3
  have y0 := kB.cell 0
  have y1 := kB.cell 1
  have y2 := kB.cell 2
  have y3 := kB.cell 3
  simp only [List.getElem?_cons_zero, List.getElem?_cons_succ] at y0 y1 y2 y3
  go_enter Try.func13, Try.ntmps13
  go_wp2_with fail
  (try rw [hS0])
  refine (E1.out S0 b0).mono ?_
  rintro e w1 ⟨rfl, hb1⟩
  have b1 := b0.trans (hb1.mono b0.size)
  have kA1 := kA.below hb1 kA.lt
  have kB1 := kB.below hb1 kB.lt
  clear x0 x1 x2 x3 y0 y1 y2 y3 hS0 kA kB b0 hb1 E1
  have x4 := kA1.cell 4
  have x5 := kA1.cell 5
  have x6 := kA1.cell 6
  simp only [List.getElem?_cons_zero, List.getElem?_cons_succ] at x4 x5 x6
  have y4 := kB1.cell 4
  have y5 := kB1.cell 5
  have y6 := kB1.cell 6
  simp only [List.getElem?_cons_zero, List.getElem?_cons_succ] at y4 y5 y6
  go_wp2_with fail
  refine (E2.out w1).mono ?_
  rintro e w2 ⟨rfl, hb2⟩
  have b2 := b1.trans (hb2.mono b1.size)
  have kA2 := kA1.below hb2 kA1.lt
  have kB2 := kB1.below hb2 kB1.lt
  clear x4 x5 x6 y4 y5 y6 kA1 kB1 b1 hb2
  have x7 := kA2.cell 7
  have x8 := kA2.cell 8
  have x9 := kA2.cell 9
  simp only [List.getElem?_cons_zero, List.getElem?_cons_succ] at x7 x8 x9
  have y7 := kB2.cell 7
  have y8 := kB2.cell 8
  have y9 := kB2.cell 9
  simp only [List.getElem?_cons_zero, List.getElem?_cons_succ] at y7 y8 y9
  go_wp2_with fail
  refine (E3.out w2).mono ?_
  rintro e w3 ⟨rfl, hb3⟩
  have b3 := b2.trans (hb3.mono b2.size)
  have kA3 := kA2.below hb3 kA2.lt
  have kB3 := kB2.below hb3 kB2.lt
  clear x7 x8 x9 y7 y8 y9 kA2 kB2 b2 hb3
  have x10 := kA3.cell 10
  have x11 := kA3.cell 11
  have x12 := kA3.cell 12
  simp only [List.getElem?_cons_zero, List.getElem?_cons_succ] at x10 x11 x12
  have y10 := kB3.cell 10
  have y11 := kB3.cell 11
  have y12 := kB3.cell 12
  simp only [List.getElem?_cons_zero, List.getElem?_cons_succ] at y10 y11 y12
  go_wp2_with fail
  refine (E4.out w3 b3).mono ?_
  rintro e w4 ⟨rfl, hb4⟩
  have b4 := b3.trans (hb4.mono b3.size)
  have kA4 := kA3.below hb4 kA3.lt
  have kB4 := kB3.below hb4 kB3.lt
  clear x10 x11 x12 y10 y11 y12 kA3 kB3 b3 hb4
  have x13 := kA4.cell 13
  have x14 := kA4.cell 14
  have x15 := kA4.cell 15
  simp only [List.getElem?_cons_zero, List.getElem?_cons_succ] at x13 x14 x15
  have y13 := kB4.cell 13
  have y14 := kB4.cell 14
  have y15 := kB4.cell 15
  simp only [List.getElem?_cons_zero, List.getElem?_cons_succ] at y13 y14 y15
  go_wp2_with fail
  refine (E5.out w4 b4).mono ?_
  rintro e w5 ⟨rfl, hb5⟩
  have b5 := b4.trans (hb5.mono b4.size)
  go_wp2
  go_ret
  exact ⟨rfl, b5⟩
set_option maxRecDepth 20000 in
set_option maxHeartbeats 8000000 in
theorem szMsg_any (m : Mg) (v : Mv) (n : Nat) (w : World) (hr : RdM w m v) (hn : n ≤ 100000000) (hlb : m.bs.length ≤ maxLen) (hfb : ∀ b ∈ m.bs, FitK b) (hlq : m.qw.length ≤ maxLen) (hsq : ∀ s ∈ m.qw, s.size ≤ maxLen) (hlw : m.tw.length ≤ maxLen) (hsw : ∀ s ∈ m.tw, s.size ≤ maxLen) (hlh : m.th.length ≤ maxLen) (ht : m.tn.size ≤ maxLen) (hv : m.vw.size ≤ maxLen) (hg : m.gw.size ≤ maxLen) :
    Calls Try.prog 9 #[mgV m v, .int .i64 (n : Int)] w fun e w' => ∃ r : Int, e = .returned (.int .i64 r) ∧ (0 ≤ r → m.bs.length ≤ n ∧ (∀ b ∈ m.bs, b.qw.length ≤ n ∧ b.tw.length ≤ n ∧ b.th.length ≤ n ∧ b.ts.length ≤ n ∧ b.nx.length ≤ n) ∧ m.qw.length ≤ n ∧ m.tw.length ≤ n ∧ m.th.length ≤ n) ∧ Below w.heap.size w w' := by
  have em : maxLen ≤ 9223372036854775807 := by unfold maxLen; omega
  obtain ⟨kd, tn, ep, bs, vr, vb, vw, gr, gh, gw, qr, qb, qw, tr, tw, th⟩ := m
  obtain ⟨xb, xq, xw, xh⟩ := v
  obtain ⟨hb, hq, hw, hh⟩ := hr
  simp only at *
  obtain ⟨ab, cb, rfl⟩ := hb.shape
  obtain ⟨aq, cq, rfl⟩ := hq.shape
  obtain ⟨aw, cw, rfl⟩ := hw.shape
  obtain ⟨ah, ch, rfl⟩ := hh.shape
  have E1 := hide (fun (k : Nat) V (hk : k ≤ 100000000) (hV : Below w.heap.size w V) => szBlockS_any (.slice ab bs.length cb) bs k V (hb.below hV (Nat.le_refl _)) hk hlb hfb)
  have E2 := hide (fun (k : Nat) V (hk : k ≤ 100000000) => szVote_any vr vb vw k V hk (by omega))
  have E3 := hide (fun (k : Nat) V (hk : k ≤ 100000000) => szGone_any gr gh gw k V hk (by omega))
  have E4 := hide (fun (k : Nat) V (hk : k ≤ 100000000) (hV : Below w.heap.size w V) => szQc_any qr qb (.slice aq qw.length cq) qw k V (hq.below hV (Nat.le_refl _)) hk (by omega) (fun s hs => by have := hsq s hs; omega))
  have E5 := hide (fun (k : Nat) V (hk : k ≤ 100000000) (hV : Below w.heap.size w V) => szTcM_any tr (.slice aw tw.length cw) (.slice ah th.length ch) tw th k V (hw.below hV (Nat.le_refl _)) (hh.below hV (Nat.le_refl _)) hk (by omega) (fun s hs => by have := hsw s hs; omega) (by omega))
  clear hb hq hw hh hfb hsq hsw hlb hlq hlw hlh hv hg
  simp only [mgV, qcV, tcV] at *
  obtain ⟨S0, hS0⟩ : ∃ x, w.alloc (.cells #[.int .i64 kd, .string tn, .int .i64 ep, .slice ab bs.length cb, .int .i64 vr, .int .i64 vb, .string vw, .int .i64 gr, .int .i64 gh, .string gw, .int .i64 qr, .int .i64 qb, .slice aq qw.length cq, .int .i64 tr, .slice aw tw.length cw, .slice ah th.length ch] 34) = x := ⟨_, rfl⟩
  have kA : Blk S0 w.heap.size 34 [.int .i64 kd, .string tn, .int .i64 ep, .slice ab bs.length cb, .int .i64 vr, .int .i64 vb, .string vw, .int .i64 gr, .int .i64 gh, .string gw, .int .i64 qr, .int .i64 qb, .slice aq qw.length cq, .int .i64 tr, .slice aw tw.length cw, .slice ah th.length ch] := by rw [← hS0]; exact Blk.new w _ _
  have b0 : Below w.heap.size w S0 := by rw [← hS0]; exact (Below.refl _ w).alloc (Nat.le_refl _) _
  have ew : IntKind.i64.wrap ((n : Int) - (tn.size : Int)) = n - tn.size := by rw [IntKind.wrap_i64]; omega
  have x1 := kA.cell 1
  simp only [List.getElem?_cons_zero, List.getElem?_cons_succ] at x1
  by_cases h1 : (n : Int) - (tn.size : Int) < 0
  · clear kA
    go_enter Try.func9, Try.ntmps9
    go_wp2
    go_ret
    exact ⟨-1, rfl, fun h => by omega, b0⟩
  obtain ⟨k1, hk1⟩ : ∃ k1 : Nat, (n : Int) - (tn.size : Int) = (k1 : Int) := ⟨n - tn.size, by omega⟩
  have hkn : k1 ≤ n := by omega
  replace ew := ew.trans hk1
  clear ht
  have x3 := kA.cell 3
  simp only [List.getElem?_cons_zero, List.getElem?_cons_succ] at x3
  go_enter Try.func9, Try.ntmps9
  have h1' : ¬ ((k1 : Int) < 0) := by omega
  clear h1 hk1
  go_wp2_with fail
  (try rw [hS0])
  refine (E1.out k1 S0 (by omega) b0).mono ?_
  rintro e w1 ⟨r1, rfl, hfit1, hb1⟩
  have b1 := b0.trans (hb1.mono b0.size)
  have kA1 := kA.below hb1 kA.lt
  clear x1 x3 hS0 kA b0 hb1 E1 ew
  by_cases hr1 : r1 < 0
  · clear kA1
    go_wp2
    go_ret
    exact ⟨-1, rfl, fun h => by omega, b1⟩
  obtain ⟨n1, rfl⟩ : ∃ j : Nat, r1 = (j : Int) := ⟨r1.toNat, by omega⟩
  have F1 := hide (hfit1 (by omega))
  have hn1 : n1 ≤ n := by have := F1.out; omega
  clear hfit1
  have x4 := kA1.cell 4
  have x5 := kA1.cell 5
  have x6 := kA1.cell 6
  simp only [List.getElem?_cons_zero, List.getElem?_cons_succ] at x4 x5 x6
  go_wp2_with fail
  refine (E2.out n1 w1 (by omega)).mono ?_
  rintro e w2 ⟨r2, rfl, hfit2, hb2⟩
  have b2 := b1.trans (hb2.mono b1.size)
  have kA2 := kA1.below hb2 kA1.lt
  clear x4 x5 x6 kA1 b1 hb2 hr1
  by_cases hr2 : r2 < 0
  · clear kA2
    go_wp2
    go_ret
    exact ⟨-1, rfl, fun h => by omega, b2⟩
  obtain ⟨n2, rfl⟩ : ∃ j : Nat, r2 = (j : Int) := ⟨r2.toNat, by omega⟩
  have F2 := hide (hfit2 (by omega))
  have hn2 : n2 ≤ n := by have := F2.out; omega
  clear hfit2
  have x7 := kA2.cell 7
  have x8 := kA2.cell 8
  have x9 := kA2.cell 9
  simp only [List.getElem?_cons_zero, List.getElem?_cons_succ] at x7 x8 x9
  go_wp2_with fail
  refine (E3.out n2 w2 (by omega)).mono ?_
  rintro e w3 ⟨r3, rfl, hfit3, hb3⟩
  have b3 := b2.trans (hb3.mono b2.size)
  have kA3 := kA2.below hb3 kA2.lt
  clear x7 x8 x9 kA2 b2 hb3 hr2
  by_cases hr3 : r3 < 0
  · clear kA3
    go_wp2
    go_ret
    exact ⟨-1, rfl, fun h => by omega, b3⟩
  obtain ⟨n3, rfl⟩ : ∃ j : Nat, r3 = (j : Int) := ⟨r3.toNat, by omega⟩
  have F3 := hide (hfit3 (by omega))
  have hn3 : n3 ≤ n := by have := F3.out; omega
  clear hfit3
  have x10 := kA3.cell 10
  have x11 := kA3.cell 11
  have x12 := kA3.cell 12
  simp only [List.getElem?_cons_zero, List.getElem?_cons_succ] at x10 x11 x12
  go_wp2_with fail
  refine (E4.out n3 w3 (by omega) b3).mono ?_
  rintro e w4 ⟨r4, rfl, hfit4, hb4⟩
  have b4 := b3.trans (hb4.mono b3.size)
  have kA4 := kA3.below hb4 kA3.lt
  clear x10 x11 x12 kA3 b3 hb4 hr3
  by_cases hr4 : r4 < 0
  · clear kA4
    go_wp2
    go_ret
    exact ⟨-1, rfl, fun h => by omega, b4⟩
  obtain ⟨n4, rfl⟩ : ∃ j : Nat, r4 = (j : Int) := ⟨r4.toNat, by omega⟩
  have F4 := hide (hfit4 (by omega))
  have hn4 : n4 ≤ n := by have := F4.out; omega
  clear hfit4
  have x13 := kA4.cell 13
  have x14 := kA4.cell 14
  have x15 := kA4.cell 15
  simp only [List.getElem?_cons_zero, List.getElem?_cons_succ] at x13 x14 x15
  go_wp2_with fail
  refine (E5.out n4 w4 (by omega) b4).mono ?_
  rintro e w5 ⟨r5, rfl, hfit5, hb5⟩
  have b5 := b4.trans (hb5.mono b4.size)
  have kA5 := kA4.below hb5 kA4.lt
  clear x13 x14 x15 kA4 b4 hb5 hr4
  by_cases hr5 : r5 < 0
  · clear kA5
    go_wp2
    go_ret
    exact ⟨-1, rfl, fun h => by omega, b5⟩
  have F5 := hide (hfit5 (by omega))
  clear hfit5 kA5
  go_wp2
  go_ret
  refine ⟨r5, rfl, fun _ => ?_, b5⟩
  have f1 := F1.out
  have f4 := F4.out
  have f5 := F5.out
  exact ⟨by omega, fun b hb => by have := f1.2.1 b hb; omega, by omega, by omega, by omega⟩
end Go.Proofs.Ytlfoaobgdipdlaa
