/- A word that came in, opened: what it reads as. Which words are right, plainly. -/
import Derived.Test.YtlfoaobgdipdlaaZmMgVal
namespace Go.Proofs.Ytlfoaobgdipdlaa
open Go.RowKit Go.ChangeShapes Go.WideShapes
set_option linter.unusedVariables false

/-- What every word that comes in keeps to. -/
structure FitM (m : Mg) : Prop where
  b : m.bs.length ≤ maxLen
  bs : ∀ b ∈ m.bs, FitK b
  q : m.qw.length ≤ maxLen
  w : m.tw.length ≤ maxLen
  h : m.th.length ≤ maxLen
  qs : ∀ s ∈ m.qw, s.size ≤ maxLen
  ws : ∀ s ∈ m.tw, s.size ≤ maxLen
  t : m.tn.size ≤ maxLen
  vs : m.vw.size ≤ maxLen
  gs : m.gw.size ≤ maxLen
  wf : (Lit.int .i64 m.kd).wf = true ∧ (Lit.int .i64 m.ep).wf = true ∧ (Lit.int .i64 m.vr).wf = true ∧ (Lit.int .i64 m.vb).wf = true ∧ (Lit.int .i64 m.gr).wf = true ∧ (Lit.int .i64 m.gh).wf = true ∧ (Lit.int .i64 m.qr).wf = true ∧ (Lit.int .i64 m.qb).wf = true ∧ (Lit.int .i64 m.tr).wf = true
theorem FitM.few {m : Mg} (h : FitM m) {n : Nat} (hn : n ≤ 4000000) (hs : m.bs.length ≤ n ∧ (∀ b ∈ m.bs, b.qw.length ≤ n ∧ b.tw.length ≤ n ∧ b.th.length ≤ n ∧ b.ts.length ≤ n ∧ b.nx.length ≤ n) ∧ m.qw.length ≤ n ∧ m.tw.length ≤ n ∧ m.th.length ≤ n) : FewM m :=
  ⟨by omega, fun b hb => by have f := h.bs b hb; have k := hs.2.1 b hb; exact ⟨by omega, by omega, by omega, by omega, by omega, f.qs, f.ws, f.ts, f.ns, f.ms, f.rs⟩, trS_of h.bs, by omega, by omega, by omega, h.qs, h.ws, h.t, h.vs, h.gs, wf_int h.wf.2.2.2.2.1, wf_int h.wf.2.2.2.2.2.2.2.2⟩
section
variable {H : Type} {enc : TypeId × Value → H} {w : World} {base : Nat} {spare : Nat → Bool} {held : Bool}
set_option maxRecDepth 20000 in
theorem open_vote {fuel : Nat} {cs : List Value} {x : DataW H × List MemPlace} (h : DataW.trod enc Try.prog w base spare held fuel 24 cs = some x) :
    ∃ (r k : Int) (s : ByteArray), cs = [.int .i64 r, .int .i64 k, .string s] ∧ s.size ≤ maxLen ∧ (Lit.int .i64 r).wf = true ∧ (Lit.int .i64 k).wf = true := by
  obtain ⟨xs, n, _, _, hlen, hxl, hf⟩ := DataW.trod_struct Try.underlying24 h
  have h5 : cs.length = 3 := hlen.trans (by kernel_rfl)
  have hx5 : xs.length = 3 := hxl
  match cs, h5, xs, hx5 with
  | [c0, c1, c2], _, [y0, y1, y2], _ =>
    have ki : Try.prog.cellsOf 3 = 1 := by kernel_rfl
    have ks : Try.prog.cellsOf 9 = 1 := by kernel_rfl
    have g0 : DataW.trod enc Try.prog w base spare held n 3 [c0] = some y0 := by
      have e := hf 0 _ rfl
      change DataW.trod enc Try.prog w base spare held n 3 (List.take (Try.prog.cellsOf 3) [c0, c1, c2]) = some y0 at e
      rw [ki] at e
      exact e
    have g1 : DataW.trod enc Try.prog w base spare held n 3 [c1] = some y1 := by
      have e := hf 1 _ rfl
      change DataW.trod enc Try.prog w base spare held n 3 (List.take (Try.prog.cellsOf 3) [c1, c2]) = some y1 at e
      rw [ki] at e
      exact e
    have g2 : DataW.trod enc Try.prog w base spare held n 9 [c2] = some y2 := by
      have e := hf 2 _ rfl
      change DataW.trod enc Try.prog w base spare held n 9 (List.take (Try.prog.cellsOf 9) [c2]) = some y2 at e
      rw [ks] at e
      exact e
    obtain ⟨z0, e0, _, f0⟩ := DataW.trod_int Try.underlying3 g0
    obtain ⟨z1, e1, _, f1⟩ := DataW.trod_int Try.underlying3 g1
    obtain ⟨s2, e2, _, f2⟩ := DataW.trod_string Try.underlying9 g2
    simp only [List.cons.injEq, and_true] at e0 e1 e2
    subst e0 e1 e2
    exact ⟨z0, z1, s2, rfl, f2, f0, f1⟩
set_option maxRecDepth 20000 in
theorem open_gone {fuel : Nat} {cs : List Value} {x : DataW H × List MemPlace} (h : DataW.trod enc Try.prog w base spare held fuel 26 cs = some x) :
    ∃ (r k : Int) (s : ByteArray), cs = [.int .i64 r, .int .i64 k, .string s] ∧ s.size ≤ maxLen ∧ (Lit.int .i64 r).wf = true ∧ (Lit.int .i64 k).wf = true := by
  obtain ⟨xs, n, _, _, hlen, hxl, hf⟩ := DataW.trod_struct Try.underlying26 h
  have h5 : cs.length = 3 := hlen.trans (by kernel_rfl)
  have hx5 : xs.length = 3 := hxl
  match cs, h5, xs, hx5 with
  | [c0, c1, c2], _, [y0, y1, y2], _ =>
    have ki : Try.prog.cellsOf 3 = 1 := by kernel_rfl
    have ks : Try.prog.cellsOf 9 = 1 := by kernel_rfl
    have g0 : DataW.trod enc Try.prog w base spare held n 3 [c0] = some y0 := by
      have e := hf 0 _ rfl
      change DataW.trod enc Try.prog w base spare held n 3 (List.take (Try.prog.cellsOf 3) [c0, c1, c2]) = some y0 at e
      rw [ki] at e
      exact e
    have g1 : DataW.trod enc Try.prog w base spare held n 3 [c1] = some y1 := by
      have e := hf 1 _ rfl
      change DataW.trod enc Try.prog w base spare held n 3 (List.take (Try.prog.cellsOf 3) [c1, c2]) = some y1 at e
      rw [ki] at e
      exact e
    have g2 : DataW.trod enc Try.prog w base spare held n 9 [c2] = some y2 := by
      have e := hf 2 _ rfl
      change DataW.trod enc Try.prog w base spare held n 9 (List.take (Try.prog.cellsOf 9) [c2]) = some y2 at e
      rw [ks] at e
      exact e
    obtain ⟨z0, e0, _, f0⟩ := DataW.trod_int Try.underlying3 g0
    obtain ⟨z1, e1, _, f1⟩ := DataW.trod_int Try.underlying3 g1
    obtain ⟨s2, e2, _, f2⟩ := DataW.trod_string Try.underlying9 g2
    simp only [List.cons.injEq, and_true] at e0 e1 e2
    subst e0 e1 e2
    exact ⟨z0, z1, s2, rfl, f2, f0, f1⟩
set_option maxRecDepth 20000 in
set_option maxHeartbeats 1000000 in
theorem open_msg {fuel : Nat} {cs : List Value} {x : DataW H × List MemPlace} (h : DataW.trod enc Try.prog w base spare held fuel 34 cs = some x) :
    ∃ (m : Mg) (v : Mv), cs = mgC m v ∧ RdM w m v ∧ FitM m := by
  obtain ⟨xs, n, _, _, hlen, hxl, hf⟩ := DataW.trod_struct Try.underlying34 h
  have h5 : cs.length = 16 := hlen.trans (by kernel_rfl)
  have hx5 : xs.length = 8 := hxl
  match cs, h5, xs, hx5 with
  | [c0, c1, c2, c3, c4, c5, c6, c7, c8, c9, c10, c11, c12, c13, c14, c15], _, [y0, y1, y2, y3, y4, y5, y6, y7], _ =>
    have k_int : Try.prog.cellsOf 3 = 1 := by kernel_rfl
    have k_string : Try.prog.cellsOf 9 = 1 := by kernel_rfl
    have k_Slaws_Block : Try.prog.cellsOf 22 = 1 := by kernel_rfl
    have k_laws_Vote : Try.prog.cellsOf 24 = 3 := by kernel_rfl
    have k_laws_Gone : Try.prog.cellsOf 26 = 3 := by kernel_rfl
    have k_laws_Qc : Try.prog.cellsOf 29 = 3 := by kernel_rfl
    have k_laws_Tc : Try.prog.cellsOf 32 = 3 := by kernel_rfl
    have g0 : DataW.trod enc Try.prog w base spare held n 3 [c0] = some y0 := by
      have e := hf 0 _ rfl
      change DataW.trod enc Try.prog w base spare held n 3 (List.take (Try.prog.cellsOf 3) [c0, c1, c2, c3, c4, c5, c6, c7, c8, c9, c10, c11, c12, c13, c14, c15]) = some y0 at e
      rw [k_int] at e
      exact e
    have g1 : DataW.trod enc Try.prog w base spare held n 9 [c1] = some y1 := by
      have e := hf 1 _ rfl
      change DataW.trod enc Try.prog w base spare held n 9 (List.take (Try.prog.cellsOf 9) [c1, c2, c3, c4, c5, c6, c7, c8, c9, c10, c11, c12, c13, c14, c15]) = some y1 at e
      rw [k_string] at e
      exact e
    have g2 : DataW.trod enc Try.prog w base spare held n 3 [c2] = some y2 := by
      have e := hf 2 _ rfl
      change DataW.trod enc Try.prog w base spare held n 3 (List.take (Try.prog.cellsOf 3) [c2, c3, c4, c5, c6, c7, c8, c9, c10, c11, c12, c13, c14, c15]) = some y2 at e
      rw [k_int] at e
      exact e
    have g3 : DataW.trod enc Try.prog w base spare held n 22 [c3] = some y3 := by
      have e := hf 3 _ rfl
      change DataW.trod enc Try.prog w base spare held n 22 (List.take (Try.prog.cellsOf 22) [c3, c4, c5, c6, c7, c8, c9, c10, c11, c12, c13, c14, c15]) = some y3 at e
      rw [k_Slaws_Block] at e
      exact e
    have g4 : DataW.trod enc Try.prog w base spare held n 24 [c4, c5, c6] = some y4 := by
      have e := hf 4 _ rfl
      change DataW.trod enc Try.prog w base spare held n 24 (List.take (Try.prog.cellsOf 24) [c4, c5, c6, c7, c8, c9, c10, c11, c12, c13, c14, c15]) = some y4 at e
      rw [k_laws_Vote] at e
      exact e
    have g5 : DataW.trod enc Try.prog w base spare held n 26 [c7, c8, c9] = some y5 := by
      have e := hf 5 _ rfl
      change DataW.trod enc Try.prog w base spare held n 26 (List.take (Try.prog.cellsOf 26) [c7, c8, c9, c10, c11, c12, c13, c14, c15]) = some y5 at e
      rw [k_laws_Gone] at e
      exact e
    have g6 : DataW.trod enc Try.prog w base spare held n 29 [c10, c11, c12] = some y6 := by
      have e := hf 6 _ rfl
      change DataW.trod enc Try.prog w base spare held n 29 (List.take (Try.prog.cellsOf 29) [c10, c11, c12, c13, c14, c15]) = some y6 at e
      rw [k_laws_Qc] at e
      exact e
    have g7 : DataW.trod enc Try.prog w base spare held n 32 [c13, c14, c15] = some y7 := by
      have e := hf 7 _ rfl
      change DataW.trod enc Try.prog w base spare held n 32 (List.take (Try.prog.cellsOf 32) [c13, c14, c15]) = some y7 at e
      rw [k_laws_Tc] at e
      exact e
    obtain ⟨z0, e0, _, f0⟩ := DataW.trod_int Try.underlying3 g0
    obtain ⟨s1, e1, _, f1⟩ := DataW.trod_string Try.underlying9 g1
    obtain ⟨z2, e2, _, f2⟩ := DataW.trod_int Try.underlying3 g2
    obtain ⟨a3, n3, p3, rfl⟩ : ∃ a len cap, c3 = .slice a len cap := by
      rcases Deep.open_slice Try.underlying22 g3 with ⟨hcs, _⟩ | ⟨ad, len', cap', m, n, D, Pl, hcs, _⟩ <;> (simp only [List.cons.injEq, and_true] at hcs; exact ⟨_, _, _, hcs⟩)
    obtain ⟨t3, en3, ht3, hl3, hz3⟩ := open_blockS g3
    obtain ⟨r4, b4, s4, e4, hs4, f4, f4'⟩ := open_vote g4
    obtain ⟨r5, b5, s5, e5, hs5, f5, f5'⟩ := open_gone g5
    obtain ⟨r6, b6, v6, ws6, e6, hw6, hl6, hz6, f6, f6'⟩ := open_qc9 g6
    obtain ⟨r7, v7, u7, ws7, hs7, e7, hw7, hh7, hl7, hz7, hm7, f7⟩ := open_tc9 g7
    simp only [List.cons.injEq, and_true] at e0 e1 e2 e4 e5 e6 e7
    obtain ⟨e4a, e4b, e4c⟩ := e4
    obtain ⟨e5a, e5b, e5c⟩ := e5
    obtain ⟨e6a, e6b, e6c⟩ := e6
    obtain ⟨e7a, e7b, e7c⟩ := e7
    subst e0 e1 e2 e4a e4b e4c e5a e5b e5c e6a e6b e6c e7a e7b e7c
    exact ⟨⟨z0, s1, z2, t3, r4, b4, s4, r5, b5, s5, r6, b6, ws6, r7, ws7, hs7⟩, ⟨.slice a3 n3 p3, c12, c14, c15⟩, rfl, ⟨ht3, hw6, hw7, hh7⟩, ⟨hl3, hz3, hl6, hl7, hm7, hz6, hz7, f1, hs4, hs5, f0, f2, f4, f4', f5, f5', f6, f6', f7⟩⟩
end
end Go.Proofs.Ytlfoaobgdipdlaa

namespace Go.Proofs.Ytlfoaobgdipdlaa
open Go.RowKit
set_option linter.unusedVariables false

/-- The blocks of a word of this kind and epoch are right. -/
def oneB (ep : Int) (b : Bk) : Bool := decide (b.ep = ep) && blB b
def manyB (kd : Int) (n : Nat) : Bool := if kd = 1 then decide (n = 1) else if kd = 4 then decide (n ≤ 400) else decide (n = 0)
def bsB (m : Mg) : Bool := manyB m.kd m.bs.length && m.bs.all (oneB m.ep)
def z3B (r k : Int) (s : ByteArray) : Bool := decide (r = 0 ∧ k = 0 ∧ s = ⟨#[]⟩)
def vtB (m : Mg) : Bool := if m.kd = 2 then inB m.vr 1 10000 && (inB m.vb 0 100000 && nmB m.vw) else z3B m.vr m.vb m.vw
def gnB (m : Mg) : Bool := if m.kd = 3 then inB m.gr 1 10000 && (inB m.gh 0 (m.gr - 1) && (decide (m.gh = m.qr) && nmB m.gw)) else z3B m.gr m.gh m.gw
def qcW (qr qb : Int) (qw : List ByteArray) : Bool := rootB qr qb qw || (inB qr 1 10000 && (inB qb 0 100000 && nmsB qw))
def tcW (tr : Int) (tw : List ByteArray) (th : List Int) : Bool := noneB tr tw th || (inB tr 1 10000 && (nmsB tw && (decide (th.length = tw.length) && hisB tr th)))
def qM (m : Mg) : Bool := if m.kd = 3 ∨ m.kd = 4 then qcW m.qr m.qb m.qw else rootB m.qr m.qb m.qw
def tM (m : Mg) : Bool := if m.kd = 4 then tcW m.tr m.tw m.th else noneB m.tr m.tw m.th
/-- Whether a word is right. -/
def msgB (m : Mg) : Bool := inB m.kd 1 4 && (nmB m.tn && (inB m.ep 0 900 && (bsB m && (vtB m && (gnB m && (qM m && tM m))))))
theorem toList_nil {s : ByteArray} (h : s.toList = []) : s = ⟨#[]⟩ := by
  rw [ByteArray.toList_eq] at h
  exact ByteArray.ext (Array.toList_inj.1 h)
theorem all_no {ep : Int} {l : List Bk} {i : Nat} (hi : i < l.length) (h : oneB ep l[i] = false) : l.all (oneB ep) = false := by
  rw [List.all_eq_false]
  exact ⟨l[i], List.getElem_mem hi, by rw [h]; simp⟩
theorem all_yes {ep : Int} {l : List Bk} (h : ∀ i (hi : i < l.length), oneB ep l[i] = true) : l.all (oneB ep) = true := by
  rw [List.all_eq_true]
  intro x hx
  obtain ⟨i, hi, rfl⟩ := List.getElem_of_mem hx
  exact h i hi
end Go.Proofs.Ytlfoaobgdipdlaa
