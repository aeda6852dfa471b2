/- Blocks: a datum, its value, what reads as it, and which blocks are right. Blocks made anew by the laws. The laws' marks on texts are found again. Orders marked, with what they are then, and held against their marks. The laws' marks on those who vote, and marks found again. Blocks marked. -/
import Derived.Test.YtmjnkcggomnnjaaZaTxRow
import Derived.Test.YtmjnkcggomnnjaaZaVsOk
import Derived.Test.YtmjnkcggomnnjaaZaCtVal
import Derived.Deep.RegionWith
import Derived.Lib.QuietBelow
import Derived.BigQuiet
import Derived.Test.YtmjnkcggomnnjaaZaVsStep
namespace Go.Proofs.Ytmjnkcggomnnjaa
open Go.RowKit
set_option linter.unusedVariables false

/-- A block: its number, epoch and round, who made it; the certificate's round, block and names; what was left out: its round, names, Highs; the orders; whether it ends the epoch, who votes next, the root. -/
structure Bk where
  id : Int
  ep : Int
  rd : Int
  md : ByteArray
  qr : Int
  qb : Int
  qw : List ByteArray
  tr : Int
  tw : List ByteArray
  th : List Int
  ts : List Tx5
  en : Bool
  nx : List Vl
  rt : ByteArray
/-- A block's lists, as values. -/
structure Bv where
  q : Value
  w : Value
  h : Value
  t : Value
  n : Value
def bkC (b : Bk) (v : Bv) : List Value := [.int .i64 b.id, .int .i64 b.ep, .int .i64 b.rd, .string b.md, .int .i64 b.qr, .int .i64 b.qb, v.q, .int .i64 b.tr, v.w, v.h, v.t, .bool b.en, v.n, .string b.rt]
def bkV (b : Bk) (v : Bv) : Value := .agg #[.int .i64 b.id, .int .i64 b.ep, .int .i64 b.rd, .string b.md, .int .i64 b.qr, .int .i64 b.qb, v.q, .int .i64 b.tr, v.w, v.h, v.t, .bool b.en, v.n, .string b.rt]
/-- The lists read as the block's. -/
structure RdK (w : World) (b : Bk) (v : Bv) : Prop where
  q : RdS w v.q b.qw
  p : RdS w v.w b.tw
  h : RdI w v.h b.th
  t : RdT w v.t b.ts
  n : RdV w v.n b.nx
theorem RdK.below {B : Nat} {w w' : World} {b : Bk} {v : Bv} (h : RdK w b v) (hb : Below B w w') (hB : w.heap.size ≤ B) : RdK w' b v :=
  ⟨h.q.below hb hB, h.p.below hb hB, h.h.below hb hB, h.t.below hb hB, h.n.below hb hB⟩
/-- The lists are no longer than what the laws ask of. -/
structure FewK (b : Bk) : Prop where
  q : b.qw.length ≤ 4000000
  w : b.tw.length ≤ 4000000
  h : b.th.length ≤ 4000000
  t : b.ts.length ≤ 4000000
  n : b.nx.length ≤ 4000000
  qs : ∀ s ∈ b.qw, s.size ≤ maxLen
  ws : ∀ s ∈ b.tw, s.size ≤ maxLen
  ts : ∀ t ∈ b.ts, t.2.1.size ≤ maxLen ∧ t.2.2.1.size ≤ maxLen
  ns : ∀ p ∈ b.nx, p.1.size ≤ maxLen
  ms : b.md.size ≤ maxLen
  rs : b.rt.size ≤ maxLen
def q9B (b : Bk) : Bool := rootB b.qr b.qb b.qw || (inB b.qr 1 (wrap64 (b.rd - 1)) && (inB b.qb 0 (wrap64 (b.id - 1)) && nmsB b.qw))
def t9B (b : Bk) : Bool := noneB b.tr b.tw b.th || (inB b.tr 1 (wrap64 (b.rd - 1)) && (nmsB b.tw && (decide (b.th.length = b.tw.length) && hisB b.tr b.th)))
def e9B (b : Bk) : Bool := if b.en = true then setB b.nx && decide (b.rt.size = 32) else decide (b.nx.length = 0) && decide (b.rt = ⟨#[]⟩)
/-- Whether a block is right. -/
def blB (b : Bk) : Bool := inB b.id 0 100000 && (inB b.ep 0 900 && (inB b.rd 1 10000 && (nmB b.md && (q9B b && (t9B b && (decide (b.ts.length ≤ 4) && (b.ts.all txB && e9B b)))))))
end Go.Proofs.Ytmjnkcggomnnjaa

namespace Go.Proofs.Ytmjnkcggomnnjaa
open Go.RowKit
set_option linter.unusedVariables false

theorem OwnT.olderC {base : Nat} {w : World} {v : Value} {l : List Tx5} (h : OwnT base w v l) {g : Nat} (hg : g < base) (j : Nat) (u : Value) : OwnT base (w.setCell ⟨g, j, none⟩ u) v l :=
  World.ownsRow.kept h (grown_set w g j u) (.inr fun e => by have := (h.lt g e).1; omega)
theorem OwnV.olderC {base : Nat} {w : World} {v : Value} {l : List Vl} (h : OwnV base w v l) {g : Nat} (hg : g < base) (j : Nat) (u : Value) : OwnV base (w.setCell ⟨g, j, none⟩ u) v l :=
  World.ownsRow.kept h (grown_set w g j u) (.inr fun e => by have := h.ge g e; omega)
theorem OwnT.mono {base base' : Nat} {w : World} {v : Value} {l : List Tx5} (h : OwnT base w v l) (hB : base' ≤ base) : OwnT base' w v l := by
  refine ⟨h.1, ?_⟩
  rcases h.2 with h2 | ⟨g, cap, cur, e, hb, r⟩
  · exact .inl h2
  · exact .inr ⟨g, cap, cur, e, Nat.le_trans hB hb, r⟩
theorem OwnS.put14 {base : Nat} {w : World} {v : Value} {l : List ByteArray} (h : OwnS base w v l) {g : Nat} (hg : g < base) (y0 y1 y2 y3 y4 y5 y6 y7 y8 y9 y10 y11 y12 y13 : Value) : OwnS base (((((((((((((((w).setCell ⟨g, 0, none⟩ (y0)).setCell ⟨g, 1, none⟩ (y1)).setCell ⟨g, 2, none⟩ (y2)).setCell ⟨g, 3, none⟩ (y3)).setCell ⟨g, 4, none⟩ (y4)).setCell ⟨g, 5, none⟩ (y5)).setCell ⟨g, 6, none⟩ (y6)).setCell ⟨g, 7, none⟩ (y7)).setCell ⟨g, 8, none⟩ (y8)).setCell ⟨g, 9, none⟩ (y9)).setCell ⟨g, 10, none⟩ (y10)).setCell ⟨g, 11, none⟩ (y11)).setCell ⟨g, 12, none⟩ (y12)).setCell ⟨g, 13, none⟩ (y13)) v l := (((((((((((((h.olderC hg 0 y0).olderC hg 1 y1).olderC hg 2 y2).olderC hg 3 y3).olderC hg 4 y4).olderC hg 5 y5).olderC hg 6 y6).olderC hg 7 y7).olderC hg 8 y8).olderC hg 9 y9).olderC hg 10 y10).olderC hg 11 y11).olderC hg 12 y12).olderC hg 13 y13
theorem OwnI.put14 {base : Nat} {w : World} {v : Value} {l : List Int} (h : OwnI base w v l) {g : Nat} (hg : g < base) (y0 y1 y2 y3 y4 y5 y6 y7 y8 y9 y10 y11 y12 y13 : Value) : OwnI base (((((((((((((((w).setCell ⟨g, 0, none⟩ (y0)).setCell ⟨g, 1, none⟩ (y1)).setCell ⟨g, 2, none⟩ (y2)).setCell ⟨g, 3, none⟩ (y3)).setCell ⟨g, 4, none⟩ (y4)).setCell ⟨g, 5, none⟩ (y5)).setCell ⟨g, 6, none⟩ (y6)).setCell ⟨g, 7, none⟩ (y7)).setCell ⟨g, 8, none⟩ (y8)).setCell ⟨g, 9, none⟩ (y9)).setCell ⟨g, 10, none⟩ (y10)).setCell ⟨g, 11, none⟩ (y11)).setCell ⟨g, 12, none⟩ (y12)).setCell ⟨g, 13, none⟩ (y13)) v l := (((((((((((((h.olderC hg 0 y0).olderC hg 1 y1).olderC hg 2 y2).olderC hg 3 y3).olderC hg 4 y4).olderC hg 5 y5).olderC hg 6 y6).olderC hg 7 y7).olderC hg 8 y8).olderC hg 9 y9).olderC hg 10 y10).olderC hg 11 y11).olderC hg 12 y12).olderC hg 13 y13
theorem OwnT.put14 {base : Nat} {w : World} {v : Value} {l : List Tx5} (h : OwnT base w v l) {g : Nat} (hg : g < base) (y0 y1 y2 y3 y4 y5 y6 y7 y8 y9 y10 y11 y12 y13 : Value) : OwnT base (((((((((((((((w).setCell ⟨g, 0, none⟩ (y0)).setCell ⟨g, 1, none⟩ (y1)).setCell ⟨g, 2, none⟩ (y2)).setCell ⟨g, 3, none⟩ (y3)).setCell ⟨g, 4, none⟩ (y4)).setCell ⟨g, 5, none⟩ (y5)).setCell ⟨g, 6, none⟩ (y6)).setCell ⟨g, 7, none⟩ (y7)).setCell ⟨g, 8, none⟩ (y8)).setCell ⟨g, 9, none⟩ (y9)).setCell ⟨g, 10, none⟩ (y10)).setCell ⟨g, 11, none⟩ (y11)).setCell ⟨g, 12, none⟩ (y12)).setCell ⟨g, 13, none⟩ (y13)) v l := (((((((((((((h.olderC hg 0 y0).olderC hg 1 y1).olderC hg 2 y2).olderC hg 3 y3).olderC hg 4 y4).olderC hg 5 y5).olderC hg 6 y6).olderC hg 7 y7).olderC hg 8 y8).olderC hg 9 y9).olderC hg 10 y10).olderC hg 11 y11).olderC hg 12 y12).olderC hg 13 y13
theorem OwnV.put14 {base : Nat} {w : World} {v : Value} {l : List Vl} (h : OwnV base w v l) {g : Nat} (hg : g < base) (y0 y1 y2 y3 y4 y5 y6 y7 y8 y9 y10 y11 y12 y13 : Value) : OwnV base (((((((((((((((w).setCell ⟨g, 0, none⟩ (y0)).setCell ⟨g, 1, none⟩ (y1)).setCell ⟨g, 2, none⟩ (y2)).setCell ⟨g, 3, none⟩ (y3)).setCell ⟨g, 4, none⟩ (y4)).setCell ⟨g, 5, none⟩ (y5)).setCell ⟨g, 6, none⟩ (y6)).setCell ⟨g, 7, none⟩ (y7)).setCell ⟨g, 8, none⟩ (y8)).setCell ⟨g, 9, none⟩ (y9)).setCell ⟨g, 10, none⟩ (y10)).setCell ⟨g, 11, none⟩ (y11)).setCell ⟨g, 12, none⟩ (y12)).setCell ⟨g, 13, none⟩ (y13)) v l := (((((((((((((h.olderC hg 0 y0).olderC hg 1 y1).olderC hg 2 y2).olderC hg 3 y3).olderC hg 4 y4).olderC hg 5 y5).olderC hg 6 y6).olderC hg 7 y7).olderC hg 8 y8).olderC hg 9 y9).olderC hg 10 y10).olderC hg 11 y11).olderC hg 12 y12).olderC hg 13 y13
theorem below_put14 (W : World) (g : Nat) (y0 y1 y2 y3 y4 y5 y6 y7 y8 y9 y10 y11 y12 y13 : Value) : Below g W (((((((((((((((W).setCell ⟨g, 0, none⟩ (y0)).setCell ⟨g, 1, none⟩ (y1)).setCell ⟨g, 2, none⟩ (y2)).setCell ⟨g, 3, none⟩ (y3)).setCell ⟨g, 4, none⟩ (y4)).setCell ⟨g, 5, none⟩ (y5)).setCell ⟨g, 6, none⟩ (y6)).setCell ⟨g, 7, none⟩ (y7)).setCell ⟨g, 8, none⟩ (y8)).setCell ⟨g, 9, none⟩ (y9)).setCell ⟨g, 10, none⟩ (y10)).setCell ⟨g, 11, none⟩ (y11)).setCell ⟨g, 12, none⟩ (y12)).setCell ⟨g, 13, none⟩ (y13)) := ((((((((((((((Below.refl _ W).setCell (p := ⟨g, 0, none⟩) (Nat.le_refl _) y0).setCell (p := ⟨g, 1, none⟩) (Nat.le_refl _) y1).setCell (p := ⟨g, 2, none⟩) (Nat.le_refl _) y2).setCell (p := ⟨g, 3, none⟩) (Nat.le_refl _) y3).setCell (p := ⟨g, 4, none⟩) (Nat.le_refl _) y4).setCell (p := ⟨g, 5, none⟩) (Nat.le_refl _) y5).setCell (p := ⟨g, 6, none⟩) (Nat.le_refl _) y6).setCell (p := ⟨g, 7, none⟩) (Nat.le_refl _) y7).setCell (p := ⟨g, 8, none⟩) (Nat.le_refl _) y8).setCell (p := ⟨g, 9, none⟩) (Nat.le_refl _) y9).setCell (p := ⟨g, 10, none⟩) (Nat.le_refl _) y10).setCell (p := ⟨g, 11, none⟩) (Nat.le_refl _) y11).setCell (p := ⟨g, 12, none⟩) (Nat.le_refl _) y12).setCell (p := ⟨g, 13, none⟩) (Nat.le_refl _) y13
/-- The lists are the call's own from block 'base' on, and read as the block's. -/
structure OwnK (base : Nat) (w : World) (b : Bk) (v : Bv) : Prop where
  q : OwnS base w v.q b.qw
  p : OwnS base w v.w b.tw
  h : OwnI base w v.h b.th
  t : OwnT base w v.t b.ts
  n : OwnV base w v.n b.nx
theorem OwnK.rd {base : Nat} {w : World} {b : Bk} {v : Bv} (h : OwnK base w b v) : RdK w b v := ⟨h.q.rd, h.p.rd, h.h.rd, h.t.rd, h.n.rd⟩
end Go.Proofs.Ytmjnkcggomnnjaa

namespace Go.Proofs.Ytmjnkcggomnnjaa
open Go.RowKit
set_option linter.unusedVariables false

end Go.Proofs.Ytmjnkcggomnnjaa

namespace Go.Proofs.Ytmjnkcggomnnjaa
open Go.RowKit Go.Sort
set_option linter.unusedVariables false

/-- Blocks outside of S are as they were. -/
structure Oth (S : Nat → Prop) (w w' : World) : Prop where
  os : w'.os = w.os
  tape : w'.tape = w.tape
  output : w'.output = w.output
  size : w.heap.size ≤ w'.heap.size
  block : ∀ k, k < w.heap.size → ¬ S k → w'.heap[k]? = w.heap[k]?
theorem Oth.of_below {S : Nat → Prop} {w w' : World} (h : Below w.heap.size w w') : Oth S w w' := ⟨h.os, h.tape, h.output, h.size, fun k hk _ => h.block k hk⟩
theorem Oth.trans {S : Nat → Prop} {a b c : World} (h : Oth S a b) (k : Oth S b c) : Oth S a c :=
  ⟨k.os.trans h.os, k.tape.trans h.tape, k.output.trans h.output, Nat.le_trans h.size k.size, fun i hi ho => (k.block i (Nat.lt_of_lt_of_le hi h.size) ho).trans (h.block i hi ho)⟩
theorem Oth.mono {S T : Nat → Prop} {a b : World} (h : Oth S a b) (hs : ∀ k, S k → T k) : Oth T a b := ⟨h.os, h.tape, h.output, h.size, fun k hk hn => h.block k hk (fun e => hn (hs k e))⟩
theorem Oth.of_grown {S : Nat → Prop} {w w' : World} {row : Option Nat} (h : w.grownBy w' row) (hr : ∀ k, row = some k → S k) : Oth S w w' :=
  ⟨h.os, h.tape, h.output, h.size, fun k hk ho => h.block k hk (fun e => ho (hr k e.symm))⟩
theorem Oth.refl (S : Nat → Prop) (w : World) : Oth S w w := ⟨rfl, rfl, rfl, Nat.le_refl _, fun _ _ _ => rfl⟩
theorem Oth.set {S : Nat → Prop} {w w' : World} (h : Oth S w w') {g : Nat} (h1 : S g) (j : Nat) (u : Value) : Oth S w (w'.setCell ⟨g, j, none⟩ u) :=
  h.trans (Oth.of_grown (grown_set w' g j u) (fun k e => by cases e; exact h1))
theorem Oth.below {S : Nat → Prop} {B : Nat} {w w' : World} (h : Oth S w w') (hB : ∀ k, S k → B ≤ k) (hs : B ≤ w.heap.size) : Below B w w' :=
  ⟨h.os, h.tape, h.output, h.size, fun k hk => h.block k (by omega) (fun e => by have := hB k e; omega)⟩
theorem row_oth {S : Nat → Prop} {base : Nat} {w w' : World} {e : TypeId} {size : Nat} {v : Value} {n : Nat} {xs : List Value} (h : w.ownsRow base e size v n xs) (hb : Oth S w w') (hn : ∀ k, v.ownBlock = some k → ¬ S k) : w'.ownsRow base e size v n xs := by
  refine ⟨h.1, ?_⟩
  rcases h.2 with h' | ⟨g, cap, cur, hv, hbb, hg, r⟩
  · exact .inl h'
  · refine .inr ⟨g, cap, cur, hv, hbb, ?_, r⟩
    have hlt : g < w.heap.size := (Array.getElem?_eq_some_iff.1 hg).1
    rw [hb.block g hlt (hn g (by rw [hv]; rfl))]
    exact hg
theorem row_step9 {base g n cap : Nat} {w : World} {T : TypeId} {Y : List Value} (h : w.ownsRow base T 5 (.slice (some ⟨g, 0, none⟩) n cap) n Y) (hY : Y.length = 5 * n) (i : Nat) (hi : i < 5 * n) :
    (∃ y, w.cell? ⟨g, i, none⟩ = some y) ∧ w.frozen? ⟨g, i, none⟩ = false ∧ ∀ u, (w.setCell ⟨g, i, none⟩ u).ownsRow base T 5 (.slice (some ⟨g, 0, none⟩) n cap) n (Y.set i u) :=
  ⟨⟨Y[i]'(by omega), by rw [h.cellAt i (by omega)]; exact List.getElem?_eq_getElem (by omega)⟩, h.frozenAt i, fun u => (h.stored i u).1⟩
/-- Marked orders: n of them, the marks beginning with k. -/
def mkT (k n : Nat) : List Tx5 := (List.range n).map (fun j => (((k + 5 * j : Nat) : Int), mtx (k + 5 * j + 1), mtx (k + 5 * j + 2), ((k + 5 * j + 3 : Nat) : Int), ((k + 5 * j + 4 : Nat) : Int)))
theorem mkT_len (k n : Nat) : (mkT k n).length = n := by simp [mkT]
theorem mkT_at (k n j : Nat) (h : j < (mkT k n).length) : (mkT k n)[j] = (((k + 5 * j : Nat) : Int), mtx (k + 5 * j + 1), mtx (k + 5 * j + 2), ((k + 5 * j + 3 : Nat) : Int), ((k + 5 * j + 4 : Nat) : Int)) := by simp [mkT]
theorem mixT {M l : List Tx5} {j : Nat} (hl : M.length = l.length) (hj : j < l.length) : ((M.take j ++ l.drop j).map txC).set j (txC (M[j]'(by omega))) = (M.take (j + 1) ++ l.drop (j + 1)).map txC := by
  rw [List.take_succ_eq_append_getElem (by omega), ← List.map_set]
  congr 1
  rw [List.set_append_right _ _ (by simp; omega), List.length_take, show min j M.length = j from by omega, Nat.sub_self, List.drop_eq_getElem_cons hj, List.set_cons_zero, List.append_assoc]
  rfl
theorem mixT_sz (M l : List Tx5) (j : Nat) : ∀ x ∈ (M.take j ++ l.drop j).map txC, x.length = 5 := fun x hx => by obtain ⟨p, _, rfl⟩ := List.mem_map.1 hx; rfl
end Go.Proofs.Ytmjnkcggomnnjaa

namespace Go.Proofs.Ytmjnkcggomnnjaa
open Go.RowKit
set_option linter.unusedVariables false

def mkV (k n : Nat) : List Vl := (List.range n).map (fun i => (mtx (k + 2 * i), ((k + 2 * i + 1 : Nat) : Int)))
theorem mkV_len (k n : Nat) : (mkV k n).length = n := by simp [mkV]
theorem mkV_at (k n j : Nat) (h : j < (mkV k n).length) : (mkV k n)[j] = (mtx (k + 2 * j), ((k + 2 * j + 1 : Nat) : Int)) := by simp [mkV]
theorem gen_setV {α β : Type} (M l : List α) (f : α → β) (j : Nat) (hM : M.length = l.length) (hj : j < M.length) : ((M.take j ++ l.drop j).map f).set j (f M[j]) = (M.take (j + 1) ++ l.drop (j + 1)).map f := by
  have e1 : ((M.take j).map f).length = j := by simp; omega
  rw [List.map_append, List.set_append_right _ _ (by omega), e1, Nat.sub_self, List.drop_eq_getElem_cons (show j < l.length by omega), List.map_cons, List.set_cons_zero, List.take_succ_eq_append_getElem hj, List.map_append, List.map_append, List.append_assoc]
  rfl
end Go.Proofs.Ytmjnkcggomnnjaa

namespace Go.Proofs.Ytmjnkcggomnnjaa
open Go.RowKit
set_option linter.unusedVariables false

def mkI (k n : Nat) : List Int := (List.range n).map (fun j => ((k + j : Nat) : Int))
theorem mkI_len (k n : Nat) : (mkI k n).length = n := by simp [mkI]
theorem mkI_at (k n j : Nat) (h : j < (mkI k n).length) : (mkI k n)[j] = ((k + j : Nat) : Int) := by simp [mkI]
end Go.Proofs.Ytmjnkcggomnnjaa
