/- Orders in memory: what a slice of them reads as, what a call owns of them, how they are made anew, held against each other, their size, their marks. Blocks: a datum, its value, what reads as it, and which blocks are right. The model's blocks that are right. The model's BlockOk. Blocks made anew by the laws. -/
import Derived.Test.YtkjlmnhdmlolmaaGreatDoorJoin3
import Derived.Test.YtkjlmnhdmlolmaaGreatDoorJoin2
import Derived.Test.YtkjlmnhdmlolmaaGreatDoorMarkStr
import Derived.Deep.RegionHeldLaw
import Derived.Deep.RegionLaw
import Derived.Test.YtkjlmnhdmlolmaaGreatDoorAcMark
import Derived.Test.YtkjlmnhdmlolmaaGreatDoorCtTc
import Derived.Test.YtkjlmnhdmlolmaaGreatDoorVsOk
import Derived.Lib.QuietBelow
import Derived.BigQuiet
namespace Go.Proofs.YtkjlmnhdmlolmaaGreatDoor
open Go.RowKit
set_option linter.unusedVariables false

/-- The order t lies in block b from place o on. -/
structure TxAt (w : World) (b o : Nat) (t : Tx5) : Prop where
  c0 : w.cell? ⟨b, o, none⟩ = some (.int .i64 t.1)
  c1 : w.cell? ⟨b, o + 1, none⟩ = some (.string t.2.1)
  c2 : w.cell? ⟨b, o + 2, none⟩ = some (.string t.2.2.1)
  c3 : w.cell? ⟨b, o + 3, none⟩ = some (.int .i64 t.2.2.2.1)
  c4 : w.cell? ⟨b, o + 4, none⟩ = some (.int .i64 t.2.2.2.2)
theorem TxAt.below {w w' : World} {B b o : Nat} {t : Tx5} (h : TxAt w b o t) (hb : Below B w w') (hB : b < B) : TxAt w' b o t :=
  ⟨(hb.cell (p := ⟨b, o, none⟩) hB).trans h.c0, (hb.cell (p := ⟨b, o + 1, none⟩) hB).trans h.c1, (hb.cell (p := ⟨b, o + 2, none⟩) hB).trans h.c2, (hb.cell (p := ⟨b, o + 3, none⟩) hB).trans h.c3, (hb.cell (p := ⟨b, o + 4, none⟩) hB).trans h.c4⟩
/-- The slice v reads as the orders l. -/
def RdT (w : World) (v : Value) (l : List Tx5) : Prop :=
  (∃ a cap, v = .slice a 0 cap ∧ l = [] ∧ (a = none → cap = 0)) ∨
  ∃ b off cap, l ≠ [] ∧ v = .slice (some ⟨b, off, none⟩) l.length cap ∧ l.length ≤ cap ∧ cap ≤ maxLen ∧ b < w.heap.size ∧ ∀ i (h : i < l.length), TxAt w b (off + i * 5) l[i]
theorem RdT.shape {w : World} {v : Value} {l : List Tx5} (h : RdT w v l) : ∃ a cap, v = .slice a l.length cap := by
  rcases h with ⟨a, cap, rfl, rfl, -⟩ | ⟨b, off, cap, h0, rfl, _⟩
  · exact ⟨a, cap, rfl⟩
  · exact ⟨_, cap, rfl⟩
theorem RdT.below {B : Nat} {w w' : World} {v : Value} {l : List Tx5} (h : RdT w v l) (hb : Below B w w') (hB : w.heap.size ≤ B) : RdT w' v l := by
  rcases h with h | ⟨b, off, cap, h0, hv, h1, h2, h3, h4⟩
  · exact .inl h
  · exact .inr ⟨b, off, cap, h0, hv, h1, h2, by have := hb.size; omega, fun i hi => (h4 i hi).below hb (by omega)⟩
def txC (t : Tx5) : List Value := [.int .i64 t.1, .string t.2.1, .string t.2.2.1, .int .i64 t.2.2.2.1, .int .i64 t.2.2.2.2]
def txZ : List Value := [.int .i64 0, .string { data := #[] }, .string { data := #[] }, .int .i64 0, .int .i64 0]
theorem txM_sz (l : List Tx5) : ∀ x ∈ l.map txC, x.length = 5 := fun x hx => by obtain ⟨p, _, rfl⟩ := List.mem_map.1 hx; rfl
theorem txP_sz (l : List Tx5) (k : Nat) : ∀ x ∈ part txC txZ l k, x.length = 5 := part_sz 5 _ _ _ _ (fun _ => rfl) rfl
/-- The slice v, of the call's own from block 'base' on, reads as the orders l. -/
def OwnT (base : Nat) (w : World) (v : Value) (l : List Tx5) : Prop := w.ownsRow base 35 5 v l.length (l.map txC).flatten
theorem OwnT.rd {base : Nat} {w : World} {v : Value} {l : List Tx5} (h : OwnT base w v l) : RdT w v l := by
  rcases h.2 with ⟨rfl, hn⟩ | ⟨g, cap, cur, rfl, hb, hg, hnc, hcm, hcs, ht⟩
  · have : l = [] := List.length_eq_zero_iff.1 hn
    subst this
    exact .inl ⟨_, _, rfl, rfl, fun _ => rfl⟩
  · by_cases hn : l = []
    · subst hn; exact .inl ⟨_, _, rfl, rfl, fun h => by cases h⟩
    · refine .inr ⟨g, 0, cap, hn, rfl, hnc, hcm, (Array.getElem?_eq_some_iff.1 hg).1, fun i hi => ?_⟩
      have cell : ∀ j, j < 5 → w.cell? ⟨g, 0 + i * 5 + j, none⟩ = (txC l[i])[j]? := fun j hj => by
        rw [Nat.zero_add, World.ownsRow.cellAt h (i * 5 + j) (by omega), flat_get 5 (l.map txC) i j (by simpa using hi) (txM_sz l) hj]
        simp
      exact ⟨by have := cell 0 (by omega); simpa [txC] using this, by have := cell 1 (by omega); simpa [txC] using this, by have := cell 2 (by omega); simpa [txC] using this, by have := cell 3 (by omega); simpa [txC] using this, by have := cell 4 (by omega); simpa [txC] using this⟩
theorem OwnT.below {B base : Nat} {w w' : World} {v : Value} {l : List Tx5} (h : OwnT base w v l) (hb : Below B w w') (hB : w.heap.size ≤ B) : OwnT base w' v l := row_below h hb hB
theorem OwnT.lt {base : Nat} {w : World} {v : Value} {l : List Tx5} (h : OwnT base w v l) : ∀ k, v.ownBlock = some k → base ≤ k ∧ k < w.heap.size := fun k hk => World.ownsRow.lt h k hk
theorem Tryz.infoTx : (Tryz.prog.info? 35).map (fun i => (i.zero, i.size, i.bytes)) = some (some (.agg #[.int .i64 0, .string { data := #[] }, .string { data := #[] }, .int .i64 0, .int .i64 0]), 5, 56) := by kernel_rfl

set_option maxRecDepth 20000 in
set_option maxHeartbeats 2000000 in
theorem eqTxS_any (v1 v2 : Value) (l1 l2 : List Tx5) (w : World) (hr1 : RdT w v1 l1) (hr2 : RdT w v2 l2) (hl1 : l1.length ≤ 4000000) (hl2 : l2.length ≤ 4000000) (he : l1 = l2) :
    Calls Tryz.prog 79 #[v1, v2] w fun e w' => e = .returned (.bool true) ∧ Below w.heap.size w w' := by
  subst he
  rcases hr1 with ⟨a, cap, rfl, rfl, -⟩ | ⟨b, off, cap, h0, rfl, h1, h2, h3, h4⟩
  · obtain ⟨a2, cap2, rfl⟩ := hr2.shape
    clear hr2
    go_enter Tryz.func79, Tryz.ntmps79
    go_wp2
    refine wp_loop_rounds 1 ?_
    rw [rounds_succ]
    go_wp2
    go_ret
    exact ⟨rfl, Below.refl _ _⟩
  · rcases hr2 with ⟨a2, cap2, rfl, rfl, -⟩ | ⟨b2, off2, cap2, g0, rfl, g1, g2, g3, g4⟩
    · exact absurd rfl h0
    · have H4 := hide h4
      have G4 := hide g4
      clear h4 g4
      go_enter Tryz.func79, Tryz.ntmps79
      go_wp2
      go_loopw [5] (fun i wr => ∃ k : Nat, k ≤ l1.length ∧ i = .int .i64 k ∧ Below w.heap.size w wr) (fun i _ => l1.length - (intOf i).toNat)
      case atStart => exact ⟨0, Nat.zero_le _, rfl, Below.refl _ _⟩
      case round =>
        obtain ⟨k, hk, rfl, hs⟩ := hrel
        by_cases hlt : k < l1.length
        · obtain ⟨c0, c1, c2, c3, c4⟩ := (H4.out k hlt).below hs.drew h3
          obtain ⟨d0, d1, d2, d3, d4⟩ := (G4.out k hlt).below hs.drew g3
          have hli : (k : Int) < (l1.length : Int) := by omega
          have HE := hide (eqTx_any l1[k] l1[k] wr.drew)
          rw [decide_eq_true rfl] at HE
          generalize l1[k] = p at c0 c1 c2 c3 c4 d0 d1 d2 d3 d4 HE
          obtain ⟨kd, fr, to, am, no⟩ := p
          simp only [txV] at c0 c1 c2 c3 c4 d0 d1 d2 d3 d4 HE
          have hS1 : wr.drew.cell? ⟨b, off + k * 5, none⟩ = some (.int .i64 kd) ∧ wr.drew.cell? ⟨b, off + k * 5 + 1, none⟩ = some (.string fr) ∧ wr.drew.cell? ⟨b, off + k * 5 + 2, none⟩ = some (.string to) ∧ wr.drew.cell? ⟨b, off + k * 5 + 3, none⟩ = some (.int .i64 am) ∧ wr.drew.cell? ⟨b, off + k * 5 + 4, none⟩ = some (.int .i64 no) ∧ wr.drew.cell? ⟨b2, off2 + k * 5, none⟩ = some (.int .i64 kd) ∧ wr.drew.cell? ⟨b2, off2 + k * 5 + 1, none⟩ = some (.string fr) ∧ wr.drew.cell? ⟨b2, off2 + k * 5 + 2, none⟩ = some (.string to) ∧ wr.drew.cell? ⟨b2, off2 + k * 5 + 3, none⟩ = some (.int .i64 am) ∧ wr.drew.cell? ⟨b2, off2 + k * 5 + 4, none⟩ = some (.int .i64 no) := ⟨c0, c1, c2, c3, c4, d0, d1, d2, d3, d4⟩
          clear c0 c1 c2 c3 c4 d0 d1 d2 d3 d4
          go_wp2
          go_region_held_law (fun w' => w'.cell? ⟨b, off + k * 5, none⟩ = some (.int .i64 kd) ∧ w'.cell? ⟨b, off + k * 5 + 1, none⟩ = some (.string fr) ∧ w'.cell? ⟨b, off + k * 5 + 2, none⟩ = some (.string to) ∧ w'.cell? ⟨b, off + k * 5 + 3, none⟩ = some (.int .i64 am) ∧ w'.cell? ⟨b, off + k * 5 + 4, none⟩ = some (.int .i64 no) ∧ w'.cell? ⟨b2, off2 + k * 5, none⟩ = some (.int .i64 kd) ∧ w'.cell? ⟨b2, off2 + k * 5 + 1, none⟩ = some (.string fr) ∧ w'.cell? ⟨b2, off2 + k * 5 + 2, none⟩ = some (.string to) ∧ w'.cell? ⟨b2, off2 + k * 5 + 3, none⟩ = some (.int .i64 am) ∧ w'.cell? ⟨b2, off2 + k * 5 + 4, none⟩ = some (.int .i64 no)) (first | exact hS1 | exact hS2) ((go_at_call 147; refine HE.out.mono ?_; rintro e w2 ⟨rfl, hb2⟩; have hz := hs.size; have hS2 : w2.cell? ⟨b, off + k * 5, none⟩ = some (.int .i64 kd) ∧ w2.cell? ⟨b, off + k * 5 + 1, none⟩ = some (.string fr) ∧ w2.cell? ⟨b, off + k * 5 + 2, none⟩ = some (.string to) ∧ w2.cell? ⟨b, off + k * 5 + 3, none⟩ = some (.int .i64 am) ∧ w2.cell? ⟨b, off + k * 5 + 4, none⟩ = some (.int .i64 no) ∧ w2.cell? ⟨b2, off2 + k * 5, none⟩ = some (.int .i64 kd) ∧ w2.cell? ⟨b2, off2 + k * 5 + 1, none⟩ = some (.string fr) ∧ w2.cell? ⟨b2, off2 + k * 5 + 2, none⟩ = some (.string to) ∧ w2.cell? ⟨b2, off2 + k * 5 + 3, none⟩ = some (.int .i64 am) ∧ w2.cell? ⟨b2, off2 + k * 5 + 4, none⟩ = some (.int .i64 no) := ⟨(hb2.cell (p := ⟨b, off + k * 5, none⟩) (Nat.lt_of_lt_of_le h3 hz)).trans hS1.1, (hb2.cell (p := ⟨b, off + k * 5 + 1, none⟩) (Nat.lt_of_lt_of_le h3 hz)).trans hS1.2.1, (hb2.cell (p := ⟨b, off + k * 5 + 2, none⟩) (Nat.lt_of_lt_of_le h3 hz)).trans hS1.2.2.1, (hb2.cell (p := ⟨b, off + k * 5 + 3, none⟩) (Nat.lt_of_lt_of_le h3 hz)).trans hS1.2.2.2.1, (hb2.cell (p := ⟨b, off + k * 5 + 4, none⟩) (Nat.lt_of_lt_of_le h3 hz)).trans hS1.2.2.2.2.1, (hb2.cell (p := ⟨b2, off2 + k * 5, none⟩) (Nat.lt_of_lt_of_le g3 hz)).trans hS1.2.2.2.2.2.1, (hb2.cell (p := ⟨b2, off2 + k * 5 + 1, none⟩) (Nat.lt_of_lt_of_le g3 hz)).trans hS1.2.2.2.2.2.2.1, (hb2.cell (p := ⟨b2, off2 + k * 5 + 2, none⟩) (Nat.lt_of_lt_of_le g3 hz)).trans hS1.2.2.2.2.2.2.2.1, (hb2.cell (p := ⟨b2, off2 + k * 5 + 3, none⟩) (Nat.lt_of_lt_of_le g3 hz)).trans hS1.2.2.2.2.2.2.2.2.1, (hb2.cell (p := ⟨b2, off2 + k * 5 + 4, none⟩) (Nat.lt_of_lt_of_le g3 hz)).trans hS1.2.2.2.2.2.2.2.2.2⟩))
          go_wp2
          go_roundw
          case rel => exact ⟨k + 1, by omega, by go_num, hs.drew.trans (hb2.mono hs.size)⟩
          case measure => simp [intOf]; omega
        · go_wp2
          go_ret
          exact ⟨rfl, hs⟩
end Go.Proofs.YtkjlmnhdmlolmaaGreatDoor

namespace Go.Proofs.YtkjlmnhdmlolmaaGreatDoor
open Go.RowKit
set_option linter.unusedVariables false

/-- A block: its number, epoch and round, who made it; the certificate's round, block and names; what was left out: its round, names, Highs; the orders; whether it ends the epoch, who votes next, the root. -/
structure Bk where
  id : Int
  ep : Int
  rd : Int
  md : ByteArray
  qr : Int
  qb : Int
  qw : List ByteArray
  tr : Int
  tw : List ByteArray
  th : List Int
  ts : List Tx5
  en : Bool
  nx : List Vl
  rt : ByteArray
/-- A block's lists, as values. -/
structure Bv where
  q : Value
  w : Value
  h : Value
  t : Value
  n : Value
def bkC (b : Bk) (v : Bv) : List Value := [.int .i64 b.id, .int .i64 b.ep, .int .i64 b.rd, .string b.md, .int .i64 b.qr, .int .i64 b.qb, v.q, .int .i64 b.tr, v.w, v.h, v.t, .bool b.en, v.n, .string b.rt]
def bkV (b : Bk) (v : Bv) : Value := .agg #[.int .i64 b.id, .int .i64 b.ep, .int .i64 b.rd, .string b.md, .int .i64 b.qr, .int .i64 b.qb, v.q, .int .i64 b.tr, v.w, v.h, v.t, .bool b.en, v.n, .string b.rt]
/-- The lists read as the block's. -/
structure RdK (w : World) (b : Bk) (v : Bv) : Prop where
  q : RdS w v.q b.qw
  p : RdS w v.w b.tw
  h : RdI w v.h b.th
  t : RdT w v.t b.ts
  n : RdV w v.n b.nx
theorem RdK.below {B : Nat} {w w' : World} {b : Bk} {v : Bv} (h : RdK w b v) (hb : Below B w w') (hB : w.heap.size ≤ B) : RdK w' b v :=
  ⟨h.q.below hb hB, h.p.below hb hB, h.h.below hb hB, h.t.below hb hB, h.n.below hb hB⟩
/-- The lists are no longer than what the laws ask of. -/
structure FewK (b : Bk) : Prop where
  q : b.qw.length ≤ 4000000
  w : b.tw.length ≤ 4000000
  h : b.th.length ≤ 4000000
  t : b.ts.length ≤ 4000000
  n : b.nx.length ≤ 4000000
  qs : ∀ s ∈ b.qw, s.size ≤ maxLen
  ws : ∀ s ∈ b.tw, s.size ≤ maxLen
  ts : ∀ t ∈ b.ts, t.2.1.size ≤ maxLen ∧ t.2.2.1.size ≤ maxLen
  ns : ∀ p ∈ b.nx, p.1.size ≤ maxLen
  ms : b.md.size ≤ maxLen
  rs : b.rt.size ≤ maxLen
def q9B (b : Bk) : Bool := rootB b.qr b.qb b.qw || (inB b.qr 1 (wrap64 (b.rd - 1)) && (inB b.qb 0 (wrap64 (b.id - 1)) && nmsB b.qw))
def t9B (b : Bk) : Bool := noneB b.tr b.tw b.th || (inB b.tr 1 (wrap64 (b.rd - 1)) && (nmsB b.tw && (decide (b.th.length = b.tw.length) && hisB b.tr b.th)))
def e9B (b : Bk) : Bool := if b.en = true then setB b.nx && decide (b.rt.size = 32) else decide (b.nx.length = 0) && decide (b.rt = ⟨#[]⟩)
/-- Whether a block is right. -/
def blB (b : Bk) : Bool := inB b.id 0 100000 && (inB b.ep 0 900 && (inB b.rd 1 10000 && (nmB b.md && (q9B b && (t9B b && (decide (b.ts.length ≤ 4) && (b.ts.all txB && e9B b)))))))
end Go.Proofs.YtkjlmnhdmlolmaaGreatDoor

namespace Go.Proofs.YtkjlmnhdmlolmaaGreatDoor
open Go.RowKit Go.Sort
set_option linter.unusedVariables false

set_option maxRecDepth 20000 in
set_option maxHeartbeats 1000000 in
theorem specL9Qc_any (b : Bk) (v : Bv) (w : World) (hr : RdK w b v) (hf : FewK b) :
    Calls Tryz.prog 50 #[bkV b v] w fun e w' => e = .returned (.bool (q9B b)) ∧ Below w.heap.size w w' := by
  have hlq := hf.q
  have hsq := hf.qs
  have HX : Hid (q9B b = (rootB b.qr b.qb b.qw || (inB b.qr 1 (wrap64 (b.rd - 1)) && (inB b.qb 0 (wrap64 (b.id - 1)) && nmsB b.qw)))) := hide rfl
  generalize q9B b = X at HX ⊢
  obtain ⟨id, ep, rd, mk, qr, qb, qw, tr, tw, th, ts, en, nx, rt⟩ := b
  obtain ⟨vq, vw, vh, vt, vn⟩ := v
  obtain ⟨hq, hw, hh, ht, hn⟩ := hr
  simp only [bkV] at *
  obtain ⟨aq, cq, rfl⟩ := hq.shape
  obtain ⟨aw, cw, rfl⟩ := hw.shape
  obtain ⟨ah, ch, rfl⟩ := hh.shape
  obtain ⟨at_, ct, rfl⟩ := ht.shape
  obtain ⟨an, cn, rfl⟩ := hn.shape
  clear hw hh ht hn hf
  obtain ⟨w1, hw1⟩ : ∃ x, w.alloc (.cells #[.int .i64 id, .int .i64 ep, .int .i64 rd, .string mk, .int .i64 qr, .int .i64 qb, .slice aq qw.length cq, .int .i64 tr, .slice aw tw.length cw, .slice ah th.length ch, .slice at_ ts.length ct, .bool en, .slice an nx.length cn, .string rt] 47) = x := ⟨_, rfl⟩
  have b1 : Below w.heap.size w w1 := by rw [← hw1]; exact (Below.refl _ w).alloc (Nat.le_refl _) _
  have k1 : Blk w1 w.heap.size 47 [.int .i64 id, .int .i64 ep, .int .i64 rd, .string mk, .int .i64 qr, .int .i64 qb, .slice aq qw.length cq, .int .i64 tr, .slice aw tw.length cw, .slice ah th.length ch, .slice at_ ts.length ct, .bool en, .slice an nx.length cn, .string rt] := by rw [← hw1]; exact Blk.new w _ _
  have s1 : w1.heap.size = w.heap.size + 1 := by rw [← hw1]; simp
  obtain ⟨w2, hw2⟩ : ∃ x, w1.alloc (.cells #[.int .i64 qr, .int .i64 qb, .slice aq qw.length cq] 41) = x := ⟨_, rfl⟩
  have b2 : Below w1.heap.size w1 w2 := by rw [← hw2]; exact (Below.refl _ w1).alloc (Nat.le_refl _) _
  have k2 : Blk w2 (w.heap.size + 1) 41 [.int .i64 qr, .int .i64 qb, .slice aq qw.length cq] := by rw [← hw2, ← s1]; exact Blk.new w1 _ _
  have hb2 : Below w.heap.size w w2 := b1.trans (b2.mono b1.size)
  have HR := hide (specL8Root_any qr qb (.slice aq qw.length cq) qw w2 (hq.below hb2 (Nat.le_refl _)) hlq)
  have HN := hide (fun V (hV : Below w.heap.size w V) => specNamesOk_any (.slice aq qw.length cq) qw V (hq.below hV (Nat.le_refl _)) hlq hsq)
  generalize rootB qr qb qw = R0 at HX HR
  generalize nmsB qw = N0 at HX HN
  have e1 : IntKind.i64.wrap (rd - 1) = wrap64 (rd - 1) := by rw [IntKind.wrap_i64]; unfold wrap64; omega
  have e2 : IntKind.i64.wrap (id - 1) = wrap64 (id - 1) := by rw [IntKind.wrap_i64]; unfold wrap64; omega
  generalize wrap64 (rd - 1) = D1 at HX e1
  generalize wrap64 (id - 1) = D2 at HX e2
  simp only [qcV] at HR
  have x4 := k1.cell 4
  have x5 := k1.cell 5
  have x6 := k1.cell 6
  have y0 := k2.cell 0
  have y1 := k2.cell 1
  have y2 := k2.cell 2
  simp only [List.getElem?_cons_zero, List.getElem?_cons_succ] at x4 x5 x6 y0 y1 y2
  have K1 := hide (k1.below b2 (by omega))
  have K2 := hide k2
  have HB2 := hide hb2
  clear hq hsq k1 k2 b1 b2 hb2
  go_enter Tryz.func50, Tryz.ntmps50
  go_wp2_with fail
  refine HR.out.mono ?_
  rintro e w3 ⟨rfl, hb3⟩
  have hB3 := HB2.out.trans (hb3.mono HB2.out.size)
  have k13 := K1.out.below hb3 K1.out.lt
  have k23 := K2.out.below hb3 K2.out.lt
  have HN3 := hide (HN.out w3 hB3)
  clear x4 x5 x6 y0 y1 y2 hw1 hw2 HN hb3
  have x0 := k13.cell 0
  have x2 := k13.cell 2
  have y0 := k23.cell 0
  have y1 := k23.cell 1
  have y2 := k23.cell 2
  simp only [List.getElem?_cons_zero, List.getElem?_cons_succ] at x0 x2 y0 y1 y2
  clear k13 k23 K1 K2 s1
  cases R0
  · rw [Bool.false_or] at HX
    cases h1 : inB qr 1 D1
    · rw [h1, Bool.false_and] at HX
      go_wp2_with (go_at_call 48; refine (l1In_any _ _ _ _).mono ?_; rintro e w4 ⟨rfl, rfl⟩)
      go_ret
      exact ⟨ret_bool HX.out.symm, hB3⟩
    · rw [h1, Bool.true_and] at HX
      cases h2 : inB qb 0 D2
      · rw [h2, Bool.false_and] at HX
        go_wp2_with (go_at_call 48; refine (l1In_any _ _ _ _).mono ?_; rintro e w4 ⟨rfl, rfl⟩)
        go_ret
        exact ⟨ret_bool HX.out.symm, hB3⟩
      · rw [h2, Bool.true_and] at HX
        go_wp2_with (first
          | (go_at_call 48; refine (l1In_any _ _ _ _).mono ?_; rintro e w4 ⟨rfl, rfl⟩)
          | (go_at_call 116; refine HN3.out.mono ?_; rintro e w5 ⟨rfl, hb5⟩))
        go_ret
        exact ⟨ret_bool HX.out.symm, hB3.trans (hb5 _)⟩
  · rw [Bool.true_or] at HX
    go_wp2
    go_ret
    exact ⟨ret_bool HX.out.symm, hB3⟩
set_option maxRecDepth 20000 in
set_option maxHeartbeats 2000000 in
theorem specL9Tc_any (b : Bk) (v : Bv) (w : World) (hr : RdK w b v) (hf : FewK b) (hbd : -9223372036854775808 ≤ b.tr ∧ b.tr ≤ 9223372036854775807) :
    Calls Tryz.prog 51 #[bkV b v] w fun e w' => e = .returned (.bool (t9B b)) ∧ Below w.heap.size w w' := by
  have hlw := hf.w
  have hlh := hf.h
  have hsw := hf.ws
  have HX : Hid (t9B b = (noneB b.tr b.tw b.th || (inB b.tr 1 (wrap64 (b.rd - 1)) && (nmsB b.tw && (decide (b.th.length = b.tw.length) && hisB b.tr b.th))))) := hide rfl
  generalize t9B b = X at HX ⊢
  obtain ⟨id, ep, rd, mk, qr, qb, qw, tr, tw, th, ts, en, nx, rt⟩ := b
  obtain ⟨vq, vw, vh, vt, vn⟩ := v
  obtain ⟨hq, hw, hh, ht, hn⟩ := hr
  simp only [bkV] at *
  obtain ⟨aq, cq, rfl⟩ := hq.shape
  obtain ⟨aw, cw, rfl⟩ := hw.shape
  obtain ⟨ah, ch, rfl⟩ := hh.shape
  obtain ⟨at_, ct, rfl⟩ := ht.shape
  obtain ⟨an, cn, rfl⟩ := hn.shape
  clear hq ht hn hf
  obtain ⟨w1, hw1⟩ : ∃ x, w.alloc (.cells #[.int .i64 id, .int .i64 ep, .int .i64 rd, .string mk, .int .i64 qr, .int .i64 qb, .slice aq qw.length cq, .int .i64 tr, .slice aw tw.length cw, .slice ah th.length ch, .slice at_ ts.length ct, .bool en, .slice an nx.length cn, .string rt] 47) = x := ⟨_, rfl⟩
  have b1 : Below w.heap.size w w1 := by rw [← hw1]; exact (Below.refl _ w).alloc (Nat.le_refl _) _
  have k1 : Blk w1 w.heap.size 47 [.int .i64 id, .int .i64 ep, .int .i64 rd, .string mk, .int .i64 qr, .int .i64 qb, .slice aq qw.length cq, .int .i64 tr, .slice aw tw.length cw, .slice ah th.length ch, .slice at_ ts.length ct, .bool en, .slice an nx.length cn, .string rt] := by rw [← hw1]; exact Blk.new w _ _
  have s1 : w1.heap.size = w.heap.size + 1 := by rw [← hw1]; simp
  obtain ⟨w2, hw2⟩ : ∃ x, w1.alloc (.cells #[.int .i64 tr, .slice aw tw.length cw, .slice ah th.length ch] 44) = x := ⟨_, rfl⟩
  have b2 : Below w1.heap.size w1 w2 := by rw [← hw2]; exact (Below.refl _ w1).alloc (Nat.le_refl _) _
  have k2 : Blk w2 (w.heap.size + 1) 44 [.int .i64 tr, .slice aw tw.length cw, .slice ah th.length ch] := by rw [← hw2, ← s1]; exact Blk.new w1 _ _
  have hb2 : Below w.heap.size w w2 := b1.trans (b2.mono b1.size)
  have HR := hide (specL8None_any tr (.slice aw tw.length cw) (.slice ah th.length ch) tw th w2 (hw.below hb2 (Nat.le_refl _)) (hh.below hb2 (Nat.le_refl _)) hlw hlh)
  have HN := hide (fun V (hV : Below w.heap.size w V) => specNamesOk_any (.slice aw tw.length cw) tw V (hw.below hV (Nat.le_refl _)) hlw hsw)
  generalize noneB tr tw th = R0 at HX HR
  generalize nmsB tw = N0 at HX HN
  have e1 : IntKind.i64.wrap (rd - 1) = wrap64 (rd - 1) := by rw [IntKind.wrap_i64]; unfold wrap64; omega
  generalize wrap64 (rd - 1) = D1 at HX e1
  simp only [tcV] at HR
  have x4 := k1.cell 7
  have x5 := k1.cell 8
  have x6 := k1.cell 9
  have y0 := k2.cell 0
  have y1 := k2.cell 1
  have y2 := k2.cell 2
  simp only [List.getElem?_cons_zero, List.getElem?_cons_succ] at x4 x5 x6 y0 y1 y2
  have K1 := hide (k1.below b2 (by omega))
  have K2 := hide k2
  have HB2 := hide hb2
  have Hh := hide hh
  clear hw hh hsw k1 k2 b1 b2 hb2
  go_enter Tryz.func51, Tryz.ntmps51
  go_wp2_with fail
  refine HR.out.mono ?_
  rintro e w3 ⟨rfl, hb3⟩
  have hB3 := HB2.out.trans (hb3.mono HB2.out.size)
  have k13 := K1.out.below hb3 K1.out.lt
  have k23 := K2.out.below hb3 K2.out.lt
  have HN3 := hide (HN.out w3 hB3)
  clear x4 x5 x6 y0 y1 y2 hw1 hw2 HN hb3
  have x2 := k13.cell 2
  have y0 := k23.cell 0
  have y1 := k23.cell 1
  have y2 := k23.cell 2
  simp only [List.getElem?_cons_zero, List.getElem?_cons_succ] at x2 y0 y1 y2
  have K23 := hide k23
  clear k13 k23 K1 K2 s1
  cases R0
  · rw [Bool.false_or] at HX
    cases h1 : inB tr 1 D1
    · rw [h1, Bool.false_and] at HX
      go_wp2_with (go_at_call 48; refine (l1In_any _ _ _ _).mono ?_; rintro e w4 ⟨rfl, rfl⟩)
      go_ret
      exact ⟨ret_bool HX.out.symm, hB3⟩
    · rw [h1, Bool.true_and] at HX
      have Hr1 : Hid (1 ≤ tr) := hide (by unfold inB at h1; simp at h1; exact h1.1)
      cases N0
      · rw [Bool.false_and] at HX
        go_wp2_with (first
          | (go_at_call 48; refine (l1In_any _ _ _ _).mono ?_; rintro e w4 ⟨rfl, rfl⟩)
          | (go_at_call 116; refine HN3.out.mono ?_; rintro e w5 ⟨rfl, hb5⟩))
        go_ret
        exact ⟨ret_bool HX.out.symm, hB3.trans (hb5 _)⟩
      · rw [Bool.true_and] at HX
        by_cases hlen : th.length = tw.length
        · rw [decide_eq_true hlen, Bool.true_and] at HX
          have hli : ((th.length : Int) != (tw.length : Int)) = false := by rw [hlen]; simp
          clear hlen
          go_wp2_with (first
            | (go_at_call 48; refine (l1In_any _ _ _ _).mono ?_; rintro e w4 ⟨rfl, rfl⟩)
            | (go_at_call 116; refine HN3.out.mono ?_; rintro e w5 ⟨rfl, hb5⟩; have hB5 := hB3.trans (hb5 _); have k5 := K23.out.below (hb5 _) K23.out.lt; have t1 := k5.cell 1; have t2 := k5.cell 2; simp only [List.getElem?_cons_zero, List.getElem?_cons_succ] at t1 t2))
          have K5 := hide k5
          have HB5 := hide hB5
          clear k5 x2 y0 y1 y2 t1 t2 hb5 hB5 hB3 hli h1
          go_loopw [4] (fun iv wr => ∃ i : Nat, i ≤ th.length ∧ iv = .int .i64 (i : Int) ∧ (∀ j (hj : j < th.length), j < i → inB th[j] 0 (tr - 1) = true) ∧ Below w5.heap.size w5 wr) (fun iv _ => th.length - (intOf iv).toNat)
          case atStart => exact ⟨0, Nat.zero_le _, rfl, fun j _ hj => by omega, Below.refl _ _⟩
          case round =>
            obtain ⟨i, hi, rfl, hok, hb⟩ := hrel
            have kr := K5.out.below hb K5.out.lt
            have t0 := kr.cell 0
            have t2 := kr.cell 2
            simp only [List.getElem?_cons_zero, List.getElem?_cons_succ] at t0 t2
            have Hok := hide hok
            have HBr := hide (HB5.out.trans (hb.mono HB5.out.size))
            clear hok kr
            by_cases hlt : i < th.length
            · obtain ⟨bh, oh, rfl, hc1, hc2, hbh, hch⟩ := Hh.out.at hlt
              have c0 := (HBr.out.cell (p := ⟨bh, oh + i, none⟩) hbh).trans hch
              have hli : (i : Int) < (th.length : Int) := by omega
              have Hno := hide (his_no tr th i hlt)
              have Hnx : Hid (inB th[i] 0 (tr - 1) = true → ∀ j (hj : j < th.length), j < i + 1 → inB th[j] 0 (tr - 1) = true) := hide (fun h j hj hji => by
                by_cases e : j = i
                · subst e; exact h
                · exact Hok.out j hj (by omega))
              generalize th[i] = x at c0 hch Hno Hnx
              have hr1 := Hr1.out
              have hwr : IntKind.i64.wrap (tr - 1) = tr - 1 := by rw [IntKind.wrap_i64]; omega
              have Hb := hide hb
              have g0 := cell_regrown c0
              have g1 := cell_regrown t0
              have g2 := cell_regrown t2
              clear hb hch hr1 c0
              cases hx : inB x 0 (tr - 1)
              · have Hf := hide (HX.out.trans (Hno.out hx))
                have HI := hide (fun (d : Nat) (os : Array Obj) => sameC_regrown (l1In_any x 0 (tr - 1) (grow (redrawn wr d) os)))
                rw [hx] at HI
                clear hx Hnx
                go_wp2
                refine wp_region_quiet_below (by kernel_rfl) (by kernel_rfl) ?_
                repeat (go_big_quiet_step ((go_at_call 48; exact HI.out _ _)))
                refine wpQuiet_nil ?_
                intro _ hw'
                obtain ⟨⟨dq, osq⟩, hw''⟩ := hw'
                subst hw''
                go_wp2
                go_ret
                exact ⟨ret_bool Hf.out.symm, HBr.out.trans ((below_regrown wr dq osq).mono HBr.out.size)⟩
              · have Hnx := hide (Hnx.out hx)
                have HI := hide (fun (d : Nat) (os : Array Obj) => sameC_regrown (l1In_any x 0 (tr - 1) (grow (redrawn wr d) os)))
                rw [hx] at HI
                clear hx Hno
                go_wp2
                refine wp_region_quiet_below (by kernel_rfl) (by kernel_rfl) ?_
                repeat (go_big_quiet_step ((go_at_call 48; exact HI.out _ _)))
                refine wpQuiet_nil ?_
                intro _ hw'
                obtain ⟨⟨dq, osq⟩, hw''⟩ := hw'
                subst hw''
                go_wp2
                go_roundw
                case rel => exact ⟨i + 1, by omega, by go_num, Hnx.out, Hb.out.trans ((below_regrown wr dq osq).mono Hb.out.size)⟩
                case measure => simp [intOf]; omega
            · have Hf := hide (HX.out.trans (his_yes tr th (fun j hj => Hok.out j hj (by omega))))
              clear hb
              go_wp2
              go_ret
              exact ⟨ret_bool Hf.out.symm, HBr.out⟩
        · rw [decide_eq_false hlen, Bool.false_and] at HX
          have hli : ((th.length : Int) != (tw.length : Int)) = true := by rw [bne_iff_ne]; omega
          clear hlen
          go_wp2_with (first
            | (go_at_call 48; refine (l1In_any _ _ _ _).mono ?_; rintro e w4 ⟨rfl, rfl⟩)
            | (go_at_call 116; refine HN3.out.mono ?_; rintro e w5 ⟨rfl, hb5⟩; have hB5 := hB3.trans (hb5 _); have k5 := K23.out.below (hb5 _) K23.out.lt; have t1 := k5.cell 1; have t2 := k5.cell 2; simp only [List.getElem?_cons_zero, List.getElem?_cons_succ] at t1 t2))
          go_ret
          exact ⟨ret_bool HX.out.symm, hB5⟩
  · rw [Bool.true_or] at HX
    go_wp2
    go_ret
    exact ⟨ret_bool HX.out.symm, hB3⟩
end Go.Proofs.YtkjlmnhdmlolmaaGreatDoor

namespace Go.Proofs.YtkjlmnhdmlolmaaGreatDoor
open Go.RowKit Go.Sort
set_option linter.unusedVariables false

theorem RdT.at9 {w : World} {a : Option Addr} {cap k : Nat} {l : List Tx5} (h : RdT w (.slice a l.length cap) l) (hk : k < l.length) :
    ∃ b off, a = some ⟨b, off, none⟩ ∧ l.length ≤ cap ∧ cap ≤ maxLen ∧ b < w.heap.size ∧ TxAt w b (off + k * 5) l[k] := by
  rcases h with ⟨a', cap', e, rfl, -⟩ | ⟨b, off, cap', h0, e, h1, h2, h3, h4⟩
  · simp at hk
  · simp only [Value.slice.injEq, true_and] at e
    obtain ⟨rfl, rfl⟩ := e
    exact ⟨b, off, rfl, h1, h2, h3, h4 k hk⟩
theorem noText {s : ByteArray} (h : s ≠ ⟨#[]⟩) : s.toList.isEmpty = false := by
  have h1 := bytes_ne h
  have h2 : ByteArray.toList ⟨#[]⟩ = [] := by kernel_rfl
  rw [h2] at h1
  cases hz : s.toList with
  | nil => rw [hz] at h1; simp at h1
  | cons a t => rfl
theorem txs_no (ts : List Tx5) (k : Nat) (h : k < ts.length) (hk : txB ts[k] = false) : ts.all txB = false := by
  rw [List.all_eq_false]
  exact ⟨ts[k], List.getElem_mem _, by simp [hk]⟩
theorem txs_yes (ts : List Tx5) (h : ∀ j (hj : j < ts.length), txB ts[j] = true) : ts.all txB = true := by
  rw [List.all_eq_true]
  intro t ht
  obtain ⟨j, hj, rfl⟩ := List.mem_iff_getElem.1 ht
  exact h j hj
set_option maxRecDepth 20000 in
set_option maxHeartbeats 4000000 in
theorem specBlockOk_any (b : Bk) (v : Bv) (w : World) (hr : RdK w b v) (hf : FewK b) (hbd : -9223372036854775808 ≤ b.tr ∧ b.tr ≤ 9223372036854775807) :
    Calls Tryz.prog 17 #[bkV b v] w fun e w' => e = .returned (.bool (blB b)) ∧ Below w.heap.size w w' := by
  have HQ0 := hide (fun V (hV : Below w.heap.size w V) => specL9Qc_any b v V (hr.below hV (Nat.le_refl _)) hf)
  have HT0 := hide (fun V (hV : Below w.heap.size w V) => specL9Tc_any b v V (hr.below hV (Nat.le_refl _)) hf hbd)
  have HM := hide (fun V => specNameOk_any b.md V hf.ms)
  have Hf := hide hf
  have HX : Hid (blB b = (inB b.id 0 100000 && (inB b.ep 0 900 && (inB b.rd 1 10000 && (nmB b.md && (q9B b && (t9B b && (decide (b.ts.length ≤ 4) && (b.ts.all txB && e9B b))))))))) := hide rfl
  have HE : Hid (e9B b = if b.en = true then setB b.nx && decide (b.rt.size = 32) else decide (b.nx.length = 0) && decide (b.rt = ⟨#[]⟩)) := hide rfl
  generalize blB b = X at HX ⊢
  generalize q9B b = Q0 at HX HQ0
  generalize t9B b = T0 at HX HT0
  generalize e9B b = E0 at HX HE
  have hft := hf.t
  have hfn := hf.n
  clear hf hbd
  obtain ⟨id, ep, rd, mk, qr, qb, qw, tr, tw, th, ts, en, nx, rt⟩ := b
  obtain ⟨vq, vw, vh, vt, vn⟩ := v
  obtain ⟨hq, hw, hh, ht, hn⟩ := hr
  simp only [bkV] at *
  obtain ⟨aq, cq, rfl⟩ := hq.shape
  obtain ⟨aw, cw, rfl⟩ := hw.shape
  obtain ⟨ah, ch, rfl⟩ := hh.shape
  obtain ⟨at_, ct, rfl⟩ := ht.shape
  obtain ⟨an, cn, rfl⟩ := hn.shape
  clear hq hw hh
  obtain ⟨w1, hw1⟩ : ∃ x, w.alloc (.cells #[.int .i64 id, .int .i64 ep, .int .i64 rd, .string mk, .int .i64 qr, .int .i64 qb, .slice aq qw.length cq, .int .i64 tr, .slice aw tw.length cw, .slice ah th.length ch, .slice at_ ts.length ct, .bool en, .slice an nx.length cn, .string rt] 47) = x := ⟨_, rfl⟩
  have b1 : Below w.heap.size w w1 := by rw [← hw1]; exact (Below.refl _ w).alloc (Nat.le_refl _) _
  have k1 : Blk w1 w.heap.size 47 [.int .i64 id, .int .i64 ep, .int .i64 rd, .string mk, .int .i64 qr, .int .i64 qb, .slice aq qw.length cq, .int .i64 tr, .slice aw tw.length cw, .slice ah th.length ch, .slice at_ ts.length ct, .bool en, .slice an nx.length cn, .string rt] := by rw [← hw1]; exact Blk.new w _ _
  have HQ := hide (HQ0.out w1 b1)
  have HT := HT0
  have x0 := k1.cell 0
  have x1 := k1.cell 1
  have x2 := k1.cell 2
  have x3 := k1.cell 3
  have x4 := k1.cell 4
  have x5 := k1.cell 5
  have x6 := k1.cell 6
  have x7 := k1.cell 7
  have x8 := k1.cell 8
  have x9 := k1.cell 9
  have x10 := k1.cell 10
  have x11 := k1.cell 11
  have x12 := k1.cell 12
  have x13 := k1.cell 13
  simp only [List.getElem?_cons_zero, List.getElem?_cons_succ] at x0 x1 x2 x3 x4 x5 x6 x7 x8 x9 x10 x11 x12 x13
  have K1 := hide k1
  have HB1 := hide b1
  have Ht := hide ht
  have Hn := hide hn
  clear HQ0 HT0 k1 b1 ht hn
  generalize nmB mk = M0 at HX HM
  go_enter Tryz.func17, Tryz.ntmps17
  cases h1 : inB id 0 100000
  · rw [h1, Bool.false_and] at HX
    go_wp2_with (go_at_call 48; refine (l1In_any _ _ _ _).mono ?_; rintro e w4 ⟨rfl, rfl⟩)
    go_ret
    exact ⟨ret_bool HX.out.symm, HB1.out⟩
  · rw [h1, Bool.true_and] at HX
    cases h2 : inB ep 0 900
    · rw [h2, Bool.false_and] at HX
      go_wp2_with (go_at_call 48; refine (l1In_any _ _ _ _).mono ?_; rintro e w4 ⟨rfl, rfl⟩)
      go_ret
      exact ⟨ret_bool HX.out.symm, HB1.out⟩
    · rw [h2, Bool.true_and] at HX
      cases h3 : inB rd 1 10000
      · rw [h3, Bool.false_and] at HX
        go_wp2_with (go_at_call 48; refine (l1In_any _ _ _ _).mono ?_; rintro e w4 ⟨rfl, rfl⟩)
        go_ret
        exact ⟨ret_bool HX.out.symm, HB1.out⟩
      · rw [h3, Bool.true_and] at HX
        cases M0
        · rw [Bool.false_and] at HX
          go_wp2_with (first
              | (go_at_call 48; refine (l1In_any _ _ _ _).mono ?_; rintro e w4 ⟨rfl, rfl⟩)
              | (go_at_call 49; refine (HM.out _).mono ?_; rintro e w5 ⟨rfl, rfl⟩))
          go_ret
          exact ⟨ret_bool HX.out.symm, HB1.out⟩
        · rw [Bool.true_and] at HX
          cases Q0
          · rw [Bool.false_and] at HX
            go_wp2_with (first
                | (go_at_call 48; refine (l1In_any _ _ _ _).mono ?_; rintro e w4 ⟨rfl, rfl⟩)
                | (go_at_call 49; refine (HM.out _).mono ?_; rintro e w5 ⟨rfl, rfl⟩)
                | (go_at_call 50; refine HQ.out.mono ?_; rintro e w2 ⟨rfl, hb2⟩; have hB2 := HB1.out.trans (hb2.mono HB1.out.size); have k2 := K1.out.below hb2 K1.out.lt; have y0 := k2.cell 0; have y1 := k2.cell 1; have y2 := k2.cell 2; have y3 := k2.cell 3; have y4 := k2.cell 4; have y5 := k2.cell 5; have y6 := k2.cell 6; have y7 := k2.cell 7; have y8 := k2.cell 8; have y9 := k2.cell 9; have y10 := k2.cell 10; have y11 := k2.cell 11; have y12 := k2.cell 12; have y13 := k2.cell 13; simp only [List.getElem?_cons_zero, List.getElem?_cons_succ] at y0 y1 y2 y3 y4 y5 y6 y7 y8 y9 y10 y11 y12 y13))
            go_ret
            exact ⟨ret_bool HX.out.symm, hB2⟩
          · rw [Bool.true_and] at HX
            cases T0
            · rw [Bool.false_and] at HX
              go_wp2_with (first
                  | (go_at_call 48; refine (l1In_any _ _ _ _).mono ?_; rintro e w4 ⟨rfl, rfl⟩)
                  | (go_at_call 49; refine (HM.out _).mono ?_; rintro e w5 ⟨rfl, rfl⟩)
                  | (go_at_call 50; refine HQ.out.mono ?_; rintro e w2 ⟨rfl, hb2⟩; have hB2 := HB1.out.trans (hb2.mono HB1.out.size); have k2 := K1.out.below hb2 K1.out.lt; have y0 := k2.cell 0; have y1 := k2.cell 1; have y2 := k2.cell 2; have y3 := k2.cell 3; have y4 := k2.cell 4; have y5 := k2.cell 5; have y6 := k2.cell 6; have y7 := k2.cell 7; have y8 := k2.cell 8; have y9 := k2.cell 9; have y10 := k2.cell 10; have y11 := k2.cell 11; have y12 := k2.cell 12; have y13 := k2.cell 13; simp only [List.getElem?_cons_zero, List.getElem?_cons_succ] at y0 y1 y2 y3 y4 y5 y6 y7 y8 y9 y10 y11 y12 y13)
                  | (go_at_call 51; refine (HT.out w2 hB2).mono ?_; rintro e w3 ⟨rfl, hb3⟩; have hB3 := hB2.trans (hb3.mono hB2.size); have k3 := k2.below hb3 k2.lt; have z0 := k3.cell 0; have z1 := k3.cell 1; have z2 := k3.cell 2; have z3 := k3.cell 3; have z4 := k3.cell 4; have z5 := k3.cell 5; have z6 := k3.cell 6; have z7 := k3.cell 7; have z8 := k3.cell 8; have z9 := k3.cell 9; have z10 := k3.cell 10; have z11 := k3.cell 11; have z12 := k3.cell 12; have z13 := k3.cell 13; simp only [List.getElem?_cons_zero, List.getElem?_cons_succ] at z0 z1 z2 z3 z4 z5 z6 z7 z8 z9 z10 z11 z12 z13))
              go_ret
              exact ⟨ret_bool HX.out.symm, hB3⟩
            · rw [Bool.true_and] at HX
              by_cases h4 : ts.length ≤ 4
              · rw [decide_eq_true h4, Bool.true_and] at HX
                have h4i : ¬ (4 : Int) < (ts.length : Int) := by omega
                go_wp2_with (first
                    | (go_at_call 48; refine (l1In_any _ _ _ _).mono ?_; rintro e w4 ⟨rfl, rfl⟩)
                    | (go_at_call 49; refine (HM.out _).mono ?_; rintro e w5 ⟨rfl, rfl⟩)
                    | (go_at_call 50; refine HQ.out.mono ?_; rintro e w2 ⟨rfl, hb2⟩; have hB2 := HB1.out.trans (hb2.mono HB1.out.size); have k2 := K1.out.below hb2 K1.out.lt; have y0 := k2.cell 0; have y1 := k2.cell 1; have y2 := k2.cell 2; have y3 := k2.cell 3; have y4 := k2.cell 4; have y5 := k2.cell 5; have y6 := k2.cell 6; have y7 := k2.cell 7; have y8 := k2.cell 8; have y9 := k2.cell 9; have y10 := k2.cell 10; have y11 := k2.cell 11; have y12 := k2.cell 12; have y13 := k2.cell 13; simp only [List.getElem?_cons_zero, List.getElem?_cons_succ] at y0 y1 y2 y3 y4 y5 y6 y7 y8 y9 y10 y11 y12 y13)
                    | (go_at_call 51; refine (HT.out w2 hB2).mono ?_; rintro e w3 ⟨rfl, hb3⟩; have hB3 := hB2.trans (hb3.mono hB2.size); have k3 := k2.below hb3 k2.lt; have z0 := k3.cell 0; have z1 := k3.cell 1; have z2 := k3.cell 2; have z3 := k3.cell 3; have z4 := k3.cell 4; have z5 := k3.cell 5; have z6 := k3.cell 6; have z7 := k3.cell 7; have z8 := k3.cell 8; have z9 := k3.cell 9; have z10 := k3.cell 10; have z11 := k3.cell 11; have z12 := k3.cell 12; have z13 := k3.cell 13; simp only [List.getElem?_cons_zero, List.getElem?_cons_succ] at z0 z1 z2 z3 z4 z5 z6 z7 z8 z9 z10 z11 z12 z13))
                have K3 := hide k3
                have HB3 := hide hB3
                clear k2 k3 hB2 hB3 hb2 hb3 h4i hw1
                clear x0 x1 x2 x3 x4 x5 x6 x7 x8 x9 x10 x11 x12 x13
                clear y0 y1 y2 y3 y4 y5 y6 y7 y8 y9 y10 y11 y12 y13
                clear z0 z1 z2 z3 z4 z5 z6 z7 z8 z9 z10 z11 z12 z13
                go_loopw [3] (fun iv wr => ∃ i : Nat, i ≤ ts.length ∧ iv = .int .i64 (i : Int) ∧ (∀ j (hj : j < ts.length), j < i → txB ts[j] = true) ∧ Below w3.heap.size w3 wr) (fun iv _ => ts.length - (intOf iv).toNat)
                case atStart => exact ⟨0, Nat.zero_le _, rfl, fun j _ hj => by omega, Below.refl _ _⟩
                case round =>
                  obtain ⟨i, hi, rfl, hok, hb⟩ := hrel
                  have kr := K3.out.below hb K3.out.lt
                  have t10 := kr.cell 10
                  simp only [List.getElem?_cons_zero, List.getElem?_cons_succ] at t10
                  have Hok := hide hok
                  have HBr := hide (HB3.out.trans (hb.mono HB3.out.size))
                  clear hok
                  by_cases hlt : i < ts.length
                  · obtain ⟨bt, ot, rfl, hc1, hc2, hbt, hat⟩ := Ht.out.at9 hlt
                    have hli : (i : Int) < (ts.length : Int) := by omega
                    have hat' := hat.below HBr.out hbt
                    have hsz := Hf.out.ts ts[i] (List.getElem_mem _)
                    have HO := hide (fun V => specTxOk_any ts[i] V hsz.1 hsz.2)
                    have Hno := hide (txs_no ts i hlt)
                    have Hnx : Hid (txB ts[i] = true → ∀ j (hj : j < ts.length), j < i + 1 → txB ts[j] = true) := hide (fun h j hj hji => by
                      by_cases e : j = i
                      · subst e; exact h
                      · exact Hok.out j hj (by omega))
                    generalize ts[i] = tx at hat hat' HO Hno Hnx hsz
                    obtain ⟨c0, c1, c2, c3, c4⟩ := hat'
                    simp only [txV] at HO
                    have Hb := hide hb
                    clear hat hb hsz kr
                    cases hx : txB tx
                    · have Hfl := hide (HX.out.trans (by rw [Hno.out hx, Bool.false_and]))
                      rw [hx] at HO
                      clear hx Hnx
                      go_wp2_with fail
                      refine (HO.out _).mono ?_
                      rintro e w6 ⟨rfl, hb6⟩
                      have HB6 := hide (HBr.out.trans (hb6.mono HBr.out.size))
                      clear hb6 c0 c1 c2 c3 c4 t10
                      go_wp2
                      go_ret
                      exact ⟨ret_bool Hfl.out.symm, HB6.out⟩
                    · have Hnx := hide (Hnx.out hx)
                      rw [hx] at HO
                      clear hx Hno
                      go_wp2_with fail
                      refine (HO.out _).mono ?_
                      rintro e w6 ⟨rfl, hb6⟩
                      have HB6 := hide (Hb.out.trans (hb6.mono Hb.out.size))
                      clear hb6 c0 c1 c2 c3 c4 t10
                      go_wp2
                      go_roundw
                      case rel => exact ⟨i + 1, by omega, by go_num, Hnx.out, HB6.out⟩
                      case measure => simp [intOf]; omega
                  · have HX2 := hide (HX.out.trans (by rw [txs_yes ts (fun j hj => Hok.out j hj (by omega)), Bool.true_and]))
                    have t11 := kr.cell 11
                    have t12 := kr.cell 12
                    have t13 := kr.cell 13
                    simp only [List.getElem?_cons_zero, List.getElem?_cons_succ] at t11 t12 t13
                    cases en
                    · rw [if_neg (by simp)] at HE
                      by_cases h5 : nx.length = 0
                      · have h5i : ((nx.length : Int) == 0) = true := by rw [beq_iff_eq]; omega
                        by_cases h6 : rt = ⟨#[]⟩
                        · have Hfl := hide (HX2.out.trans (HE.out.trans (by rw [decide_eq_true h5, decide_eq_true h6, Bool.true_and])))
                          subst h6
                          clear h5 kr hb
                          go_wp2
                          go_ret
                          exact ⟨ret_bool Hfl.out.symm, HBr.out⟩
                        · have Hfl := hide (HX2.out.trans (HE.out.trans (by rw [decide_eq_false h6, Bool.and_false])))
                          have h6b := noText h6
                          clear h5 h6 kr hb
                          go_wp2
                          go_ret
                          exact ⟨ret_bool Hfl.out.symm, HBr.out⟩
                      · have Hfl := hide (HX2.out.trans (HE.out.trans (by rw [decide_eq_false h5, Bool.false_and])))
                        have h5i : ((nx.length : Int) == 0) = false := by rw [beq_eq_false_iff_ne]; omega
                        clear h5 kr hb
                        go_wp2
                        go_ret
                        exact ⟨ret_bool Hfl.out.symm, HBr.out⟩
                    · rw [if_pos rfl] at HE
                      have HS := hide (specSetOk_any (.slice an nx.length cn) nx wr (Hn.out.below HBr.out (Nat.le_refl _)) hfn Hf.out.ns)
                      cases h7 : setB nx
                      · have Hfl := hide (HX2.out.trans (HE.out.trans (by rw [h7, Bool.false_and])))
                        rw [h7] at HS
                        clear h7 kr hb
                        go_wp2_with (go_at_call 53; refine HS.out.mono ?_; rintro e w7 ⟨rfl, hb7⟩)
                        go_ret
                        exact ⟨ret_bool Hfl.out.symm, HBr.out.trans (hb7.mono HBr.out.size)⟩
                      · rw [h7] at HS
                        by_cases h8 : rt.size = 32
                        · have Hfl := hide (HX2.out.trans (HE.out.trans (by rw [h7, decide_eq_true h8, Bool.true_and])))
                          have h8i : ((rt.size : Int) == 32) = true := by rw [beq_iff_eq]; omega
                          clear h7 h8 hb
                          go_wp2_with (go_at_call 53; refine HS.out.mono ?_; rintro e w7 ⟨rfl, hb7⟩; have k7 := kr.below hb7 kr.lt; have u13 := k7.cell 13; simp only [List.getElem?_cons_zero, List.getElem?_cons_succ] at u13)
                          go_ret
                          exact ⟨ret_bool Hfl.out.symm, HBr.out.trans (hb7.mono HBr.out.size)⟩
                        · have Hfl := hide (HX2.out.trans (HE.out.trans (by rw [h7, decide_eq_false h8, Bool.true_and])))
                          have h8i : ((rt.size : Int) == 32) = false := by rw [beq_eq_false_iff_ne]; omega
                          clear h7 h8 hb
                          go_wp2_with (go_at_call 53; refine HS.out.mono ?_; rintro e w7 ⟨rfl, hb7⟩; have k7 := kr.below hb7 kr.lt; have u13 := k7.cell 13; simp only [List.getElem?_cons_zero, List.getElem?_cons_succ] at u13)
                          go_ret
                          exact ⟨ret_bool Hfl.out.symm, HBr.out.trans (hb7.mono HBr.out.size)⟩
              · rw [decide_eq_false h4, Bool.false_and] at HX
                have h4i : (4 : Int) < (ts.length : Int) := by omega
                go_wp2_with (first
                    | (go_at_call 48; refine (l1In_any _ _ _ _).mono ?_; rintro e w4 ⟨rfl, rfl⟩)
                    | (go_at_call 49; refine (HM.out _).mono ?_; rintro e w5 ⟨rfl, rfl⟩)
                    | (go_at_call 50; refine HQ.out.mono ?_; rintro e w2 ⟨rfl, hb2⟩; have hB2 := HB1.out.trans (hb2.mono HB1.out.size); have k2 := K1.out.below hb2 K1.out.lt; have y0 := k2.cell 0; have y1 := k2.cell 1; have y2 := k2.cell 2; have y3 := k2.cell 3; have y4 := k2.cell 4; have y5 := k2.cell 5; have y6 := k2.cell 6; have y7 := k2.cell 7; have y8 := k2.cell 8; have y9 := k2.cell 9; have y10 := k2.cell 10; have y11 := k2.cell 11; have y12 := k2.cell 12; have y13 := k2.cell 13; simp only [List.getElem?_cons_zero, List.getElem?_cons_succ] at y0 y1 y2 y3 y4 y5 y6 y7 y8 y9 y10 y11 y12 y13)
                    | (go_at_call 51; refine (HT.out w2 hB2).mono ?_; rintro e w3 ⟨rfl, hb3⟩; have hB3 := hB2.trans (hb3.mono hB2.size); have k3 := k2.below hb3 k2.lt; have z0 := k3.cell 0; have z1 := k3.cell 1; have z2 := k3.cell 2; have z3 := k3.cell 3; have z4 := k3.cell 4; have z5 := k3.cell 5; have z6 := k3.cell 6; have z7 := k3.cell 7; have z8 := k3.cell 8; have z9 := k3.cell 9; have z10 := k3.cell 10; have z11 := k3.cell 11; have z12 := k3.cell 12; have z13 := k3.cell 13; simp only [List.getElem?_cons_zero, List.getElem?_cons_succ] at z0 z1 z2 z3 z4 z5 z6 z7 z8 z9 z10 z11 z12 z13))
                go_ret
                exact ⟨ret_bool HX.out.symm, hB3⟩
end Go.Proofs.YtkjlmnhdmlolmaaGreatDoor

namespace Go.Proofs.YtkjlmnhdmlolmaaGreatDoor
open Go.RowKit
set_option linter.unusedVariables false

theorem OwnT.olderC {base : Nat} {w : World} {v : Value} {l : List Tx5} (h : OwnT base w v l) {g : Nat} (hg : g < base) (j : Nat) (u : Value) : OwnT base (w.setCell ⟨g, j, none⟩ u) v l :=
  World.ownsRow.kept h (grown_set w g j u) (.inr fun e => by have := (h.lt g e).1; omega)
theorem OwnV.olderC {base : Nat} {w : World} {v : Value} {l : List Vl} (h : OwnV base w v l) {g : Nat} (hg : g < base) (j : Nat) (u : Value) : OwnV base (w.setCell ⟨g, j, none⟩ u) v l :=
  World.ownsRow.kept h (grown_set w g j u) (.inr fun e => by have := h.ge g e; omega)
theorem OwnT.mono {base base' : Nat} {w : World} {v : Value} {l : List Tx5} (h : OwnT base w v l) (hB : base' ≤ base) : OwnT base' w v l := by
  refine ⟨h.1, ?_⟩
  rcases h.2 with h2 | ⟨g, cap, cur, e, hb, r⟩
  · exact .inl h2
  · exact .inr ⟨g, cap, cur, e, Nat.le_trans hB hb, r⟩
theorem OwnS.put14 {base : Nat} {w : World} {v : Value} {l : List ByteArray} (h : OwnS base w v l) {g : Nat} (hg : g < base) (y0 y1 y2 y3 y4 y5 y6 y7 y8 y9 y10 y11 y12 y13 : Value) : OwnS base (((((((((((((((w).setCell ⟨g, 0, none⟩ (y0)).setCell ⟨g, 1, none⟩ (y1)).setCell ⟨g, 2, none⟩ (y2)).setCell ⟨g, 3, none⟩ (y3)).setCell ⟨g, 4, none⟩ (y4)).setCell ⟨g, 5, none⟩ (y5)).setCell ⟨g, 6, none⟩ (y6)).setCell ⟨g, 7, none⟩ (y7)).setCell ⟨g, 8, none⟩ (y8)).setCell ⟨g, 9, none⟩ (y9)).setCell ⟨g, 10, none⟩ (y10)).setCell ⟨g, 11, none⟩ (y11)).setCell ⟨g, 12, none⟩ (y12)).setCell ⟨g, 13, none⟩ (y13)) v l := (((((((((((((h.olderC hg 0 y0).olderC hg 1 y1).olderC hg 2 y2).olderC hg 3 y3).olderC hg 4 y4).olderC hg 5 y5).olderC hg 6 y6).olderC hg 7 y7).olderC hg 8 y8).olderC hg 9 y9).olderC hg 10 y10).olderC hg 11 y11).olderC hg 12 y12).olderC hg 13 y13
theorem OwnI.put14 {base : Nat} {w : World} {v : Value} {l : List Int} (h : OwnI base w v l) {g : Nat} (hg : g < base) (y0 y1 y2 y3 y4 y5 y6 y7 y8 y9 y10 y11 y12 y13 : Value) : OwnI base (((((((((((((((w).setCell ⟨g, 0, none⟩ (y0)).setCell ⟨g, 1, none⟩ (y1)).setCell ⟨g, 2, none⟩ (y2)).setCell ⟨g, 3, none⟩ (y3)).setCell ⟨g, 4, none⟩ (y4)).setCell ⟨g, 5, none⟩ (y5)).setCell ⟨g, 6, none⟩ (y6)).setCell ⟨g, 7, none⟩ (y7)).setCell ⟨g, 8, none⟩ (y8)).setCell ⟨g, 9, none⟩ (y9)).setCell ⟨g, 10, none⟩ (y10)).setCell ⟨g, 11, none⟩ (y11)).setCell ⟨g, 12, none⟩ (y12)).setCell ⟨g, 13, none⟩ (y13)) v l := (((((((((((((h.olderC hg 0 y0).olderC hg 1 y1).olderC hg 2 y2).olderC hg 3 y3).olderC hg 4 y4).olderC hg 5 y5).olderC hg 6 y6).olderC hg 7 y7).olderC hg 8 y8).olderC hg 9 y9).olderC hg 10 y10).olderC hg 11 y11).olderC hg 12 y12).olderC hg 13 y13
theorem OwnT.put14 {base : Nat} {w : World} {v : Value} {l : List Tx5} (h : OwnT base w v l) {g : Nat} (hg : g < base) (y0 y1 y2 y3 y4 y5 y6 y7 y8 y9 y10 y11 y12 y13 : Value) : OwnT base (((((((((((((((w).setCell ⟨g, 0, none⟩ (y0)).setCell ⟨g, 1, none⟩ (y1)).setCell ⟨g, 2, none⟩ (y2)).setCell ⟨g, 3, none⟩ (y3)).setCell ⟨g, 4, none⟩ (y4)).setCell ⟨g, 5, none⟩ (y5)).setCell ⟨g, 6, none⟩ (y6)).setCell ⟨g, 7, none⟩ (y7)).setCell ⟨g, 8, none⟩ (y8)).setCell ⟨g, 9, none⟩ (y9)).setCell ⟨g, 10, none⟩ (y10)).setCell ⟨g, 11, none⟩ (y11)).setCell ⟨g, 12, none⟩ (y12)).setCell ⟨g, 13, none⟩ (y13)) v l := (((((((((((((h.olderC hg 0 y0).olderC hg 1 y1).olderC hg 2 y2).olderC hg 3 y3).olderC hg 4 y4).olderC hg 5 y5).olderC hg 6 y6).olderC hg 7 y7).olderC hg 8 y8).olderC hg 9 y9).olderC hg 10 y10).olderC hg 11 y11).olderC hg 12 y12).olderC hg 13 y13
theorem OwnV.put14 {base : Nat} {w : World} {v : Value} {l : List Vl} (h : OwnV base w v l) {g : Nat} (hg : g < base) (y0 y1 y2 y3 y4 y5 y6 y7 y8 y9 y10 y11 y12 y13 : Value) : OwnV base (((((((((((((((w).setCell ⟨g, 0, none⟩ (y0)).setCell ⟨g, 1, none⟩ (y1)).setCell ⟨g, 2, none⟩ (y2)).setCell ⟨g, 3, none⟩ (y3)).setCell ⟨g, 4, none⟩ (y4)).setCell ⟨g, 5, none⟩ (y5)).setCell ⟨g, 6, none⟩ (y6)).setCell ⟨g, 7, none⟩ (y7)).setCell ⟨g, 8, none⟩ (y8)).setCell ⟨g, 9, none⟩ (y9)).setCell ⟨g, 10, none⟩ (y10)).setCell ⟨g, 11, none⟩ (y11)).setCell ⟨g, 12, none⟩ (y12)).setCell ⟨g, 13, none⟩ (y13)) v l := (((((((((((((h.olderC hg 0 y0).olderC hg 1 y1).olderC hg 2 y2).olderC hg 3 y3).olderC hg 4 y4).olderC hg 5 y5).olderC hg 6 y6).olderC hg 7 y7).olderC hg 8 y8).olderC hg 9 y9).olderC hg 10 y10).olderC hg 11 y11).olderC hg 12 y12).olderC hg 13 y13
theorem below_put14 (W : World) (g : Nat) (y0 y1 y2 y3 y4 y5 y6 y7 y8 y9 y10 y11 y12 y13 : Value) : Below g W (((((((((((((((W).setCell ⟨g, 0, none⟩ (y0)).setCell ⟨g, 1, none⟩ (y1)).setCell ⟨g, 2, none⟩ (y2)).setCell ⟨g, 3, none⟩ (y3)).setCell ⟨g, 4, none⟩ (y4)).setCell ⟨g, 5, none⟩ (y5)).setCell ⟨g, 6, none⟩ (y6)).setCell ⟨g, 7, none⟩ (y7)).setCell ⟨g, 8, none⟩ (y8)).setCell ⟨g, 9, none⟩ (y9)).setCell ⟨g, 10, none⟩ (y10)).setCell ⟨g, 11, none⟩ (y11)).setCell ⟨g, 12, none⟩ (y12)).setCell ⟨g, 13, none⟩ (y13)) := ((((((((((((((Below.refl _ W).setCell (p := ⟨g, 0, none⟩) (Nat.le_refl _) y0).setCell (p := ⟨g, 1, none⟩) (Nat.le_refl _) y1).setCell (p := ⟨g, 2, none⟩) (Nat.le_refl _) y2).setCell (p := ⟨g, 3, none⟩) (Nat.le_refl _) y3).setCell (p := ⟨g, 4, none⟩) (Nat.le_refl _) y4).setCell (p := ⟨g, 5, none⟩) (Nat.le_refl _) y5).setCell (p := ⟨g, 6, none⟩) (Nat.le_refl _) y6).setCell (p := ⟨g, 7, none⟩) (Nat.le_refl _) y7).setCell (p := ⟨g, 8, none⟩) (Nat.le_refl _) y8).setCell (p := ⟨g, 9, none⟩) (Nat.le_refl _) y9).setCell (p := ⟨g, 10, none⟩) (Nat.le_refl _) y10).setCell (p := ⟨g, 11, none⟩) (Nat.le_refl _) y11).setCell (p := ⟨g, 12, none⟩) (Nat.le_refl _) y12).setCell (p := ⟨g, 13, none⟩) (Nat.le_refl _) y13
/-- The lists are the call's own from block 'base' on, and read as the block's. -/
structure OwnK (base : Nat) (w : World) (b : Bk) (v : Bv) : Prop where
  q : OwnS base w v.q b.qw
  p : OwnS base w v.w b.tw
  h : OwnI base w v.h b.th
  t : OwnT base w v.t b.ts
  n : OwnV base w v.n b.nx
theorem OwnK.rd {base : Nat} {w : World} {b : Bk} {v : Bv} (h : OwnK base w b v) : RdK w b v := ⟨h.q.rd, h.p.rd, h.h.rd, h.t.rd, h.n.rd⟩
end Go.Proofs.YtkjlmnhdmlolmaaGreatDoor
