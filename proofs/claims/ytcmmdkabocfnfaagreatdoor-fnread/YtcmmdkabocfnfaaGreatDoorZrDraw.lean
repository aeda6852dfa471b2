/- Bytes in memory: what a slice of bytes reads as, what a call owns, and the laws' own helpers over them. A slice of bytes that came in reads as bytes. Whether a code is too long for the laws; the shape of what a call owns. Plain facts on numbers: the groups of seven bits of a number, read and put; bit operations on an int that is not below 0. Plain facts on the bytes of a number, and the law of append over bytes of the call's own. The model's draws: a cursor over the bytes of a code; whatever is drawn, it is of its kind, and nothing but the cursor turns. -/
import Derived.Test.YtcmmdkabocfnfaaGreatDoorRows
import Derived.WalkKit
import Derived.ProofKit
import Derived.WalkSpells
import Derived.WalkLawsBesides
import Derived.Outline
import Derived.Deep.QuietTactic
import Derived.BigQuiet
import Derived.OpenShut
import Derived.Laws.BitsAllLaws
import Derived.Laws.AppendOwnNone
namespace Go.Proofs.YtcmmdkabocfnfaaGreatDoor
open Go.RowKit
set_option linter.unusedVariables false

theorem hide {p : Prop} (h : p) : Hid p := h
theorem ret_bool {a b : Bool} (h : a = b) : Ending.returned (.bool a) = .returned (.bool b) := by rw [h]
theorem ret_int {k : IntKind} {a b : Int} (h : a = b) : Ending.returned (.int k a) = .returned (.int k b) := by rw [h]

def cb (c : UInt8) : Value := .int .u8 (c.toNat : Int)

/-- The value v is a slice that reads as the bytes l. -/
def RdB (w : World) (v : Value) (l : List UInt8) : Prop :=
  (∃ a cap, v = .slice a 0 cap ∧ l = [] ∧ (a = none → cap = 0)) ∨
  ∃ b off cap, l ≠ [] ∧ v = .slice (some ⟨b, off, none⟩) l.length cap ∧ l.length ≤ cap ∧ cap ≤ maxLen ∧ b < w.heap.size ∧ ∀ i (h : i < l.length), w.cell? ⟨b, off + i, none⟩ = some (.int .u8 (l[i].toNat : Int))

/-- The value v is a slice of the call's own, from block 'base' on, that reads as the bytes l. -/
def OwnB (base : Nat) (w : World) (v : Value) (l : List UInt8) : Prop := w.ownsRow base 5 1 v l.length (l.map cb)

theorem OwnB.rd {base : Nat} {w : World} {v : Value} {l : List UInt8} (h : OwnB base w v l) : RdB w v l := by
  rcases h.2 with ⟨hv, hn⟩ | ⟨g, cap, cur, hv, hb, hg, hnc, hcm, hcs, ht⟩
  · exact .inl ⟨none, 0, hv, List.length_eq_zero_iff.1 hn, fun _ => rfl⟩
  · by_cases hl : l = []
    · subst hl; exact .inl ⟨_, _, hv, rfl, fun h => by cases h⟩
    · refine .inr ⟨g, 0, cap, hl, hv, hnc, hcm, ?_, ?_⟩
      · exact (Array.getElem?_eq_some_iff.1 hg).1
      · intro i hi
        have h' : w.ownsRow base 5 1 (.slice (some ⟨g, 0, none⟩) l.length cap) l.length (l.map cb) := hv ▸ h
        rw [show 0 + i = i from by omega, h'.cellAt i (by omega)]
        simp [hi, cb]

theorem RdB.below {B : Nat} {w w' : World} {v : Value} {l : List UInt8} (h : RdB w v l) (hb : Below B w w') (hB : w.heap.size ≤ B) : RdB w' v l := by
  rcases h with h | ⟨b, off, cap, h0, hv, h1, h2, h3, h4⟩
  · exact .inl h
  · exact .inr ⟨b, off, cap, h0, hv, h1, h2, by have := hb.size; omega, fun i hi => (hb.cell (p := ⟨b, off + i, none⟩) (by show b < B; omega)).trans (h4 i hi)⟩

theorem OwnB.below {B base : Nat} {w w' : World} {v : Value} {l : List UInt8} (h : OwnB base w v l) (hb : Below B w w') (hB : w.heap.size ≤ B) : OwnB base w' v l := by
  refine ⟨h.1, ?_⟩
  rcases h.2 with h' | ⟨g, cap, cur, hv, hbb, hg, r⟩
  · exact .inl h'
  · refine .inr ⟨g, cap, cur, hv, hbb, ?_, r⟩
    have hlt : g < w.heap.size := (Array.getElem?_eq_some_iff.1 hg).1
    rw [hb.block g (by omega)]; exact hg

theorem OwnB.mono {base base' : Nat} {w : World} {v : Value} {l : List UInt8} (h : OwnB base w v l) (hB : base' ≤ base) : OwnB base' w v l := by
  refine ⟨h.1, ?_⟩
  rcases h.2 with h' | ⟨g, cap, cur, hv, hbb, r⟩
  · exact .inl h'
  · exact .inr ⟨g, cap, cur, hv, by omega, r⟩

theorem Tryz.infoU8 : (Tryz.prog.info? 5).map (fun i => (i.zero, i.size, i.bytes)) = some (some (.int .u8 0), 1, 1) := by kernel_rfl

theorem take_map_snoc (l : List UInt8) (k : Nat) (h : k < l.length) : ((l.take k).map cb ++ List.replicate (l.length - k) (Value.int .u8 0)).set k (cb l[k]) = (l.take (k + 1)).map cb ++ List.replicate (l.length - (k + 1)) (Value.int .u8 0) := by
  apply List.ext_getElem?
  intro j
  rw [List.getElem?_set]
  by_cases hj : k = j
  · subst hj
    rw [if_pos rfl, if_pos (by simp; omega), List.getElem?_append_left (by simp; omega)]
    simp [h]
  · rw [if_neg hj]
    by_cases hlt : j < k
    · rw [List.getElem?_append_left (by simp; omega), List.getElem?_append_left (by simp; omega)]
      simp [hlt, show j < k + 1 from by omega]
    · rw [List.getElem?_append_right (by simp; omega), List.getElem?_append_right (by simp; omega)]
      simp only [List.length_map, List.length_take, List.getElem?_replicate]
      rw [show min k l.length = k from by omega, show min (k + 1) l.length = k + 1 from by omega]
      by_cases hb : j < l.length
      · rw [if_pos (by omega), if_pos (by omega)]
      · rw [if_neg (by omega), if_neg (by omega)]

set_option maxHeartbeats 400000 in
theorem toByteS_any (v : Value) (l : List UInt8) (w : World) (hr : RdB w v l) (hl : l.length ≤ 4000000) :
    Calls Tryz.prog 7 #[v] w fun e w' => ∃ v', e = .returned v' ∧ OwnB w.heap.size w' v' l ∧ Below w.heap.size w w' := by
  obtain ⟨i0, hi, hz0, hz1, hz2⟩ := info_parts Tryz.infoU8
  rcases hr with ⟨a, cap, rfl, rfl, -⟩ | ⟨b, off, cap, h0, rfl, h1, h2, h3, h4⟩
  · go_enter Tryz.func7, Tryz.ntmps7
    go_wp2_with (refine wpList_make_full _ rfl _ _ 22 rfl w.heap.size 5 i0 (.int .u8 0) 1 Tryz.underlying22 hi hz0 hz1 .i64 .i64 _ _ 0 rfl rfl rfl rfl (by omega) (by unfold maxLen; omega) (Nat.le_refl _) ?_; intro w1 hown hgrow)
    have hb1 : Below w.heap.size w w1 := (Below.refl _ _).grown hgrow (Nat.le_refl _) (by intro k hk; cases hk)
    refine wp_loop_rounds 1 ?_
    rw [rounds_succ]
    go_wp2
    go_ret
    have ho' : OwnB w.heap.size w1 (.slice (some ⟨w.heap.size, 0, none⟩) 0 0) [] := by
      rw [show (madeCells (Value.int IntKind.u8 0).cells (0 * 1)).toList = [] from toList_madeCells_one _ _] at hown
      exact hown
    exact ⟨_, rfl, ho', hb1⟩
  · go_enter Tryz.func7, Tryz.ntmps7
    go_wp2_with (refine wpList_make_full _ rfl _ _ 22 rfl w.heap.size 5 i0 (.int .u8 0) 1 Tryz.underlying22 hi hz0 hz1 .i64 .i64 _ _ l.length rfl rfl rfl rfl (by rw [hz2]; omega) (by unfold maxLen; omega) (Nat.le_refl _) ?_; intro w1 hown hgrow)
    have hb1 : Below w.heap.size w w1 := (Below.refl _ _).grown hgrow (Nat.le_refl _) (by intro k hk; cases hk)
    go_loopw [4] (fun i wr => ∃ k : Nat, k ≤ l.length ∧ i = .int .i64 k ∧ wr.ownsRow w.heap.size 5 1 (.slice (some ⟨w.heap.size, 0, none⟩) l.length l.length) l.length ((l.take k).map cb ++ List.replicate (l.length - k) (Value.int .u8 0)) ∧ Below w.heap.size w wr)
      (fun i _ => l.length - (intOf i).toNat)
    case atStart =>
      refine ⟨0, Nat.zero_le _, rfl, ?_, hb1⟩
      have e : (madeCells (Value.int IntKind.u8 0).cells (l.length * 1)).toList = List.replicate l.length (Value.int .u8 0) := by
        rw [Nat.mul_one]; exact toList_madeCells_one _ _
      rw [e] at hown
      simpa using hown
    case round =>
      obtain ⟨k, hk, rfl, ho, hb⟩ := hrel
      clear hown hgrow hb1
      by_cases hlt : k < l.length
      · have hc : wr.cell? ⟨b, off + k, none⟩ = some (.int .u8 (l[k].toNat : Int)) := (hb.cell (p := ⟨b, off + k, none⟩) h3).trans (h4 k hlt)
        have hf := ho.frozenAt k
        have hd := ho.cellAt k (by omega)
        rw [List.getElem?_append_right (by simp; omega)] at hd
        simp [show min k l.length = k from by omega, show 0 < l.length - k from by omega] at hd
        have hst := (ho.stored k (cb l[k])).1
        rw [take_map_snoc l k hlt] at hst
        have Hst := hide hst
        clear hst
        have Hb := hide hb
        clear hb
        clear ho
        go_wp2
        go_roundw
        case rel => exact ⟨k + 1, by omega, by go_num, Hst.out, Hb.out.setCell (Nat.le_refl _) _⟩
        case measure => simp [intOf]; omega
      · have e : k = l.length := by omega
        subst e
        have ho' : OwnB w.heap.size wr (.slice (some ⟨w.heap.size, 0, none⟩) l.length l.length) l := by simpa [OwnB] using ho
        go_wp2
        go_ret
        exact ⟨_, rfl, ho', hb⟩

/-- Nothing has turned but the count of draws. -/
def Sm (w w' : World) : Prop := ∀ B, Below B w w'
theorem Sm.refl (w : World) : Sm w w := fun B => Below.refl B w
theorem Sm.trans {a b c : World} (h : Sm a b) (k : Sm b c) : Sm a c := fun B => (h B).trans (k B)
theorem Sm.drew {a b : World} (h : Sm a b) : Sm a b.drew := fun B => (h B).drew
theorem Sm.drewN {a b : World} (h : Sm a b) (n : Nat) : Sm a (b.drewN n) := fun B => below_drewN (h B) n
theorem Sm.cell {a b : World} (h : Sm a b) (p : Addr) : b.cell? p = a.cell? p := (h (p.block + 1)).cell (by omega)
theorem Sm.frozen {a b : World} (h : Sm a b) (p : Addr) : b.frozen? p = a.frozen? p := (h (p.block + 1)).frozen (by omega)

theorem RdB.shape {w : World} {v : Value} {l : List UInt8} (h : RdB w v l) : ∃ a cap, v = .slice a l.length cap := by
  rcases h with ⟨a, cap, rfl, rfl, -⟩ | ⟨b, off, cap, h0, rfl, _⟩
  · exact ⟨a, cap, rfl⟩
  · exact ⟨_, cap, rfl⟩

theorem u8_ne {a b : UInt8} (h : a ≠ b) : ((a.toNat : Int) != (b.toNat : Int)) = true := by
  rw [bne_iff_ne]; intro e; exact h (UInt8.toNat_inj.1 (by omega))
theorem u8_eq {a b : UInt8} (h : a = b) : ((a.toNat : Int) != (b.toNat : Int)) = false := by
  subst h; simp

theorem take_eq_snoc {α : Type} {l1 l2 : List α} {k : Nat} (h1 : k < l1.length) (h2 : k < l2.length) (h : l1.take k = l2.take k) (he : l1[k] = l2[k]) : l1.take (k + 1) = l2.take (k + 1) := by
  rw [List.take_succ_eq_append_getElem h1, List.take_succ_eq_append_getElem h2, h, he]

set_option maxHeartbeats 400000 in
theorem eqByteS_any (v1 v2 : Value) (l1 l2 : List UInt8) (w : World) (hr1 : RdB w v1 l1) (hr2 : RdB w v2 l2) (hl1 : l1.length ≤ 100000000) (hl2 : l2.length ≤ 100000000) :
    Calls Tryz.prog 10 #[v1, v2] w fun e w' => e = .returned (.bool (decide (l1 = l2))) ∧ Sm w w' := by
  by_cases hne : l1.length = l2.length
  · rcases hr1 with ⟨a, cap, rfl, rfl, -⟩ | ⟨b, off, cap, h0, rfl, h1, h2, h3, h4⟩
    · have e2 : l2 = [] := List.length_eq_zero_iff.1 (by simpa using hne.symm)
      subst e2
      obtain ⟨a2, cap2, rfl⟩ := hr2.shape
      clear hr2
      go_enter Tryz.func10, Tryz.ntmps10
      go_wp2
      refine wp_loop_rounds 1 ?_
      rw [rounds_succ]
      go_wp2
      go_ret
      exact ⟨rfl, Sm.refl _⟩
    · rcases hr2 with ⟨a2, cap2, rfl, rfl, -⟩ | ⟨b2, off2, cap2, g0, rfl, g1, g2, g3, g4⟩
      · exact absurd (List.length_eq_zero_iff.1 (by simpa using hne)) h0
      · have Hne := hide hne
        have hlen : ((l1.length : Int) != (l2.length : Int)) = false := by rw [hne]; simp
        have hle : l1.length ≤ l2.length := by omega
        have hge : l2.length ≤ l1.length := by omega
        clear hne
        go_enter Tryz.func10, Tryz.ntmps10
        go_wp2
        go_loopw [5] (fun i wr => ∃ k : Nat, k ≤ l1.length ∧ i = .int .i64 k ∧ l1.take k = l2.take k ∧ Sm w wr) (fun i _ => l1.length - (intOf i).toNat)
        case atStart => exact ⟨0, Nat.zero_le _, rfl, rfl, Sm.refl _⟩
        case round =>
          obtain ⟨k, hk, rfl, ht, hs⟩ := hrel
          have Ht := hide ht
          clear ht
          by_cases hlt : k < l1.length
          · have hlt2 : k < l2.length := by omega
            have hc1 : wr.cell? ⟨b, off + k, none⟩ = some (.int .u8 (l1[k].toNat : Int)) := (hs.cell _).trans (h4 k hlt)
            have hc2 : wr.cell? ⟨b2, off2 + k, none⟩ = some (.int .u8 (l2[k].toNat : Int)) := (hs.cell _).trans (g4 k hlt2)
            have hli : (k : Int) < (l1.length : Int) := by omega
            have hli2 : (k : Int) < (l2.length : Int) := by omega
            by_cases he : l1[k] = l2[k]
            · have hq := u8_eq he
              have He := hide he
              clear he
              go_wp2
              go_quiet (fail)
              go_wp2
              go_roundw
              case rel => exact ⟨k + 1, by omega, by go_num, take_eq_snoc hlt hlt2 Ht.out He.out, hs.drewN _⟩
              case measure => simp [intOf]; omega
            · have hq := u8_ne he
              have hf : Hid (decide (l1 = l2) = false) := hide (by rw [decide_eq_false]; intro e; subst e; exact he rfl)
              clear he
              go_wp2
              go_quiet (fail)
              go_wp2
              go_ret
              exact ⟨ret_bool hf.out.symm, hs.drewN _⟩
          · have hf : Hid (decide (l1 = l2) = true) := hide (by
              rw [decide_eq_true]
              have := Ht.out
              rwa [List.take_of_length_le (by omega), List.take_of_length_le (by omega)] at this)
            go_wp2
            go_ret
            exact ⟨ret_bool hf.out.symm, hs⟩
  · obtain ⟨a, cap, rfl⟩ := hr1.shape
    obtain ⟨a2, cap2, rfl⟩ := hr2.shape
    clear hr1 hr2
    have hlen : ((l1.length : Int) != (l2.length : Int)) = true := by rw [bne_iff_ne]; omega
    have hf : Hid (decide (l1 = l2) = false) := hide (by rw [decide_eq_false]; intro e; subst e; exact hne rfl)
    clear hne
    go_enter Tryz.func10, Tryz.ntmps10
    go_wp2
    go_ret
    exact ⟨ret_bool hf.out.symm, Sm.refl _⟩
end Go.Proofs.YtcmmdkabocfnfaaGreatDoor

namespace Go.Proofs.YtcmmdkabocfnfaaGreatDoor
open Go.RowKit
set_option linter.unusedVariables false

/-- What is told of a slice of integers that came in: it is nil, or it leads to a row of 'cap' cells, the numbers zs, each fitting its kind. -/
def IsRow (k : IntKind) (w : World) (a : Option Addr) (len cap : Nat) (zs : List Int) : Prop :=
  (a = none ∧ len = 0 ∧ cap = 0 ∧ zs = []) ∨
  ∃ x, a = some x ∧ len ≤ cap ∧ cap ≤ maxLen ∧ zs.length = cap ∧ (∀ i, i < zs.length → w.cell? (x.add i) = some (.int k (zs.getD i 0))) ∧ ∀ n ∈ zs, (Lit.int k n).wf = true

theorem wf_u8 {z : Int} (h : (Lit.int .u8 z).wf = true) : 0 ≤ z ∧ z ≤ 255 := bounds_u8 h
theorem wf_i64 {z : Int} (h : (Lit.int .i64 z).wf = true) : -9223372036854775808 ≤ z ∧ z ≤ 9223372036854775807 := bounds_i64 h

theorem IsRow.rd {w : World} {a : Option Addr} {len cap : Nat} {zs : List Int} (h : IsRow .u8 w a len cap zs) : ∃ l : List UInt8, len = l.length ∧ RdB w (.slice a len cap) l := by
  rcases h with ⟨rfl, rfl, rfl, rfl⟩ | ⟨x, rfl, hlc, hm, hz, hcell, hwf⟩
  · exact ⟨[], rfl, .inl ⟨_, _, rfl, rfl, fun h => by first | rfl | cases h⟩⟩
  · by_cases h0 : len = 0
    · subst h0; exact ⟨[], rfl, .inl ⟨_, _, rfl, rfl, fun h => by first | rfl | cases h⟩⟩
    · obtain ⟨b, off, spot⟩ := x
      have hc0 := hcell 0 (by omega)
      have hspot : spot = none := by simpa [Addr.add] using World.cell?_spot hc0
      subst hspot
      have hlen : ((zs.take len).map (fun z => UInt8.ofNat z.toNat)).length = len := by simp; omega
      refine ⟨(zs.take len).map (fun z => UInt8.ofNat z.toNat), hlen.symm, .inr ⟨b, off, cap, ?_, by rw [hlen], by omega, hm, ?_, ?_⟩⟩
      · intro e; rw [e] at hlen; simp at hlen; omega
      · have := World.block_lt_of_cell? w _ hc0; simpa [Addr.add] using this
      · intro i hi
        rw [hlen] at hi
        have hi' : i < zs.length := by omega
        have hc := hcell i hi'
        have hb := wf_u8 (hwf zs[i] (List.getElem_mem hi'))
        have hg : zs.getD i 0 = zs[i] := by simp [hi']
        rw [hg] at hc
        have hv : ((((zs.take len).map (fun z => UInt8.ofNat z.toNat))[i]'(by rw [hlen]; exact hi)).toNat : Int) = zs[i] := by
          simp only [List.getElem_map, List.getElem_take, UInt8.toNat_ofNat']
          omega
        rw [hv]
        have ea : (⟨b, off, none⟩ : Addr).add i = ⟨b, off + i, none⟩ := by
          by_cases hz : i = 0
          · subst hz; simp [Addr.add]
          · simp [Addr.add, hz]
        rwa [ea] at hc
end Go.Proofs.YtcmmdkabocfnfaaGreatDoor

namespace Go.Proofs.YtcmmdkabocfnfaaGreatDoor
open Go.RowKit
set_option linter.unusedVariables false

set_option maxRecDepth 20000 in
theorem big_any (v : Value) (l : List UInt8) (w : World) (hr : RdB w v l) (hl : l.length ≤ 9223372036854775807) :
    Calls Tryz.prog 14 #[v] w fun e w' => e = .returned (.bool (decide (1048576 < l.length))) ∧ w' = w := by
  obtain ⟨a, cap, rfl⟩ := hr.shape
  clear hr
  by_cases h : 1048576 < l.length
  · have hd := hide (decide_eq_true h)
    go_enter Tryz.func14, Tryz.ntmps14
    go_wp2
    go_ret
    exact ⟨ret_bool (by rw [hd.out]; simp; omega), rfl⟩
  · have hd := hide (decide_eq_false h)
    go_enter Tryz.func14, Tryz.ntmps14
    go_wp2
    go_ret
    exact ⟨ret_bool (by rw [hd.out]; simp; omega), rfl⟩

theorem OwnB.shape {base : Nat} {w : World} {v : Value} {l : List UInt8} (h : OwnB base w v l) (hl : l ≠ []) : ∃ g cap, v = .slice (some ⟨g, 0, none⟩) l.length cap ∧ l.length ≤ cap ∧ cap ≤ 9223372036854775807 := by
  rcases h.2 with ⟨hv, hn⟩ | ⟨g, cap, cur, hv, hb, hg, hnc, hcm, hcs, ht⟩
  · exact absurd (List.length_eq_zero_iff.1 hn) hl
  · exact ⟨g, cap, hv, hnc, by unfold maxLen at hcm; omega⟩

theorem RdB.cut {w : World} {g cap : Nat} {l : List UInt8} (h : RdB w (.slice (some ⟨g, 0, none⟩) l.length cap) l) (k : Nat) (hk : k ≤ l.length) : RdB w (.slice (some ⟨g, 0, none⟩) k cap) (l.take k) := by
  have hlen : (l.take k).length = k := by simp; omega
  rcases h with ⟨a, c, hv, rfl, hn⟩ | ⟨b, off, c, h0, hv, h1, h2, h3, h4⟩
  · have : k = 0 := by simpa using hk
    subst this
    exact .inl ⟨_, _, rfl, by simp, fun h => by cases h⟩
  · simp only [Value.slice.injEq, Option.some.injEq, Addr.mk.injEq, and_true, true_and] at hv
    obtain ⟨⟨rfl, rfl⟩, rfl⟩ := hv
    by_cases hk0 : k = 0
    · subst hk0; exact .inl ⟨_, _, rfl, by simp, fun h => by cases h⟩
    · refine .inr ⟨g, 0, cap, ?_, by rw [hlen], by omega, h2, h3, ?_⟩
      · intro e; rw [e] at hlen; simp at hlen; omega
      · intro i hi
        rw [h4 i (by omega)]
        simp
end Go.Proofs.YtcmmdkabocfnfaaGreatDoor

namespace Go.Proofs.YtcmmdkabocfnfaaGreatDoor
open Go.RowKit

theorem i64_and_nat (a b : Nat) (ha : a < 9223372036854775808) (hb : b < 9223372036854775808) : bits .and .i64 (a : Int) (b : Int) = ((a &&& b : Nat) : Int) := by
  have hx : a &&& b < 2 ^ 63 := Nat.and_lt_two_pow _ (by omega)
  show IntKind.i64.wrap ((BitVec.ofInt 64 (a : Int) &&& BitVec.ofInt 64 (b : Int)).toNat : Int) = _
  rw [BitVec.toNat_and, ofInt_u64 a (by omega), ofInt_u64 b (by omega), IntKind.wrap_i64]
  omega
theorem i64_or_nat (a b : Nat) (ha : a < 9223372036854775808) (hb : b < 9223372036854775808) : bits .or .i64 (a : Int) (b : Int) = ((a ||| b : Nat) : Int) := by
  have hx : a ||| b < 2 ^ 63 := Nat.or_lt_two_pow (by omega) (by omega)
  show IntKind.i64.wrap ((BitVec.ofInt 64 (a : Int) ||| BitVec.ofInt 64 (b : Int)).toNat : Int) = _
  rw [BitVec.toNat_or, ofInt_u64 a (by omega), ofInt_u64 b (by omega), IntKind.wrap_i64]
  omega
theorem and127 (a : Nat) (ha : a < 9223372036854775808) : bits .and .i64 (a : Int) 127 = ((a % 128 : Nat) : Int) := by
  have := i64_and_nat a 127 ha (by omega)
  rw [show ((127 : Nat) : Int) = 127 from rfl] at this
  rw [this, show (127 : Nat) = 2 ^ 7 - 1 from rfl, Nat.and_two_pow_sub_one_eq_mod]
theorem and1 (a : Nat) (ha : a < 9223372036854775808) : bits .and .i64 (a : Int) 1 = ((a % 2 : Nat) : Int) := by
  have := i64_and_nat a 1 ha (by omega)
  rw [show ((1 : Nat) : Int) = 1 from rfl] at this
  rw [this, show (1 : Nat) = 2 ^ 1 - 1 from rfl, Nat.and_two_pow_sub_one_eq_mod]
theorem or_high (a c i : Nat) (h : a < 2 ^ i) : a ||| c * 2 ^ i = a + c * 2 ^ i := by
  rw [← Nat.shiftLeft_eq, Nat.or_comm, ← Nat.shiftLeft_add_eq_or_of_lt h, Nat.add_comm]
theorem or128 (a : Nat) (ha : a < 128) : bits .or .i64 (a : Int) 128 = ((a + 128 : Nat) : Int) := by
  have := i64_or_nat a 128 (by omega) (by omega)
  rw [show ((128 : Nat) : Int) = 128 from rfl] at this
  rw [this]
  have h := or_high a 1 7 (by omega)
  simp at h
  rw [h]

/-- The groups of a number: what has been read, how many groups, and the last one. -/
def gr : Nat → List UInt8 → Nat → Nat → Option (Nat × Nat × Nat)
  | 0, _, _, _ => none
  | _ + 1, [], _, _ => none
  | f + 1, c :: t, m, k => if 128 ≤ c.toNat then gr f t (m + c.toNat % 128 * 128 ^ k) (k + 1) else some (m + c.toNat % 128 * 128 ^ k, k, c.toNat)

/-- What a place of these bytes reads as: 0, 0 and false, or the number, the place behind, and true. -/
def getN (l : List UInt8) (p : Int) : Int × Int × Bool :=
  if 0 ≤ p ∧ p < l.length then
    match gr 5 (l.drop p.toNat) 0 0 with
    | none => (0, 0, false)
    | some (m, k, c) => if (0 < k ∧ c = 0) ∨ 2000000000 < m then (0, 0, false) else ((if m % 2 = 1 then -((m : Int) / 2) - 1 else (m : Int) / 2), p + k + 1, true)
  else (0, 0, false)

theorem gr_step (f : Nat) (l : List UInt8) (q : Nat) (h : q < l.length) (m k : Nat) :
    gr (f + 1) (l.drop q) m k = if 128 ≤ l[q].toNat then gr f (l.drop (q + 1)) (m + l[q].toNat % 128 * 128 ^ k) (k + 1) else some (m + l[q].toNat % 128 * 128 ^ k, k, l[q].toNat) := by
  rw [List.drop_eq_getElem_cons h]; rfl
theorem gr_end (f : Nat) (l : List UInt8) (q : Nat) (h : l.length ≤ q) (m k : Nat) : gr f (l.drop q) m k = none := by
  rw [List.drop_of_length_le h]; cases f <;> rfl

theorem pow128 (k : Nat) : (128 : Nat) ^ k = 2 ^ (7 * k) := by
  rw [show (128 : Nat) = 2 ^ 7 from rfl, ← Nat.pow_mul]
theorem sum_lt (m k c : Nat) (h : m < 128 ^ k) (hc : c < 128) : m + c * 128 ^ k < 128 ^ (k + 1) := by
  have h1 : (c + 1) * 128 ^ k ≤ 128 * 128 ^ k := Nat.mul_le_mul_right _ (by omega)
  rw [Nat.add_mul] at h1
  rw [Nat.pow_succ]; omega
theorem pow128_le (k : Nat) (h : k ≤ 5) : 128 ^ k ≤ 34359738368 := by
  have : (128 : Nat) ^ k ≤ 128 ^ 5 := Nat.pow_le_pow_right (by omega) h
  simpa using this

theorem num_or (m k D E M : Nat) (h : m < 128 ^ k) (hD : D < 128) (hk : k < 5) (hE : D * 128 ^ k = E) (hM : m + E = M) :
    M < 34359738368 ∧ M < 128 ^ (k + 1) ∧ bits .or .i64 (m : Int) (E : Int) = (M : Int) ∧ wrap64 ((D : Int) * 2 ^ (7 * k)) = (E : Int) := by
  have h1 : M < 128 ^ (k + 1) := by have := sum_lt m k D h hD; rwa [hE, hM] at this
  have h2 : M < 34359738368 := by have := pow128_le (k + 1) (by omega); omega
  have hmE : m < 9223372036854775808 := by omega
  have hEE : E < 9223372036854775808 := by omega
  refine ⟨h2, h1, ?_, ?_⟩
  · rw [i64_or_nat m E hmE hEE, ← hM, ← hE, pow128, or_high m D (7 * k) (by rw [← pow128]; exact h)]
  · have e : ((D : Int) * 2 ^ (7 * k)) = ((D * 2 ^ (7 * k) : Nat) : Int) := by simp
    rw [e, ← pow128, hE]; clear e; unfold wrap64; omega

theorem num_mul (k D E : Nat) (u : Int) (hU : ((128 ^ k : Nat) : Int) = u) (hE : D * 128 ^ k = E) (h : E < 34359738368) : wrap64 ((D : Int) * u) = (E : Int) := by
  have e : ((D : Int) * u) = ((D * 128 ^ k : Nat) : Int) := by rw [← hU]; simp
  rw [e, hE]; clear e hE hU; unfold wrap64; omega

theorem getN_none (l : List UInt8) (q : Nat) (h : gr 5 (l.drop q) 0 0 = none) : getN l q = (0, 0, false) := by
  unfold getN; rw [Int.toNat_natCast, h]; split <;> rfl
theorem getN_bad (l : List UInt8) (q M k C : Nat) (h : gr 5 (l.drop q) 0 0 = some (M, k, C)) (hb : (0 < k ∧ C = 0) ∨ 2000000000 < M) : getN l q = (0, 0, false) := by
  unfold getN; rw [Int.toNat_natCast, h]; simp only [if_pos hb]; split <;> rfl
theorem getN_odd (l : List UInt8) (q M k C : Nat) (hq : q < l.length) (h : gr 5 (l.drop q) 0 0 = some (M, k, C)) (hb : ¬ ((0 < k ∧ C = 0) ∨ 2000000000 < M)) (hp : M % 2 = 1) : getN l q = (-((M : Int) / 2) - 1, (q : Int) + k + 1, true) := by
  unfold getN; rw [Int.toNat_natCast, h, if_pos (by omega)]; simp only [if_neg hb, if_pos hp]
theorem getN_even (l : List UInt8) (q M k C : Nat) (hq : q < l.length) (h : gr 5 (l.drop q) 0 0 = some (M, k, C)) (hb : ¬ ((0 < k ∧ C = 0) ∨ 2000000000 < M)) (hp : ¬ M % 2 = 1) : getN l q = ((M : Int) / 2, (q : Int) + k + 1, true) := by
  unfold getN; rw [Int.toNat_natCast, h, if_pos (by omega)]; simp only [if_neg hb, if_neg hp]

theorem gr_last (l : List UInt8) (q k m C M : Nat) (hk : k < 5) (hlt : q + k < l.length) (hg : gr 5 (l.drop q) 0 0 = gr (5 - k) (l.drop (q + k)) m k) (hC : l[q + k].toNat = C) (hM : m + C % 128 * 128 ^ k = M) (hb : ¬ 128 ≤ C) :
    gr 5 (l.drop q) 0 0 = some (M, k, C) := by
  have h := gr_step (4 - k) l (q + k) hlt m k
  rw [hC, hM, if_neg hb, show 4 - k + 1 = 5 - k from by omega] at h
  rw [hg, h]
theorem gr_next (l : List UInt8) (q k m C M : Nat) (hk : k < 5) (hlt : q + k < l.length) (hg : gr 5 (l.drop q) 0 0 = gr (5 - k) (l.drop (q + k)) m k) (hC : l[q + k].toNat = C) (hM : m + C % 128 * 128 ^ k = M) (hb : 128 ≤ C) :
    gr 5 (l.drop q) 0 0 = gr (5 - (k + 1)) (l.drop (q + (k + 1))) M (k + 1) := by
  have h := gr_step (4 - k) l (q + k) hlt m k
  rw [hC, hM, if_pos hb, show 4 - k + 1 = 5 - k from by omega] at h
  rw [hg, h, show 4 - k = 5 - (k + 1) from by omega, Nat.add_assoc]
end Go.Proofs.YtcmmdkabocfnfaaGreatDoor

namespace Go.Proofs.YtcmmdkabocfnfaaGreatDoor
open Go.RowKit
set_option linter.unusedVariables false

def foldN (n : Int) : Nat := if n < 0 then (2 * min (-n) 1000000000 - 1).toNat else (2 * min n 1000000000).toNat

def putG : Nat → Nat → List UInt8
  | 0, m => [UInt8.ofNat m]
  | f + 1, m => if m ≤ 127 then [UInt8.ofNat m] else UInt8.ofNat (m % 128 + 128) :: putG f (m / 128)

def numB (n : Int) : List UInt8 := putG 5 (foldN n)

theorem foldN_le (n : Int) : foldN n ≤ 2000000000 := by unfold foldN; split <;> omega
theorem putG_len : ∀ (f m : Nat), (putG f m).length ≤ f + 1 := by
  intro f
  induction f with
  | zero => intro m; simp [putG]
  | succ f ih =>
    intro m
    rw [putG]
    split
    · simp
    · have := ih (m / 128); simp only [List.length_cons]; omega
theorem numB_len (n : Int) : (numB n).length ≤ 6 := putG_len 5 _
theorem putG_last (f m : Nat) (h : m ≤ 127) : putG f m = [UInt8.ofNat m] := by
  cases f with
  | zero => rfl
  | succ f => rw [putG, if_pos h]
theorem putG_more (f m : Nat) (h : ¬ m ≤ 127) : putG (f + 1) m = UInt8.ofNat (m % 128 + 128) :: putG f (m / 128) := by rw [putG, if_neg h]

theorem byte_of (m : Nat) (h : m < 256) : (m : Int) = ((UInt8.ofNat m).toNat : Int) := by
  rw [UInt8.toNat_ofNat']; omega

theorem div_lt_pow (m f : Nat) (h : m < 128 ^ (f + 1 + 1)) : m / 128 < 128 ^ (f + 1) := by
  rw [Nat.pow_succ] at h
  exact Nat.div_lt_of_lt_mul (by rw [Nat.mul_comm]; exact h)

theorem fold_pow (M : Nat) (h : M ≤ 2000000000) : M < 128 ^ (5 + 1) := by
  have : (128 : Nat) ^ (5 + 1) = 4398046511104 := by decide
  omega

theorem rd_one (w : World) (x : Int) (c : UInt8) (h : x = (c.toNat : Int)) : RdB (w.alloc (.cells #[.int .u8 x] 5)) (.slice (some ⟨w.heap.size, 0, none⟩) 1 1) [c] := by
  refine .inr ⟨w.heap.size, 0, 1, by simp, rfl, by simp, by unfold maxLen; omega, by simp, ?_⟩
  intro i hi
  simp only [List.length_cons, List.length_nil] at hi
  have : i = 0 := by omega
  subst this
  simp [World.cell?_alloc_at, h]

theorem own_nil (w : World) (base : Nat) (h : base ≤ w.heap.size) : OwnB base (w.alloc (.cells #[] 5)) (.slice (some ⟨w.heap.size, 0, none⟩) 0 0) [] :=
  World.ownsRow_lit w #[] 0 h (by unfold maxLen; omega) (by simp)

theorem OwnB.alloc {base : Nat} {w : World} {v : Value} {l : List UInt8} (h : OwnB base w v l) (o : Obj) : OwnB base (w.alloc o) v l := World.ownsRow.alloc h o

theorem app_own {ops : Array Oper} {rest : List Oper} {o : Oper} {a : Act} {Q : Exit → Act → World → Prop} (w : World) (hgd : o.guard = none) (s x : Operand)
    (ho : o.op = .call { callee := .builtin .append, args := #[s, x], argTypes := #[22, 22] })
    (base : Nat) (v vx : Value) (l k : List UInt8) (hs : a.eval s = v) (hx : a.eval x = vx) (hown : OwnB base w v l) (hrd : RdB w vx k)
    (hlen : l.length + k.length ≤ 100000000) (hbase : base ≤ w.heap.size)
    (h : ∀ v' w', OwnB base w' v' (l ++ k) → Below base w w' → wpList Tryz.prog ops Q rest (a.put o.dst v') w') : wpList Tryz.prog ops Q (o :: rest) a w := by
  obtain ⟨i0, hi, hz0, hz1, hz2⟩ := info_parts Tryz.infoU8
  have hbel : ∀ w', w.grownBy w' v.ownBlock → Below base w w' := fun w' hg => (Below.refl _ _).grown hg hbase (fun k hk => (World.ownsRow.lt hown k hk).1)
  rcases hrd with ⟨ax, cap, rfl, rfl, hnil⟩ | ⟨b, off, cap, h0, rfl, h1, h2, h3, h4⟩
  · cases ax with
    | none =>
      have hc : cap = 0 := hnil rfl
      subst hc
      refine wpList_append_own_none hgd s x 22 ho base 5 i0 1 Tryz.underlying22 hi v l.length (l.map cb) hs hown hx ?_
      exact h v w (by simpa [OwnB] using hown) (Below.refl _ _)
    | some ad =>
      refine wpList_append_own w hgd s x 22 ho base 5 i0 (.int .u8 0) 1 1 Tryz.underlying22 hi hz0 hz1 hz2 rfl (by decide) v l.length (l.map cb) hs hown ad 0 cap [] hx rfl (by intro j u hj; simp at hj) (by intro u hu; simp at hu) (by unfold maxLen; simp at hlen; omega) (by simp at hlen; omega) hbase ?_
      intro v' w' ho' hg _
      exact h v' w' (by simpa [OwnB] using ho') (hbel w' hg)
  · refine wpList_append_own w hgd s x 22 ho base 5 i0 (.int .u8 0) 1 1 Tryz.underlying22 hi hz0 hz1 hz2 rfl (by decide) v l.length (l.map cb) hs hown ⟨b, off, none⟩ k.length cap (k.map cb) hx (by simp) ?_ ?_ (by unfold maxLen; omega) (by omega) hbase ?_
    · intro j u hj
      have hj' : j < k.length := by have := (List.getElem?_eq_some_iff.1 hj).1; simpa using this
      have ea : (⟨b, off, none⟩ : Addr).add j = ⟨b, off + j, none⟩ := by
        by_cases hz : j = 0
        · subst hz; simp [Addr.add]
        · simp [Addr.add, hz]
      rw [ea, h4 j hj']
      simp [hj', cb] at hj
      rw [← hj]
    · intro u hu
      obtain ⟨c, _, rfl⟩ := List.mem_map.1 hu
      rfl
    · intro v' w' ho' hg _
      exact h v' w' (by simpa [OwnB] using ho') (hbel w' hg)
end Go.Proofs.YtcmmdkabocfnfaaGreatDoor

namespace Go.Proofs.YtcmmdkabocfnfaaGreatDoor
open Go.RowKit
set_option linter.unusedVariables false

/-- A cursor at block g over the bytes 'code', which lie in the world w0 and have not turned since. -/
structure Cur (w0 w : World) (g : Nat) (cv : Value) (code : List UInt8) : Prop where
  rd : RdB w0 cv code
  bel : Below w0.heap.size w0 w
  le : w0.heap.size ≤ g
  blk : ∃ i h : Int, w.heap[g]? = some (.cells #[cv, .int .i64 i, .int .i64 h] 120 (0, 0)) ∧ 0 ≤ i ∧ i ≤ code.length ∧ -9223372036854775808 ≤ h ∧ h ≤ 9223372036854775807

def mulK (h : Int) : Int := wrap64 (h * 6364136223846793005)

theorem wrap64_bd (x : Int) : -9223372036854775808 ≤ wrap64 x ∧ wrap64 x ≤ 9223372036854775807 := by unfold wrap64; omega

theorem and255_bd (x : Int) : 0 ≤ bits .and .i64 x 255 ∧ bits .and .i64 x 255 ≤ 255 := by
  show 0 ≤ IntKind.i64.wrap ((BitVec.ofInt 64 x &&& BitVec.ofInt 64 255).toNat : Int) ∧ IntKind.i64.wrap ((BitVec.ofInt 64 x &&& BitVec.ofInt 64 255).toNat : Int) ≤ 255
  have h : (BitVec.ofInt 64 x &&& BitVec.ofInt 64 255).toNat ≤ 255 := by
    rw [BitVec.toNat_and]
    exact Nat.le_trans Nat.and_le_right (by decide)
  rw [IntKind.wrap_i64]
  omega

theorem cur_cells {w : World} {g : Nat} {a b c : Value} {t : TypeId} (h : w.heap[g]? = some (.cells #[a, b, c] t (0, 0))) :
    w.cell? ⟨g, 0, none⟩ = some a ∧ w.cell? ⟨g, 1, none⟩ = some b ∧ w.cell? ⟨g, 2, none⟩ = some c ∧ w.frozen? ⟨g, 0, none⟩ = false ∧ w.frozen? ⟨g, 1, none⟩ = false ∧ w.frozen? ⟨g, 2, none⟩ = false :=
  ⟨cell_of_row w g 0 _ t (0, 0) h, cell_of_row w g 1 _ t (0, 0) h, cell_of_row w g 2 _ t (0, 0) h, frozen_of_row w g 0 _ t h, frozen_of_row w g 1 _ t h, frozen_of_row w g 2 _ t h⟩

theorem cur_set {w : World} {g : Nat} {a b c : Value} {t : TypeId} (h : w.heap[g]? = some (.cells #[a, b, c] t (0, 0))) (u : Value) :
    ((w.setCell ⟨g, 2, none⟩ u).heap[g]? = some (.cells #[a, b, u] t (0, 0)) ∧ w.grownBy (w.setCell ⟨g, 2, none⟩ u) (some g)) ∧
    ((w.setCell ⟨g, 1, none⟩ u).heap[g]? = some (.cells #[a, u, c] t (0, 0)) ∧ w.grownBy (w.setCell ⟨g, 1, none⟩ u) (some g)) :=
  ⟨⟨heap_setCell_same w g 2 #[a, b, c] t u h, ⟨rfl, rfl, rfl, by simp, fun k _ hk => heap_setCell_other w ⟨g, 2, none⟩ k u (fun e => hk (by simp [e]))⟩⟩,
   ⟨heap_setCell_same w g 1 #[a, b, c] t u h, ⟨rfl, rfl, rfl, by simp, fun k _ hk => heap_setCell_other w ⟨g, 1, none⟩ k u (fun e => hk (by simp [e]))⟩⟩⟩

theorem grw_trans {a b c : World} {row : Option Nat} (h : a.grownBy b row) (k : b.grownBy c row) : a.grownBy c row :=
  ⟨k.os.trans h.os, k.tape.trans h.tape, k.output.trans h.output, Nat.le_trans h.size k.size, fun i hi hr => (k.block i (Nat.lt_of_lt_of_le hi h.size) hr).trans (h.block i hi hr)⟩
theorem grw_drewN {a b : World} {row : Option Nat} (h : a.grownBy b row) (n : Nat) : a.grownBy (b.drewN n) row := ⟨h.os, h.tape, h.output, h.size, h.block⟩

theorem Cur.step {w0 w w' : World} {g : Nat} {cv : Value} {code : List UInt8} (hc : Cur w0 w g cv code) (hg : w.grownBy w' (some g)) (i h : Int)
    (hb : w'.heap[g]? = some (.cells #[cv, .int .i64 i, .int .i64 h] 120 (0, 0))) (h1 : 0 ≤ i) (h2 : i ≤ code.length) (h3 : -9223372036854775808 ≤ h) (h4 : h ≤ 9223372036854775807) : Cur w0 w' g cv code :=
  ⟨hc.rd, hc.bel.grown hg hc.bel.size (fun k hk => by cases hk; exact hc.le), hc.le, ⟨i, h, hb, h1, h2, h3, h4⟩⟩

theorem Cur.byte {w0 w : World} {g b off cap : Nat} {code : List UInt8} (hbel : Below w0.heap.size w0 w) (hb : b < w0.heap.size) (j : Nat) {v : Value} (hc : w0.cell? ⟨b, off + j, none⟩ = some v) : w.cell? ⟨b, off + j, none⟩ = some v := (hbel.cell (p := ⟨b, off + j, none⟩) hb).trans hc

set_option maxRecDepth 20000 in
set_option maxHeartbeats 1000000 in
theorem l1Byte_any (w0 w : World) (g : Nat) (cv : Value) (code : List UInt8) (hc : Cur w0 w g cv code) (hl : code.length ≤ 1048576) :
    Calls Tryz.prog 99 #[.pointer (some ⟨g, 0, none⟩)] w fun e w' => ∃ x : Nat, e = .returned (.int .i64 (x : Int)) ∧ x ≤ 255 ∧ Cur w0 w' g cv code ∧ w.grownBy w' (some g) := by
  obtain ⟨i, h, hb, hi0, hi1, hh0, hh1⟩ := hc.blk
  obtain ⟨c0, c1, c2, f0, f1, f2⟩ := cur_cells hb
  have Hc := hide hc
  have Hb := hide hb
  clear hb
  have km : ∀ h : Int, wrap64 (h * 6364136223846793005) = mulK h := fun _ => rfl
  obtain ⟨I, rfl⟩ := Int.eq_ofNat_of_zero_le hi0
  obtain ⟨av, capv, hcv⟩ := hc.rd.shape
  have Hrd := hide hc.rd
  subst hcv
  clear hc
  go_enter Tryz.func99, Tryz.ntmps99
  go_wp2
  clear km
  generalize wrap64 (h * 6364136223846793005) = Y
  have hHb := wrap64_bd (mulK h + 1442695040888963407)
  generalize wrap64 (mulK h + 1442695040888963407) = H at hHb
  obtain ⟨hH0, hH1⟩ := hHb
  have hs := (cur_set Hb.out (.int .i64 H)).1
  generalize w.setCell ⟨g, 2, none⟩ (.int .i64 H) = w1 at hs
  obtain ⟨hb1, hg1⟩ := hs
  clear c0 c1 c2 f0 f1 f2
  obtain ⟨c0, c1, c2, f0, f1, f2⟩ := cur_cells hb1
  have Hb1 := hide hb1
  have Hg1 := hide hg1
  clear hb1 hg1
  go_quiet (fail)
  go_wp2
  have hX := and255_bd (bits BinOp.xor IntKind.i64 (H / 8589934592) (H / 140737488355328))
  generalize bits BinOp.and IntKind.i64 (bits BinOp.xor IntKind.i64 (H / 8589934592) (H / 140737488355328)) 255 = X at hX
  obtain ⟨hX0, hX1⟩ := hX
  obtain ⟨x, rfl⟩ := Int.eq_ofNat_of_zero_le hX0
  have hx : x ≤ 255 := by omega
  clear hX0 hX1
  by_cases hI : I < code.length
  · rcases Hrd.out with ⟨_, _, _, e, _⟩ | ⟨b, off, cap, h0, hv, h1, h2, h3, h4⟩
    · rw [e] at hI; simp at hI
    · cases hv
      have hc4 : w1.cell? ⟨b, off + I, none⟩ = some (.int .u8 (code[I].toNat : Int)) := Cur.byte (g := g) (cap := capv) (code := code) (Hc.out.step Hg1.out _ _ Hb1.out (by omega) (by omega) hH0 hH1).bel h3 I (h4 I hI)
      have hcb : (code[I].toNat : Int) < 256 := by have := code[I].toNat_lt; omega
      generalize code[I].toNat = C at hc4 hcb
      have hlt : (I : Int) < (code.length : Int) := by omega
      clear h4 h0 h1 h2 h3
      go_quiet (fail)
      go_wp2
      go_quiet (fail)
      go_wp2
      have hY := and255_bd ((x : Int) + (C : Int))
      obtain ⟨y, hy⟩ := Int.eq_ofNat_of_zero_le hY.1
      have hs2 := (cur_set Hb1.out (.int .i64 ((I : Int) + 1))).2
      go_ret
      refine ⟨y, ret_int hy, by omega, Hc.out.step (grw_trans Hg1.out (grw_drewN hs2.2 _)) ((I : Int) + 1) H hs2.1 (by omega) (by omega) hH0 hH1, grw_trans Hg1.out (grw_drewN hs2.2 _)⟩
  · have hd : ¬ (I : Int) < (code.length : Int) := by omega
    go_quiet (fail)
    go_wp2
    go_ret
    exact ⟨x, rfl, hx, Hc.out.step (grw_drewN Hg1.out _) _ _ Hb1.out (by omega) (by omega) hH0 hH1, grw_drewN Hg1.out _⟩

theorem Cur.below {B : Nat} {w0 w w' : World} {g : Nat} {cv : Value} {code : List UInt8} (hc : Cur w0 w g cv code) (hb : Below B w w') (hg : g < B) : Cur w0 w' g cv code := by
  obtain ⟨i, h, hbk, r⟩ := hc.blk
  exact ⟨hc.rd, hc.bel.trans (hb.mono (by have := hc.le; omega)), hc.le, ⟨i, h, by rw [hb.block g hg]; exact hbk, r⟩⟩
theorem Cur.lt {w0 w : World} {g : Nat} {cv : Value} {code : List UInt8} (hc : Cur w0 w g cv code) : g < w.heap.size := by
  obtain ⟨i, h, hbk, r⟩ := hc.blk
  exact (Array.getElem?_eq_some_iff.1 hbk).1
theorem Cur.drewN {w0 w : World} {g : Nat} {cv : Value} {code : List UInt8} (hc : Cur w0 w g cv code) (n : Nat) : Cur w0 (w.drewN n) g cv code :=
  hc.below (B := g + 1) (below_drewN (Below.refl _ _) n) (by omega)

theorem grw_below {B : Nat} {a b c : World} {row : Option Nat} (h : a.grownBy b row) (k : Below B b c) (hB : a.heap.size ≤ B) : a.grownBy c row :=
  ⟨k.os.trans h.os, k.tape.trans h.tape, k.output.trans h.output, Nat.le_trans h.size k.size, fun i hi hr => (k.block i (by omega)).trans (h.block i hi hr)⟩
theorem grw_of_below {B : Nat} {a b : World} (row : Option Nat) (k : Below B a b) (hB : a.heap.size ≤ B) : a.grownBy b row :=
  ⟨k.os, k.tape, k.output, k.size, fun i hi _ => k.block i (by omega)⟩
theorem below_grw {B g : Nat} {a b : World} (h : a.grownBy b (some g)) (hB : B ≤ g) (hs : B ≤ a.heap.size) : Below B a b :=
  (Below.refl _ _).grown h hs (fun k hk => by cases hk; exact hB)

set_option maxRecDepth 20000 in
set_option maxHeartbeats 1000000 in
theorem l1Below_any (w0 w : World) (g : Nat) (cv : Value) (code : List UInt8) (n : Int) (hc : Cur w0 w g cv code) (hl : code.length ≤ 1048576) (h1 : -9223372036854775808 ≤ n) (h2 : n ≤ 9223372036854775807) :
    Calls Tryz.prog 44 #[.pointer (some ⟨g, 0, none⟩), .int .i64 n] w fun e w' => ∃ x : Nat, e = .returned (.int .i64 (x : Int)) ∧ (0 < n → (x : Int) < n) ∧ (n ≤ 0 → x = 0) ∧ Cur w0 w' g cv code ∧ w.grownBy w' (some g) := by
  have Hc := hide hc
  clear hc
  by_cases hn : n ≤ 0
  · go_enter Tryz.func44, Tryz.ntmps44
    go_wp2
    go_ret
    exact ⟨0, rfl, fun h => by omega, fun _ => rfl, Hc.out, World.grownBy.refl _ _⟩
  · by_cases hn2 : n ≤ 256
    · have hn0 : (n == 0) = false := by rw [beq_eq_false_iff_ne]; omega
      go_enter Tryz.func44, Tryz.ntmps44
      go_wp2_with fail
      refine (l1Byte_any _ _ _ _ _ Hc.out hl).mono ?_
      rintro e w1 ⟨x, rfl, hx, hc1, hg1⟩
      have hm := Int.emod_nonneg (x : Int) (show n ≠ 0 from by omega)
      have hm2 := Int.emod_lt_of_pos (x : Int) (show 0 < n from by omega)
      go_wp2
      go_ret
      obtain ⟨y, hy⟩ := Int.eq_ofNat_of_zero_le hm
      exact ⟨y, ret_int hy, fun _ => by omega, fun h => by omega, hc1, hg1⟩
    · have hn0 : (n == 0) = false := by rw [beq_eq_false_iff_ne]; omega
      go_enter Tryz.func44, Tryz.ntmps44
      go_wp2_with fail
      refine (l1Byte_any _ _ _ _ _ Hc.out hl).mono ?_
      rintro e w1 ⟨x, rfl, hx, hc1, hg1⟩
      go_wp2_with fail
      refine (l1Byte_any _ _ _ _ _ hc1 hl).mono ?_
      rintro e w2 ⟨y, rfl, hy, hc2, hg2⟩
      go_wp2_with fail
      refine (l1Byte_any _ _ _ _ _ hc2 hl).mono ?_
      rintro e w3 ⟨z, rfl, hz, hc3, hg3⟩
      have hs0 : 0 ≤ (x : Int) * 65536 + (y : Int) * 256 + (z : Int) := by omega
      have hm := Int.emod_nonneg ((x : Int) * 65536 + (y : Int) * 256 + (z : Int)) (show n ≠ 0 from by omega)
      have hm2 := Int.emod_lt_of_pos ((x : Int) * 65536 + (y : Int) * 256 + (z : Int)) (show 0 < n from by omega)
      go_wp2
      go_ret
      obtain ⟨r, hr⟩ := Int.eq_ofNat_of_zero_le hm
      exact ⟨r, ret_int hr, fun _ => by omega, fun h => by omega, hc3, grw_trans (grw_trans hg1 hg2) hg3⟩

/-- The numbers ns lie at the head of block b. -/
def IntsAt (w : World) (b : Nat) (ns : List Int) : Prop := b < w.heap.size ∧ ∀ j (h : j < ns.length), w.cell? ⟨b, j, none⟩ = some (.int .i64 ns[j])
theorem ints_new (w : World) (ns : List Int) (t : TypeId) : IntsAt (w.alloc (.cells (ns.map (Value.int .i64)).toArray t)) w.heap.size ns := by
  refine ⟨by simp, fun j hj => ?_⟩
  rw [World.cell?_alloc_at _ _ _ _ rfl]
  simp [hj]
theorem IntsAt.grw {w w' : World} {b g : Nat} {ns : List Int} (h : IntsAt w b ns) (hg : w.grownBy w' (some g)) (hne : b ≠ g) : IntsAt w' b ns :=
  ⟨by have := hg.size; have := h.1; omega, fun j hj => hg.cell (a := ⟨b, j, none⟩) (h.2 j hj) (by simp [hne])⟩

set_option maxRecDepth 20000 in
theorem l1Int_any (w0 w : World) (g b : Nat) (cv : Value) (code : List UInt8) (ns : List Int) (hc : Cur w0 w g cv code) (hl : code.length ≤ 1048576) (hi : IntsAt w b ns) (hne : b ≠ g) (hn : 0 < ns.length) (hn2 : ns.length ≤ 1000) (cap : Nat) :
    Calls Tryz.prog 45 #[.pointer (some ⟨g, 0, none⟩), .slice (some ⟨b, 0, none⟩) ns.length cap] w fun e w' => ∃ n : Int, e = .returned (.int .i64 n) ∧ n ∈ ns ∧ Cur w0 w' g cv code ∧ w.grownBy w' (some g) := by
  have Hc := hide hc
  have Hi := hide hi
  clear hc hi
  go_enter Tryz.func45, Tryz.ntmps45
  go_wp2_with fail
  refine (l1Below_any _ _ _ _ _ _ Hc.out hl (by omega) (by omega)).mono ?_
  rintro e w1 ⟨x, rfl, hx1, hx2, hc1, hg1⟩
  have hxl : x < ns.length := by have := hx1 (by omega); omega
  have hcell := (Hi.out.grw hg1 hne).2 x hxl
  have hmem := hide (List.getElem_mem hxl)
  generalize ns[x] = n at hcell hmem
  clear hx1 hx2
  go_wp2
  go_ret
  exact ⟨n, rfl, hmem.out, hc1, hg1⟩


end Go.Proofs.YtcmmdkabocfnfaaGreatDoor
