/- Bytes in memory: what a slice of bytes reads as, what a call owns, and the laws' own helpers over them. A slice of bytes that came in reads as bytes. The laws' marks: bytes of the call's own are written over one by one, and found again; nothing else turns. Texts in memory: what a slice of texts reads as, what a call owns of them. The laws' own helpers over texts: how much there is of them, a copy, and whether two are the same. -/
import Derived.Test.YtcmmdkabocfnfaaGreatDoorRows
import Derived.WalkKit
import Derived.ProofKit
import Derived.WalkSpells
import Derived.WalkLawsBesides
import Derived.Outline
import Derived.Deep.QuietTactic
import Derived.BigQuiet
import Derived.OpenShut
namespace Go.Proofs.YtcmmdkabocfnfaaGreatDoor
open Go.RowKit
set_option linter.unusedVariables false

theorem hide {p : Prop} (h : p) : Hid p := h
theorem ret_bool {a b : Bool} (h : a = b) : Ending.returned (.bool a) = .returned (.bool b) := by rw [h]
theorem ret_int {k : IntKind} {a b : Int} (h : a = b) : Ending.returned (.int k a) = .returned (.int k b) := by rw [h]

def cb (c : UInt8) : Value := .int .u8 (c.toNat : Int)

/-- The value v is a slice that reads as the bytes l. -/
def RdB (w : World) (v : Value) (l : List UInt8) : Prop :=
  (∃ a cap, v = .slice a 0 cap ∧ l = [] ∧ (a = none → cap = 0)) ∨
  ∃ b off cap, l ≠ [] ∧ v = .slice (some ⟨b, off, none⟩) l.length cap ∧ l.length ≤ cap ∧ cap ≤ maxLen ∧ b < w.heap.size ∧ ∀ i (h : i < l.length), w.cell? ⟨b, off + i, none⟩ = some (.int .u8 (l[i].toNat : Int))

/-- The value v is a slice of the call's own, from block 'base' on, that reads as the bytes l. -/
def OwnB (base : Nat) (w : World) (v : Value) (l : List UInt8) : Prop := w.ownsRow base 5 1 v l.length (l.map cb)

theorem OwnB.rd {base : Nat} {w : World} {v : Value} {l : List UInt8} (h : OwnB base w v l) : RdB w v l := by
  rcases h.2 with ⟨hv, hn⟩ | ⟨g, cap, cur, hv, hb, hg, hnc, hcm, hcs, ht⟩
  · exact .inl ⟨none, 0, hv, List.length_eq_zero_iff.1 hn, fun _ => rfl⟩
  · by_cases hl : l = []
    · subst hl; exact .inl ⟨_, _, hv, rfl, fun h => by cases h⟩
    · refine .inr ⟨g, 0, cap, hl, hv, hnc, hcm, ?_, ?_⟩
      · exact (Array.getElem?_eq_some_iff.1 hg).1
      · intro i hi
        have h' : w.ownsRow base 5 1 (.slice (some ⟨g, 0, none⟩) l.length cap) l.length (l.map cb) := hv ▸ h
        rw [show 0 + i = i from by omega, h'.cellAt i (by omega)]
        simp [hi, cb]

theorem RdB.below {B : Nat} {w w' : World} {v : Value} {l : List UInt8} (h : RdB w v l) (hb : Below B w w') (hB : w.heap.size ≤ B) : RdB w' v l := by
  rcases h with h | ⟨b, off, cap, h0, hv, h1, h2, h3, h4⟩
  · exact .inl h
  · exact .inr ⟨b, off, cap, h0, hv, h1, h2, by have := hb.size; omega, fun i hi => (hb.cell (p := ⟨b, off + i, none⟩) (by show b < B; omega)).trans (h4 i hi)⟩

theorem OwnB.below {B base : Nat} {w w' : World} {v : Value} {l : List UInt8} (h : OwnB base w v l) (hb : Below B w w') (hB : w.heap.size ≤ B) : OwnB base w' v l := by
  refine ⟨h.1, ?_⟩
  rcases h.2 with h' | ⟨g, cap, cur, hv, hbb, hg, r⟩
  · exact .inl h'
  · refine .inr ⟨g, cap, cur, hv, hbb, ?_, r⟩
    have hlt : g < w.heap.size := (Array.getElem?_eq_some_iff.1 hg).1
    rw [hb.block g (by omega)]; exact hg

theorem OwnB.mono {base base' : Nat} {w : World} {v : Value} {l : List UInt8} (h : OwnB base w v l) (hB : base' ≤ base) : OwnB base' w v l := by
  refine ⟨h.1, ?_⟩
  rcases h.2 with h' | ⟨g, cap, cur, hv, hbb, r⟩
  · exact .inl h'
  · exact .inr ⟨g, cap, cur, hv, by omega, r⟩

theorem Tryz.infoU8 : (Tryz.prog.info? 5).map (fun i => (i.zero, i.size, i.bytes)) = some (some (.int .u8 0), 1, 1) := by kernel_rfl

theorem take_map_snoc (l : List UInt8) (k : Nat) (h : k < l.length) : ((l.take k).map cb ++ List.replicate (l.length - k) (Value.int .u8 0)).set k (cb l[k]) = (l.take (k + 1)).map cb ++ List.replicate (l.length - (k + 1)) (Value.int .u8 0) := by
  apply List.ext_getElem?
  intro j
  rw [List.getElem?_set]
  by_cases hj : k = j
  · subst hj
    rw [if_pos rfl, if_pos (by simp; omega), List.getElem?_append_left (by simp; omega)]
    simp [h]
  · rw [if_neg hj]
    by_cases hlt : j < k
    · rw [List.getElem?_append_left (by simp; omega), List.getElem?_append_left (by simp; omega)]
      simp [hlt, show j < k + 1 from by omega]
    · rw [List.getElem?_append_right (by simp; omega), List.getElem?_append_right (by simp; omega)]
      simp only [List.length_map, List.length_take, List.getElem?_replicate]
      rw [show min k l.length = k from by omega, show min (k + 1) l.length = k + 1 from by omega]
      by_cases hb : j < l.length
      · rw [if_pos (by omega), if_pos (by omega)]
      · rw [if_neg (by omega), if_neg (by omega)]

set_option maxHeartbeats 400000 in
theorem toByteS_any (v : Value) (l : List UInt8) (w : World) (hr : RdB w v l) (hl : l.length ≤ 4000000) :
    Calls Tryz.prog 7 #[v] w fun e w' => ∃ v', e = .returned v' ∧ OwnB w.heap.size w' v' l ∧ Below w.heap.size w w' := by
  obtain ⟨i0, hi, hz0, hz1, hz2⟩ := info_parts Tryz.infoU8
  rcases hr with ⟨a, cap, rfl, rfl, -⟩ | ⟨b, off, cap, h0, rfl, h1, h2, h3, h4⟩
  · go_enter Tryz.func7, Tryz.ntmps7
    go_wp2_with (refine wpList_make_full _ rfl _ _ 22 rfl w.heap.size 5 i0 (.int .u8 0) 1 Tryz.underlying22 hi hz0 hz1 .i64 .i64 _ _ 0 rfl rfl rfl rfl (by omega) (by unfold maxLen; omega) (Nat.le_refl _) ?_; intro w1 hown hgrow)
    have hb1 : Below w.heap.size w w1 := (Below.refl _ _).grown hgrow (Nat.le_refl _) (by intro k hk; cases hk)
    refine wp_loop_rounds 1 ?_
    rw [rounds_succ]
    go_wp2
    go_ret
    have ho' : OwnB w.heap.size w1 (.slice (some ⟨w.heap.size, 0, none⟩) 0 0) [] := by
      rw [show (madeCells (Value.int IntKind.u8 0).cells (0 * 1)).toList = [] from toList_madeCells_one _ _] at hown
      exact hown
    exact ⟨_, rfl, ho', hb1⟩
  · go_enter Tryz.func7, Tryz.ntmps7
    go_wp2_with (refine wpList_make_full _ rfl _ _ 22 rfl w.heap.size 5 i0 (.int .u8 0) 1 Tryz.underlying22 hi hz0 hz1 .i64 .i64 _ _ l.length rfl rfl rfl rfl (by rw [hz2]; omega) (by unfold maxLen; omega) (Nat.le_refl _) ?_; intro w1 hown hgrow)
    have hb1 : Below w.heap.size w w1 := (Below.refl _ _).grown hgrow (Nat.le_refl _) (by intro k hk; cases hk)
    go_loopw [4] (fun i wr => ∃ k : Nat, k ≤ l.length ∧ i = .int .i64 k ∧ wr.ownsRow w.heap.size 5 1 (.slice (some ⟨w.heap.size, 0, none⟩) l.length l.length) l.length ((l.take k).map cb ++ List.replicate (l.length - k) (Value.int .u8 0)) ∧ Below w.heap.size w wr)
      (fun i _ => l.length - (intOf i).toNat)
    case atStart =>
      refine ⟨0, Nat.zero_le _, rfl, ?_, hb1⟩
      have e : (madeCells (Value.int IntKind.u8 0).cells (l.length * 1)).toList = List.replicate l.length (Value.int .u8 0) := by
        rw [Nat.mul_one]; exact toList_madeCells_one _ _
      rw [e] at hown
      simpa using hown
    case round =>
      obtain ⟨k, hk, rfl, ho, hb⟩ := hrel
      clear hown hgrow hb1
      by_cases hlt : k < l.length
      · have hc : wr.cell? ⟨b, off + k, none⟩ = some (.int .u8 (l[k].toNat : Int)) := (hb.cell (p := ⟨b, off + k, none⟩) h3).trans (h4 k hlt)
        have hf := ho.frozenAt k
        have hd := ho.cellAt k (by omega)
        rw [List.getElem?_append_right (by simp; omega)] at hd
        simp [show min k l.length = k from by omega, show 0 < l.length - k from by omega] at hd
        have hst := (ho.stored k (cb l[k])).1
        rw [take_map_snoc l k hlt] at hst
        have Hst := hide hst
        clear hst
        have Hb := hide hb
        clear hb
        clear ho
        go_wp2
        go_roundw
        case rel => exact ⟨k + 1, by omega, by go_num, Hst.out, Hb.out.setCell (Nat.le_refl _) _⟩
        case measure => simp [intOf]; omega
      · have e : k = l.length := by omega
        subst e
        have ho' : OwnB w.heap.size wr (.slice (some ⟨w.heap.size, 0, none⟩) l.length l.length) l := by simpa [OwnB] using ho
        go_wp2
        go_ret
        exact ⟨_, rfl, ho', hb⟩

/-- Nothing has turned but the count of draws. -/
def Sm (w w' : World) : Prop := ∀ B, Below B w w'
theorem Sm.refl (w : World) : Sm w w := fun B => Below.refl B w
theorem Sm.trans {a b c : World} (h : Sm a b) (k : Sm b c) : Sm a c := fun B => (h B).trans (k B)
theorem Sm.drew {a b : World} (h : Sm a b) : Sm a b.drew := fun B => (h B).drew
theorem Sm.drewN {a b : World} (h : Sm a b) (n : Nat) : Sm a (b.drewN n) := fun B => below_drewN (h B) n
theorem Sm.cell {a b : World} (h : Sm a b) (p : Addr) : b.cell? p = a.cell? p := (h (p.block + 1)).cell (by omega)
theorem Sm.frozen {a b : World} (h : Sm a b) (p : Addr) : b.frozen? p = a.frozen? p := (h (p.block + 1)).frozen (by omega)

theorem RdB.shape {w : World} {v : Value} {l : List UInt8} (h : RdB w v l) : ∃ a cap, v = .slice a l.length cap := by
  rcases h with ⟨a, cap, rfl, rfl, -⟩ | ⟨b, off, cap, h0, rfl, _⟩
  · exact ⟨a, cap, rfl⟩
  · exact ⟨_, cap, rfl⟩

theorem u8_ne {a b : UInt8} (h : a ≠ b) : ((a.toNat : Int) != (b.toNat : Int)) = true := by
  rw [bne_iff_ne]; intro e; exact h (UInt8.toNat_inj.1 (by omega))
theorem u8_eq {a b : UInt8} (h : a = b) : ((a.toNat : Int) != (b.toNat : Int)) = false := by
  subst h; simp

theorem take_eq_snoc {α : Type} {l1 l2 : List α} {k : Nat} (h1 : k < l1.length) (h2 : k < l2.length) (h : l1.take k = l2.take k) (he : l1[k] = l2[k]) : l1.take (k + 1) = l2.take (k + 1) := by
  rw [List.take_succ_eq_append_getElem h1, List.take_succ_eq_append_getElem h2, h, he]

set_option maxHeartbeats 400000 in
theorem eqByteS_any (v1 v2 : Value) (l1 l2 : List UInt8) (w : World) (hr1 : RdB w v1 l1) (hr2 : RdB w v2 l2) (hl1 : l1.length ≤ 100000000) (hl2 : l2.length ≤ 100000000) :
    Calls Tryz.prog 10 #[v1, v2] w fun e w' => e = .returned (.bool (decide (l1 = l2))) ∧ Sm w w' := by
  by_cases hne : l1.length = l2.length
  · rcases hr1 with ⟨a, cap, rfl, rfl, -⟩ | ⟨b, off, cap, h0, rfl, h1, h2, h3, h4⟩
    · have e2 : l2 = [] := List.length_eq_zero_iff.1 (by simpa using hne.symm)
      subst e2
      obtain ⟨a2, cap2, rfl⟩ := hr2.shape
      clear hr2
      go_enter Tryz.func10, Tryz.ntmps10
      go_wp2
      refine wp_loop_rounds 1 ?_
      rw [rounds_succ]
      go_wp2
      go_ret
      exact ⟨rfl, Sm.refl _⟩
    · rcases hr2 with ⟨a2, cap2, rfl, rfl, -⟩ | ⟨b2, off2, cap2, g0, rfl, g1, g2, g3, g4⟩
      · exact absurd (List.length_eq_zero_iff.1 (by simpa using hne)) h0
      · have Hne := hide hne
        have hlen : ((l1.length : Int) != (l2.length : Int)) = false := by rw [hne]; simp
        have hle : l1.length ≤ l2.length := by omega
        have hge : l2.length ≤ l1.length := by omega
        clear hne
        go_enter Tryz.func10, Tryz.ntmps10
        go_wp2
        go_loopw [5] (fun i wr => ∃ k : Nat, k ≤ l1.length ∧ i = .int .i64 k ∧ l1.take k = l2.take k ∧ Sm w wr) (fun i _ => l1.length - (intOf i).toNat)
        case atStart => exact ⟨0, Nat.zero_le _, rfl, rfl, Sm.refl _⟩
        case round =>
          obtain ⟨k, hk, rfl, ht, hs⟩ := hrel
          have Ht := hide ht
          clear ht
          by_cases hlt : k < l1.length
          · have hlt2 : k < l2.length := by omega
            have hc1 : wr.cell? ⟨b, off + k, none⟩ = some (.int .u8 (l1[k].toNat : Int)) := (hs.cell _).trans (h4 k hlt)
            have hc2 : wr.cell? ⟨b2, off2 + k, none⟩ = some (.int .u8 (l2[k].toNat : Int)) := (hs.cell _).trans (g4 k hlt2)
            have hli : (k : Int) < (l1.length : Int) := by omega
            have hli2 : (k : Int) < (l2.length : Int) := by omega
            by_cases he : l1[k] = l2[k]
            · have hq := u8_eq he
              have He := hide he
              clear he
              go_wp2
              go_quiet (fail)
              go_wp2
              go_roundw
              case rel => exact ⟨k + 1, by omega, by go_num, take_eq_snoc hlt hlt2 Ht.out He.out, hs.drewN _⟩
              case measure => simp [intOf]; omega
            · have hq := u8_ne he
              have hf : Hid (decide (l1 = l2) = false) := hide (by rw [decide_eq_false]; intro e; subst e; exact he rfl)
              clear he
              go_wp2
              go_quiet (fail)
              go_wp2
              go_ret
              exact ⟨ret_bool hf.out.symm, hs.drewN _⟩
          · have hf : Hid (decide (l1 = l2) = true) := hide (by
              rw [decide_eq_true]
              have := Ht.out
              rwa [List.take_of_length_le (by omega), List.take_of_length_le (by omega)] at this)
            go_wp2
            go_ret
            exact ⟨ret_bool hf.out.symm, hs⟩
  · obtain ⟨a, cap, rfl⟩ := hr1.shape
    obtain ⟨a2, cap2, rfl⟩ := hr2.shape
    clear hr1 hr2
    have hlen : ((l1.length : Int) != (l2.length : Int)) = true := by rw [bne_iff_ne]; omega
    have hf : Hid (decide (l1 = l2) = false) := hide (by rw [decide_eq_false]; intro e; subst e; exact hne rfl)
    clear hne
    go_enter Tryz.func10, Tryz.ntmps10
    go_wp2
    go_ret
    exact ⟨ret_bool hf.out.symm, Sm.refl _⟩
end Go.Proofs.YtcmmdkabocfnfaaGreatDoor

namespace Go.Proofs.YtcmmdkabocfnfaaGreatDoor
open Go.RowKit
set_option linter.unusedVariables false

/-- What is told of a slice of integers that came in: it is nil, or it leads to a row of 'cap' cells, the numbers zs, each fitting its kind. -/
def IsRow (k : IntKind) (w : World) (a : Option Addr) (len cap : Nat) (zs : List Int) : Prop :=
  (a = none ∧ len = 0 ∧ cap = 0 ∧ zs = []) ∨
  ∃ x, a = some x ∧ len ≤ cap ∧ cap ≤ maxLen ∧ zs.length = cap ∧ (∀ i, i < zs.length → w.cell? (x.add i) = some (.int k (zs.getD i 0))) ∧ ∀ n ∈ zs, (Lit.int k n).wf = true

theorem wf_u8 {z : Int} (h : (Lit.int .u8 z).wf = true) : 0 ≤ z ∧ z ≤ 255 := bounds_u8 h
theorem wf_i64 {z : Int} (h : (Lit.int .i64 z).wf = true) : -9223372036854775808 ≤ z ∧ z ≤ 9223372036854775807 := bounds_i64 h

theorem IsRow.rd {w : World} {a : Option Addr} {len cap : Nat} {zs : List Int} (h : IsRow .u8 w a len cap zs) : ∃ l : List UInt8, len = l.length ∧ RdB w (.slice a len cap) l := by
  rcases h with ⟨rfl, rfl, rfl, rfl⟩ | ⟨x, rfl, hlc, hm, hz, hcell, hwf⟩
  · exact ⟨[], rfl, .inl ⟨_, _, rfl, rfl, fun h => by first | rfl | cases h⟩⟩
  · by_cases h0 : len = 0
    · subst h0; exact ⟨[], rfl, .inl ⟨_, _, rfl, rfl, fun h => by first | rfl | cases h⟩⟩
    · obtain ⟨b, off, spot⟩ := x
      have hc0 := hcell 0 (by omega)
      have hspot : spot = none := by simpa [Addr.add] using World.cell?_spot hc0
      subst hspot
      have hlen : ((zs.take len).map (fun z => UInt8.ofNat z.toNat)).length = len := by simp; omega
      refine ⟨(zs.take len).map (fun z => UInt8.ofNat z.toNat), hlen.symm, .inr ⟨b, off, cap, ?_, by rw [hlen], by omega, hm, ?_, ?_⟩⟩
      · intro e; rw [e] at hlen; simp at hlen; omega
      · have := World.block_lt_of_cell? w _ hc0; simpa [Addr.add] using this
      · intro i hi
        rw [hlen] at hi
        have hi' : i < zs.length := by omega
        have hc := hcell i hi'
        have hb := wf_u8 (hwf zs[i] (List.getElem_mem hi'))
        have hg : zs.getD i 0 = zs[i] := by simp [hi']
        rw [hg] at hc
        have hv : ((((zs.take len).map (fun z => UInt8.ofNat z.toNat))[i]'(by rw [hlen]; exact hi)).toNat : Int) = zs[i] := by
          simp only [List.getElem_map, List.getElem_take, UInt8.toNat_ofNat']
          omega
        rw [hv]
        have ea : (⟨b, off, none⟩ : Addr).add i = ⟨b, off + i, none⟩ := by
          by_cases hz : i = 0
          · subst hz; simp [Addr.add]
          · simp [Addr.add, hz]
        rwa [ea] at hc
end Go.Proofs.YtcmmdkabocfnfaaGreatDoor

namespace Go.Proofs.YtcmmdkabocfnfaaGreatDoor
open Go.RowKit
set_option linter.unusedVariables false

theorem OwnB.kept {base : Nat} {w w' : World} {v : Value} {l : List UInt8} {row : Option Nat} (h : OwnB base w v l) (hg : w.grownBy w' row) (hne : v.ownBlock = none ∨ v.ownBlock ≠ row) : OwnB base w' v l := World.ownsRow.kept h hg hne
theorem OwnB.ge {base : Nat} {w : World} {v : Value} {l : List UInt8} (h : OwnB base w v l) : ∀ k, v.ownBlock = some k → base ≤ k := fun k hk => (World.ownsRow.lt h k hk).1
theorem OwnB.lt {base : Nat} {w : World} {v : Value} {l : List UInt8} (h : OwnB base w v l) : ∀ k, v.ownBlock = some k → k < w.heap.size := fun k hk => (World.ownsRow.lt h k hk).2
theorem apart_of {a b : Option Nat} {X Y : Nat} (h1 : ∀ k, a = some k → k < X) (h2 : ∀ k, b = some k → Y ≤ k) (hXY : X ≤ Y) : a = none ∨ a ≠ b := by
  cases a with
  | none => exact .inl rfl
  | some i => right; intro e; have := h1 i rfl; have := h2 i e.symm; omega
theorem apart_of' {a b : Option Nat} {X Y : Nat} (h1 : ∀ k, a = some k → Y ≤ k) (h2 : ∀ k, b = some k → k < X) (hXY : X ≤ Y) : a = none ∨ a ≠ b := by
  cases a with
  | none => exact .inl rfl
  | some i => right; intro e; have := h1 i rfl; have := h2 i e.symm; omega

def markL (k n : Nat) : List UInt8 := (List.range n).map (fun i => UInt8.ofNat ((k + i) % 256))
theorem markL_len (k n : Nat) : (markL k n).length = n := by simp [markL]
theorem markL_at (k n j : Nat) (h : j < (markL k n).length) : (markL k n)[j] = UInt8.ofNat ((k + j) % 256) := by simp [markL]

theorem grown_trans {a b c : World} {row : Option Nat} (h : a.grownBy b row) (k : b.grownBy c row) : a.grownBy c row :=
  ⟨k.os.trans h.os, k.tape.trans h.tape, k.output.trans h.output, Nat.le_trans h.size k.size, fun i hi hr => (k.block i (Nat.lt_of_lt_of_le hi h.size) hr).trans (h.block i hi hr)⟩

theorem mark_set (M l : List UInt8) (j : Nat) (hM : M.length = l.length) (h : j < M.length) : ((M.take j ++ l.drop j).map cb).set j (cb M[j]) = (M.take (j + 1) ++ l.drop (j + 1)).map cb := by
  rw [List.take_succ_eq_append_getElem h, List.drop_eq_getElem_cons (show j < l.length from by omega)]
  simp only [List.map_append, List.map_cons, List.append_assoc, List.singleton_append]
  rw [List.set_append_right _ _ (by simp; omega)]
  simp [show min j M.length = j from by omega]

theorem byte_mod (k : Nat) : ((UInt8.ofNat (k % 256)).toNat : Int) = (k : Int) % 256 := by
  rw [UInt8.toNat_ofNat']; omega

set_option maxRecDepth 20000 in
set_option maxHeartbeats 400000 in
theorem markByteS_any (v : Value) (l : List UInt8) (k base : Nat) (w : World) (ho : OwnB base w v l) (hl : l.length ≤ 10000000) (hk : k ≤ 100000000) :
    Calls Tryz.prog 11 #[v, .int .i64 (k : Int)] w fun e w' => e = .returned (.int .i64 ((k + l.length : Nat) : Int)) ∧ OwnB base w' v (markL k l.length) ∧ w.grownBy w' v.ownBlock := by
  have hML := markL_len k l.length
  have hMA := markL_at k l.length
  generalize hMd : markL k l.length = M at hML hMA
  clear hMd
  rcases ho.2 with ⟨rfl, hn⟩ | ⟨g, cap, cur, rfl, _, _, _, hcm, _, _⟩
  · have e : l = [] := List.length_eq_zero_iff.1 hn
    subst e
    have e2 : M = [] := List.length_eq_zero_iff.1 hML
    subst e2
    have Ho := hide ho
    clear ho
    go_enter Tryz.func11, Tryz.ntmps11
    go_wp2
    refine wp_loop_rounds 1 ?_
    rw [rounds_succ]
    go_wp2
    go_ret
    exact ⟨rfl, Ho.out, World.grownBy.refl _ _⟩
  · have Ho := hide ho
    have HML := hide hML
    have HMA := hide hMA
    have hMl : l.length ≤ M.length := by omega
    have hMg : M.length ≤ l.length := by omega
    clear ho hML hMA
    go_enter Tryz.func11, Tryz.ntmps11
    go_wp2
    go_loopw [1, 5] (fun kv iv wr => ∃ j : Nat, j ≤ l.length ∧ iv = .int .i64 (j : Int) ∧ kv = .int .i64 ((k + j : Nat) : Int) ∧ wr.ownsRow base 5 1 (.slice (some ⟨g, 0, none⟩) l.length cap) l.length ((M.take j ++ l.drop j).map cb) ∧ w.grownBy wr (some g))
      (fun _ iv _ => l.length - (intOf iv).toNat)
    case atStart => exact ⟨0, Nat.zero_le _, rfl, rfl, by simpa [OwnB] using Ho.out, World.grownBy.refl _ _⟩
    case round =>
      obtain ⟨j, hj, rfl, rfl, hown, hgr⟩ := hrel
      by_cases hlt : j < l.length
      · have hjM : j < M.length := by omega
        have hf := hown.frozenAt j
        have hd := hown.cellAt j (by omega)
        obtain ⟨u, hu⟩ : ∃ u, ((M.take j ++ l.drop j).map cb)[j]? = some u := ⟨_, List.getElem?_eq_getElem (by simp; omega)⟩
        rw [hu] at hd
        have hst := hown.stored j (cb M[j])
        rw [mark_set M l j HML.out hjM] at hst
        have ecb : cb M[j] = .int .u8 (((k + j : Nat) : Int) % 256) := by
          have e := HMA.out j hjM
          rw [e, cb, byte_mod]
        rw [ecb] at hst
        have Hst := hide hst
        have Hgr := hide hgr
        clear hst hgr hown hu ecb
        go_wp2
        go_roundw
        case rel => exact ⟨j + 1, by omega, by go_num, by go_num, Hst.out.1, grown_trans Hgr.out Hst.out.2⟩
        case measure => simp [intOf]; omega
      · have e : j = l.length := by omega
        subst e
        have ho' : OwnB base wr (.slice (some ⟨g, 0, none⟩) l.length cap) M := by
          have : M.take l.length ++ l.drop l.length = M := by rw [List.take_of_length_le (by omega), List.drop_length, List.append_nil]
          rw [this] at hown
          unfold OwnB
          rw [HML.out]
          exact hown
        have Ho' := hide ho'
        have Hgr := hide hgr
        clear ho' hgr hown
        go_wp2
        go_ret
        exact ⟨rfl, Ho'.out, Hgr.out⟩

end Go.Proofs.YtcmmdkabocfnfaaGreatDoor

namespace Go.Proofs.YtcmmdkabocfnfaaGreatDoor
open Go.RowKit
set_option linter.unusedVariables false

def tot (ls : List ByteArray) : Nat := (ls.map (fun s => s.size)).sum
theorem tot_take : ∀ (ls : List ByteArray) (k : Nat), tot (ls.take k) ≤ tot ls := by
  intro ls
  induction ls with
  | nil => intro k; simp [tot]
  | cons s t ih =>
    intro k
    cases k with
    | zero => simp [tot]
    | succ k =>
      have := ih k
      simp only [tot, List.take_succ_cons, List.map_cons, List.sum_cons] at this ⊢
      omega
theorem tot_at : ∀ (ls : List ByteArray) (k : Nat) (h : k < ls.length), ls[k].size ≤ tot ls := by
  intro ls
  induction ls with
  | nil => intro k h; simp at h
  | cons s t ih =>
    intro k h
    cases k with
    | zero => simp [tot]
    | succ k =>
      have := ih k (by simpa using h)
      simp only [tot, List.getElem_cons_succ, List.map_cons, List.sum_cons] at this ⊢
      omega
/-- The value v is a slice that reads as the texts ls. -/
def RdS (w : World) (v : Value) (l : List ByteArray) : Prop :=
  (∃ a cap, v = .slice a 0 cap ∧ l = [] ∧ (a = none → cap = 0)) ∨
  ∃ b off cap, l ≠ [] ∧ v = .slice (some ⟨b, off, none⟩) l.length cap ∧ l.length ≤ cap ∧ cap ≤ maxLen ∧ b < w.heap.size ∧ ∀ i (h : i < l.length), w.cell? ⟨b, off + i, none⟩ = some (.string l[i])

theorem RdS.shape {w : World} {v : Value} {l : List ByteArray} (h : RdS w v l) : ∃ a cap, v = .slice a l.length cap := by
  rcases h with ⟨a, cap, rfl, rfl, -⟩ | ⟨b, off, cap, h0, rfl, _⟩
  · exact ⟨a, cap, rfl⟩
  · exact ⟨_, cap, rfl⟩
theorem RdS.below {B : Nat} {w w' : World} {v : Value} {l : List ByteArray} (h : RdS w v l) (hb : Below B w w') (hB : w.heap.size ≤ B) : RdS w' v l := by
  rcases h with h | ⟨b, off, cap, h0, hv, h1, h2, h3, h4⟩
  · exact .inl h
  · exact .inr ⟨b, off, cap, h0, hv, h1, h2, by have := hb.size; omega, fun i hi => (hb.cell (p := ⟨b, off + i, none⟩) (by show b < B; omega)).trans (h4 i hi)⟩
theorem rd_one_str (w : World) (s : ByteArray) : RdS (w.alloc (.cells #[.string s] 9)) (.slice (some ⟨w.heap.size, 0, none⟩) 1 1) [s] := by
  refine .inr ⟨w.heap.size, 0, 1, by simp, rfl, by simp, by unfold maxLen; omega, by simp, ?_⟩
  intro i hi
  simp only [List.length_cons, List.length_nil] at hi
  have : i = 0 := by omega
  subst this
  simp [World.cell?_alloc_at]

/-- The value v is a slice of the call's own, from block 'base' on, that reads as the texts l. -/
def OwnS (base : Nat) (w : World) (v : Value) (l : List ByteArray) : Prop := w.ownsRow base 9 1 v l.length (l.map Value.string)

theorem OwnS.rd {base : Nat} {w : World} {v : Value} {l : List ByteArray} (h : OwnS base w v l) : RdS w v l := by
  rcases h.2 with ⟨hv, hn⟩ | ⟨g, cap, cur, hv, hb, hg, hnc, hcm, hcs, ht⟩
  · exact .inl ⟨none, 0, hv, List.length_eq_zero_iff.1 hn, fun _ => rfl⟩
  · by_cases hl : l = []
    · subst hl; exact .inl ⟨_, _, hv, rfl, fun h => by cases h⟩
    · refine .inr ⟨g, 0, cap, hl, hv, hnc, hcm, ?_, ?_⟩
      · exact (Array.getElem?_eq_some_iff.1 hg).1
      · intro i hi
        have h' : w.ownsRow base 9 1 (.slice (some ⟨g, 0, none⟩) l.length cap) l.length (l.map Value.string) := hv ▸ h
        rw [show 0 + i = i from by omega, h'.cellAt i (by omega)]
        simp [hi]
theorem OwnS.below {B base : Nat} {w w' : World} {v : Value} {l : List ByteArray} (h : OwnS base w v l) (hb : Below B w w') (hB : w.heap.size ≤ B) : OwnS base w' v l := by
  refine ⟨h.1, ?_⟩
  rcases h.2 with h' | ⟨g, cap, cur, hv, hbb, hg, r⟩
  · exact .inl h'
  · refine .inr ⟨g, cap, cur, hv, hbb, ?_, r⟩
    have hlt : g < w.heap.size := (Array.getElem?_eq_some_iff.1 hg).1
    rw [hb.block g (by omega)]; exact hg
theorem OwnS.mono {base base' : Nat} {w : World} {v : Value} {l : List ByteArray} (h : OwnS base w v l) (hB : base' ≤ base) : OwnS base' w v l := by
  refine ⟨h.1, ?_⟩
  rcases h.2 with h' | ⟨g, cap, cur, hv, hbb, r⟩
  · exact .inl h'
  · exact .inr ⟨g, cap, cur, hv, by omega, r⟩
theorem OwnS.kept {base : Nat} {w w' : World} {v : Value} {l : List ByteArray} {row : Option Nat} (h : OwnS base w v l) (hg : w.grownBy w' row) (hne : v.ownBlock = none ∨ v.ownBlock ≠ row) : OwnS base w' v l := World.ownsRow.kept h hg hne
theorem OwnS.ge {base : Nat} {w : World} {v : Value} {l : List ByteArray} (h : OwnS base w v l) : ∀ k, v.ownBlock = some k → base ≤ k := fun k hk => (World.ownsRow.lt h k hk).1
theorem OwnS.lt {base : Nat} {w : World} {v : Value} {l : List ByteArray} (h : OwnS base w v l) : ∀ k, v.ownBlock = some k → k < w.heap.size := fun k hk => (World.ownsRow.lt h k hk).2

theorem Tryz.infoStr : (Tryz.prog.info? 9).map (fun i => (i.zero, i.size, i.bytes)) = some (some (.string ByteArray.empty), 1, 16) := by kernel_rfl

theorem gen_set {α : Type} (M l : List α) (f : α → Value) (j : Nat) (hM : M.length = l.length) (h : j < M.length) : ((M.take j ++ l.drop j).map f).set j (f M[j]) = (M.take (j + 1) ++ l.drop (j + 1)).map f := by
  rw [List.take_succ_eq_append_getElem h, List.drop_eq_getElem_cons (show j < l.length from by omega)]
  simp only [List.map_append, List.map_cons, List.append_assoc, List.singleton_append]
  rw [List.set_append_right _ _ (by simp; omega)]
  simp [show min j M.length = j from by omega]

theorem bytes_ne {a b : ByteArray} (h : a ≠ b) : (a.toList == b.toList) = false := by
  rw [beq_eq_false_iff_ne]
  intro e
  rw [ByteArray.toList_eq, ByteArray.toList_eq] at e
  exact h (ByteArray.ext (Array.toList_inj.1 e))
end Go.Proofs.YtcmmdkabocfnfaaGreatDoor

namespace Go.Proofs.YtcmmdkabocfnfaaGreatDoor
open Go.RowKit
set_option linter.unusedVariables false

def szR (ls : List ByteArray) (m : Nat) : Int := if ls.length + tot ls ≤ m then (m : Int) - ls.length - tot ls else -1

theorem tot_snoc (ls : List ByteArray) (k : Nat) (h : k < ls.length) : tot (ls.take (k + 1)) = tot (ls.take k) + ls[k].size := by
  rw [List.take_succ_eq_append_getElem h]; simp only [tot, List.map_append, List.map_cons, List.map_nil, List.sum_append, List.sum_cons, List.sum_nil]; omega
theorem tot_two (ls : List ByteArray) (k : Nat) (h : k < ls.length) : tot (ls.take k) + ls[k].size ≤ tot ls := by
  rw [← tot_snoc ls k h]; exact tot_take ls _



set_option maxRecDepth 20000 in
set_option maxHeartbeats 400000 in
theorem eqStringS_any (v1 v2 : Value) (l1 l2 : List ByteArray) (w : World) (hr1 : RdS w v1 l1) (hr2 : RdS w v2 l2) (hl1 : l1.length ≤ 4000000) (hl2 : l2.length ≤ 4000000) :
    Calls Tryz.prog 84 #[v1, v2] w fun e w' => e = .returned (.bool (decide (l1 = l2))) ∧ Sm w w' := by
  by_cases hne : l1.length = l2.length
  · rcases hr1 with ⟨a, cap, rfl, rfl, -⟩ | ⟨b, off, cap, h0, rfl, h1, h2, h3, h4⟩
    · have e2 : l2 = [] := List.length_eq_zero_iff.1 (by simpa using hne.symm)
      subst e2
      obtain ⟨a2, cap2, rfl⟩ := hr2.shape
      clear hr2
      go_enter Tryz.func84, Tryz.ntmps84
      go_wp2
      refine wp_loop_rounds 1 ?_
      rw [rounds_succ]
      go_wp2
      go_ret
      exact ⟨rfl, Sm.refl _⟩
    · rcases hr2 with ⟨a2, cap2, rfl, rfl, -⟩ | ⟨b2, off2, cap2, g0, rfl, g1, g2, g3, g4⟩
      · exact absurd (List.length_eq_zero_iff.1 (by simpa using hne)) h0
      · have Hne := hide hne
        have hlen : ((l1.length : Int) != (l2.length : Int)) = false := by rw [hne]; simp
        have hle : l1.length ≤ l2.length := by omega
        have hge : l2.length ≤ l1.length := by omega
        have H4 := hide h4
        have G4 := hide g4
        clear hne h4 g4
        go_enter Tryz.func84, Tryz.ntmps84
        go_wp2
        go_loopw [5] (fun i wr => ∃ k : Nat, k ≤ l1.length ∧ i = .int .i64 k ∧ l1.take k = l2.take k ∧ Sm w wr) (fun i _ => l1.length - (intOf i).toNat)
        case atStart => exact ⟨0, Nat.zero_le _, rfl, rfl, Sm.refl _⟩
        case round =>
          obtain ⟨k, hk, rfl, ht, hs⟩ := hrel
          have Ht := hide ht
          clear ht
          by_cases hlt : k < l1.length
          · have hlt2 : k < l2.length := by omega
            have hc1 : wr.cell? ⟨b, off + k, none⟩ = some (.string l1[k]) := (hs.cell _).trans (H4.out k hlt)
            have hc2 : wr.cell? ⟨b2, off2 + k, none⟩ = some (.string l2[k]) := (hs.cell _).trans (G4.out k hlt2)
            have hli : (k : Int) < (l1.length : Int) := by omega
            have hli2 : (k : Int) < (l2.length : Int) := by omega
            by_cases he : l1[k] = l2[k]
            · have Hnx := hide (take_eq_snoc hlt hlt2 Ht.out he)
              rw [← he] at hc2
              clear he
              generalize l1[k] = s1 at hc1 hc2
              go_wp2
              go_quiet (fail)
              go_wp2
              go_roundw
              case rel => exact ⟨k + 1, by omega, by go_num, Hnx.out, hs.drewN _⟩
              case measure => simp [intOf]; omega
            · have hf : Hid (decide (l1 = l2) = false) := hide (by rw [decide_eq_false]; intro e; subst e; exact he rfl)
              have hq := bytes_ne he
              clear he
              generalize l1[k] = s1 at hc1 hq
              generalize l2[k] = s2 at hc2 hq
              go_wp2
              go_quiet (fail)
              go_wp2
              go_ret
              exact ⟨ret_bool hf.out.symm, hs.drewN _⟩
          · have hf : Hid (decide (l1 = l2) = true) := hide (by
              rw [decide_eq_true]
              have := Ht.out
              rwa [List.take_of_length_le (by omega), List.take_of_length_le (by omega)] at this)
            go_wp2
            go_ret
            exact ⟨ret_bool hf.out.symm, hs⟩
  · obtain ⟨a, cap, rfl⟩ := hr1.shape
    obtain ⟨a2, cap2, rfl⟩ := hr2.shape
    clear hr1 hr2
    have hlen : ((l1.length : Int) != (l2.length : Int)) = true := by rw [bne_iff_ne]; omega
    have hf : Hid (decide (l1 = l2) = false) := hide (by rw [decide_eq_false]; intro e; subst e; exact hne rfl)
    clear hne
    go_enter Tryz.func84, Tryz.ntmps84
    go_wp2
    go_ret
    exact ⟨ret_bool hf.out.symm, Sm.refl _⟩
end Go.Proofs.YtcmmdkabocfnfaaGreatDoor
