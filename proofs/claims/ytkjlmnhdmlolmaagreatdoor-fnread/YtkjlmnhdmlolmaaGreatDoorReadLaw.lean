/- A slice of bytes that came in reads as bytes. What the row's condition says of the named error: its cell; a world that meets it. Bytes drawn for a block to be read of. What is read of drawn bytes as a block has these bytes, where the named error lies as the program's text lays it: the law FnRead returns true. -/
import Derived.Test.YtkjlmnhdmlolmaaGreatDoorJoin1
import Derived.OpenShut
import Derived.Test.YtkjlmnhdmlolmaaGreatDoorBkGetO
import Derived.LaidLaws
import Derived.LaidMore
import Derived.OpenVars
import Derived.Stop.LaidErr
import Derived.Stop.Joined
import Derived.RowKitTokens
import Derived.Test.YtkjlmnhdmlolmaaGreatDoorRows
import Derived.Test.YtkjlmnhdmlolmaaGreatDoorReadD
import Derived.Test.YtkjlmnhdmlolmaaGreatDoorBkPutW
import Derived.Test.YtkjlmnhdmlolmaaGreatDoorJoin22
import Derived.Test.YtkjlmnhdmlolmaaGreatDoorJoin8
import Derived.Test.YtkjlmnhdmlolmaaGreatDoorTie
import Derived.Test.YtkjlmnhdmlolmaaGreatDoorCards
import Derived.Test.YtkjlmnhdmlolmaaGreatDoorReadB
import Derived.Test.YtkjlmnhdmlolmaaGreatDoorBkSpC
import Derived.Test.YtkjlmnhdmlolmaaGreatDoorJoin23
import Derived.Test.YtkjlmnhdmlolmaaGreatDoorJoin16
import Derived.ChangeSame
import Derived.ChangeVars
import Derived.JoinedOf
import Derived.WalkKit
import Derived.ProofKit
import Derived.ShutString
import Derived.ChangeOld
import Derived.Below
import Derived.SliceStrings
import Derived.SevenTiedAt
namespace Go.Proofs.YtkjlmnhdmlolmaaGreatDoor
open Go.RowKit
set_option linter.unusedVariables false

/-- What is told of a slice of integers that came in: it is nil, or it leads to a row of 'cap' cells, the numbers zs, each fitting its kind. -/
def IsRow (k : IntKind) (w : World) (a : Option Addr) (len cap : Nat) (zs : List Int) : Prop :=
  (a = none ∧ len = 0 ∧ cap = 0 ∧ zs = []) ∨
  ∃ x, a = some x ∧ len ≤ cap ∧ cap ≤ maxLen ∧ zs.length = cap ∧ (∀ i, i < zs.length → w.cell? (x.add i) = some (.int k (zs.getD i 0))) ∧ ∀ n ∈ zs, (Lit.int k n).wf = true

theorem wf_u8 {z : Int} (h : (Lit.int .u8 z).wf = true) : 0 ≤ z ∧ z ≤ 255 := bounds_u8 h
theorem wf_i64 {z : Int} (h : (Lit.int .i64 z).wf = true) : -9223372036854775808 ≤ z ∧ z ≤ 9223372036854775807 := bounds_i64 h

theorem IsRow.rd {w : World} {a : Option Addr} {len cap : Nat} {zs : List Int} (h : IsRow .u8 w a len cap zs) : ∃ l : List UInt8, len = l.length ∧ RdB w (.slice a len cap) l := by
  rcases h with ⟨rfl, rfl, rfl, rfl⟩ | ⟨x, rfl, hlc, hm, hz, hcell, hwf⟩
  · exact ⟨[], rfl, .inl ⟨_, _, rfl, rfl, fun h => by first | rfl | cases h⟩⟩
  · by_cases h0 : len = 0
    · subst h0; exact ⟨[], rfl, .inl ⟨_, _, rfl, rfl, fun h => by first | rfl | cases h⟩⟩
    · obtain ⟨b, off, spot⟩ := x
      have hc0 := hcell 0 (by omega)
      have hspot : spot = none := by simpa [Addr.add] using World.cell?_spot hc0
      subst hspot
      have hlen : ((zs.take len).map (fun z => UInt8.ofNat z.toNat)).length = len := by simp; omega
      refine ⟨(zs.take len).map (fun z => UInt8.ofNat z.toNat), hlen.symm, .inr ⟨b, off, cap, ?_, by rw [hlen], by omega, hm, ?_, ?_⟩⟩
      · intro e; rw [e] at hlen; simp at hlen; omega
      · have := World.block_lt_of_cell? w _ hc0; simpa [Addr.add] using this
      · intro i hi
        rw [hlen] at hi
        have hi' : i < zs.length := by omega
        have hc := hcell i hi'
        have hb := wf_u8 (hwf zs[i] (List.getElem_mem hi'))
        have hg : zs.getD i 0 = zs[i] := by simp [hi']
        rw [hg] at hc
        have hv : ((((zs.take len).map (fun z => UInt8.ofNat z.toNat))[i]'(by rw [hlen]; exact hi)).toNat : Int) = zs[i] := by
          simp only [List.getElem_map, List.getElem_take, UInt8.toNat_ofNat']
          omega
        rw [hv]
        have ea : (⟨b, off, none⟩ : Addr).add i = ⟨b, off + i, none⟩ := by
          by_cases hz : i = 0
          · subst hz; simp [Addr.add]
          · simp [Addr.add, hz]
        rwa [ea] at hc
end Go.Proofs.YtkjlmnhdmlolmaaGreatDoor

namespace Go.Proofs.YtkjlmnhdmlolmaaGreatDoor
open Go.ChangeShapes Go.WideShapes Go.RowKit
set_option linter.unusedVariables false

theorem Tryz.gEb : Tryz.prog.globalNamed "loop.example/g00194/impl.errNoBlock" = some 0 := by kernel_rfl
theorem Tryz.gEbType : (Tryz.prog.globals[0]?).map (·.type) = some 63 := by kernel_rfl
theorem Tryz.cellsEs : Tryz.prog.cellsOf 299 = 1 := by kernel_rfl
theorem Tryz.cellsStr : Tryz.prog.cellsOf 9 = 1 := by kernel_rfl
theorem Tryz.starEs : "*" ++ "errors.errorString" = "*errors.errorString" := by decide
theorem Tryz.rowEb (u : TypeId) (h : Tryz.prog.typeName? 3 u = some "*errors.errorString") : u = 280 :=
  typeName_ptr_named (nm := "errors.errorString") (by rw [Tryz.starEs]; kernel_rfl) (by kernel_rfl) (by decide) u (by rw [Tryz.starEs]; exact h)
/-- "these bytes are no block" -/
abbrev noBlockS : ByteArray := { data := #[116, 104, 101, 115, 101, 32, 98, 121, 116, 101, 115, 32, 97, 114, 101, 32, 110, 111, 32, 98, 108, 111, 99, 107] }
/-- The variable's cell laid anew: the error that lies in block 'lo'. -/
def sentPut (lo : Nat) : Obj → Obj
  | .cells _ t frozen => .cells #[.iface 280 (.pointer (some ⟨lo, 0, none⟩))] t frozen
  | o => o
/-- A world that meets the condition: w0, the variable's cell laid. -/
def sentOn (w0 : World) (lo : Nat) : World := { w0 with heap := w0.heap.modify 0 (sentPut lo) }
theorem var_belowE {W W' : World} {B : Nat} {cs : Array Value} (h : W.var? Tryz.prog "loop.example/g00194/impl.errNoBlock" = some cs) (hb : Below B W W') (hG : 0 < B) : W'.var? Tryz.prog "loop.example/g00194/impl.errNoBlock" = some cs := by
  unfold World.var? at h ⊢
  rw [Tryz.gEb] at h ⊢
  simp only [Option.bind_some] at h ⊢
  rw [hb.block _ hG]
  exact h
end Go.Proofs.YtkjlmnhdmlolmaaGreatDoor

namespace Go.Proofs.YtkjlmnhdmlolmaaGreatDoor
open Go.RowKit
set_option linter.unusedVariables false

theorem blP_few (b : Bk) : (blP b).length ≤ 10000 := by
  by_cases h : blB b = true
  · have h1 := parts_len (bl_put h)
    rw [← blP_is b h]
    simp only [List.length_append]
    omega
  · have e : blP b = [] := by unfold blP; rw [if_neg h]
    rw [e]; simp
theorem RdB.cutG {w : World} {g cap : Nat} {l : List UInt8} (h : RdB w (.slice (some ⟨g, 0, none⟩) l.length cap) l) (k : Nat) (hk : k ≤ l.length) : RdB w (.slice (some ⟨g, 0, none⟩) k cap) (l.take k) := by
  rcases h with ⟨a, c, e, rfl, _⟩ | ⟨b, off, c, h0, e, h1, h2, h3, h4⟩
  · simp at hk; subst hk; exact .inl ⟨some ⟨g, 0, none⟩, cap, rfl, rfl, fun h => by cases h⟩
  · injection e with e1 e2 e3
    injection e1 with e1
    injection e1 with e4 e5
    subst e3 e4 e5
    by_cases hz : k = 0
    · subst hz; exact .inl ⟨some ⟨g, 0, none⟩, cap, rfl, rfl, fun h => by cases h⟩
    · refine .inr ⟨g, 0, cap, fun h => hz ?_, ?_, ?_, h2, h3, fun i hi => ?_⟩
      · rcases List.take_eq_nil_iff.1 h with h | h
        · exact h
        · exact absurd h h0
      · rw [List.length_take, Nat.min_eq_left hk]
      · rw [List.length_take]; omega
      · have hi2 : i < l.length := by rw [List.length_take] at hi; omega
        rw [h4 i hi2]; simp
set_option maxRecDepth 20000 in
set_option maxHeartbeats 2000000 in
theorem drawGetBlock_any (w : World) (cv : Value) (code : List UInt8) (hr : RdB w cv code) (hl : code.length ≤ 1048576) :
    Calls Tryz.prog 22 #[cv] w fun e w' => ∃ (v' : Value) (l : List UInt8), e = .returned v' ∧ RdB w' v' l ∧ l.length ≤ 1048576 ∧ Below w.heap.size w w' := by
  obtain ⟨ac, cc, rfl⟩ := hr.shape
  have H1 := hide (l1New_any w _ code hr hl)
  clear hr
  go_enter Tryz.func22, Tryz.ntmps22
  go_wp2_with fail
  refine H1.out.mono ?_
  rintro e w1 ⟨rfl, hc1, hb1⟩
  have hz1 := hc1.lt
  clear H1
  go_wp2_with fail
  refine (l9Draw_any w w1 w.heap.size _ code hc1 hl).mono ?_
  rintro e w2 ⟨b, v, rfl, ho, hS, hc2, hg2⟩
  have hb2 : Below w.heap.size w w2 := hb1.trans (below_grw hg2 (Nat.le_refl _) (by omega))
  have hz2 := hg2.size
  have hPB := blP_few b
  have HP := hide (specPutBlock_any b v w2 ho.rd hS.few (by have := hS.tr; omega))
  clear ho hS hc1 hb1 hg2
  generalize blP b = l at hPB HP
  go_wp2_with fail
  refine HP.out.mono ?_
  rintro e w3 ⟨v3, rfl, o3, hb3⟩
  have hc3 := hc2.below hb3 hc2.lt
  have hB3 : Below w.heap.size w w3 := hb2.trans (hb3.mono (by omega))
  have hz3 := hb3.size
  clear HP hb3 hc2 hb2
  rcases o3.2 with ⟨rfl, hn⟩ | ⟨q, cap, cur, rfl, hq, _, _, hcm, _, _⟩
  · have HO := hide o3.rd
    have HB := hide hB3
    clear o3 hB3 hc3
    go_wp2
    go_ret
    exact ⟨_, l, rfl, HO.out, by omega, HB.out⟩
  by_cases h0 : l.length = 0
  · have e := List.length_eq_zero_iff.1 h0
    subst e
    have HO := hide o3.rd
    have HB := hide hB3
    clear o3 hB3 hc3
    go_wp2
    go_ret
    exact ⟨_, [], rfl, HO.out, by simp, HB.out⟩
  have hne : ((l.length : Int) == 0) = false := by rw [beq_eq_false_iff_ne]; omega
  have HO3 := hide o3
  have HB3 := hide hB3
  clear o3 hB3
  go_wp2_with fail
  refine (l1Below_any w w3 w.heap.size _ code 5 hc3 hl (by omega) (by omega)).mono ?_
  rintro e w4 ⟨x, rfl, hx, -, hc4, hg4⟩
  have HO4 : Hid (OwnB w2.heap.size w4 (.slice (some ⟨q, 0, none⟩) l.length cap) l) := hide (HO3.out.notg hg4 (by omega))
  have HB4 := hide (HB3.out.trans (below_grw hg4 (Nat.le_refl _) (by omega)))
  have hz4 := hg4.size
  clear HO3 HB3 hc3 hg4 hx
  by_cases hx0 : x = 0
  · subst hx0
    go_wp2_with fail
    refine (l1Below_any w w4 w.heap.size _ code (l.length : Int) hc4 hl (by omega) (by omega)).mono ?_
    rintro e w5 ⟨y, rfl, hy, -, hc5, hg5⟩
    have hy5 : (y : Int) < (l.length : Int) := hy (by omega)
    have HO5 : Hid (OwnB w2.heap.size w5 (.slice (some ⟨q, 0, none⟩) l.length cap) l) := hide (HO4.out.notg hg5 (by omega))
    have HB5 := hide (HB4.out.trans (below_grw hg5 (Nat.le_refl _) (by omega)))
    have hz5 := hg5.size
    obtain ⟨w6, hw6⟩ : ∃ w6, w5.alloc (.cells #[.int .i64 0, .int .i64 1, .int .i64 2, .int .i64 97, .int .i64 128, .int .i64 200] 3) = w6 := ⟨_, rfl⟩
    have b6 : Below w5.heap.size w5 w6 := by rw [← hw6]; exact (Below.refl _ w5).alloc (Nat.le_refl _) _
    have HI6 : Hid (IntsAt w6 w5.heap.size [0, 1, 2, 97, 128, 200]) := hide (by rw [← hw6]; exact ints_new w5 [0, 1, 2, 97, 128, 200] 3)
    have hc6 := hc5.below b6 hc5.lt
    have HO6 := hide (HO5.out.below b6 (Nat.le_refl _))
    have HB6 := hide (HB5.out.trans (b6.mono (by omega)))
    have hz6 := b6.size
    have Hw6 := hide hw6
    clear HO4 HB4 HO5 HB5 hc4 hc5 hg5 hy b6 hw6
    go_wp2_with fail
    rw [Hw6.out]
    refine (l1Int_any w w6 w.heap.size w5.heap.size _ code [0, 1, 2, 97, 128, 200] hc6 hl HI6.out (by omega) (by simp) (by simp) 6).mono ?_
    rintro e w7 ⟨n, rfl, hn, hc7, hg7⟩
    have hn2 : 0 ≤ n ∧ n ≤ 200 := by simp at hn; omega
    obtain ⟨m, rfl⟩ : ∃ m : Nat, n = (m : Int) := ⟨n.toNat, by omega⟩
    have ho7 : OwnB w2.heap.size w7 (.slice (some ⟨q, 0, none⟩) l.length cap) l := HO6.out.notg hg7 (by omega)
    have hB7 := HB6.out.trans (below_grw hg7 (Nat.le_refl _) (by omega))
    have hyl : y < l.length := by omega
    have hf := World.ownsRow.frozenAt ho7 y
    have hd := World.ownsRow.cellAt ho7 y (by omega)
    obtain ⟨u, hu⟩ : ∃ u, (l.map cb)[y]? = some u := ⟨_, List.getElem?_eq_getElem (by simp; omega)⟩
    rw [hu] at hd
    have hst := World.ownsRow.stored ho7 y (cb (UInt8.ofNat m))
    have hrow : OwnB w2.heap.size (w7.setCell ⟨q, y, none⟩ (cb (UInt8.ofNat m))) (.slice (some ⟨q, 0, none⟩) l.length cap) (l.set y (UInt8.ofNat m)) := by
      unfold OwnB
      rw [List.length_set, List.map_set]
      exact hst.1
    have ecb : cb (UInt8.ofNat m) = .int .u8 (m : Int) := by unfold cb; rw [← byte_of m (by omega)]
    have hbs : Below w.heap.size w (w7.setCell ⟨q, y, none⟩ (cb (UInt8.ofNat m))) := hB7.setCell (p := ⟨q, y, none⟩) (show w.heap.size ≤ q by omega) _
    rw [ecb] at hrow hbs
    have HRow := hide (OwnB.rd hrow)
    have HBs := hide hbs
    have hls : (l.set y (UInt8.ofNat m)).length ≤ 1048576 := by rw [List.length_set]; omega
    clear HO6 HB6 hc6 hg7 ho7 hB7 hst hrow hbs HI6 Hw6 hn hu ecb
    go_wp2
    go_ret
    exact ⟨_, l.set y (UInt8.ofNat m), rfl, HRow.out, hls, HBs.out⟩
  · have hxb : ((x : Int) == 0) = false := by rw [beq_eq_false_iff_ne]; omega
    by_cases hx1 : x = 1
    · subst hx1
      go_wp2_with fail
      refine (l1Below_any w w4 w.heap.size _ code (l.length : Int) hc4 hl (by omega) (by omega)).mono ?_
      rintro e w5 ⟨y, rfl, hy, -, hc5, hg5⟩
      have hy5 : (y : Int) < (l.length : Int) := hy (by omega)
      have ho5 : OwnB w2.heap.size w5 (.slice (some ⟨q, 0, none⟩) l.length cap) l := HO4.out.notg hg5 (by omega)
      have HB5 := hide (HB4.out.trans (below_grw hg5 (Nat.le_refl _) (by omega)))
      have HR := hide (RdB.cutG (OwnB.rd ho5) y (by omega))
      have hcap : l.length ≤ cap := by
        rcases OwnB.rd ho5 with ⟨a, c, e, e2, _⟩ | ⟨_, _, _, _, e, h1, _⟩
        · subst e2; exact absurd rfl h0
        · injection e with _ _ e3 <;> omega
      have hls : (l.take y).length ≤ 1048576 := by rw [List.length_take]; omega
      clear HO4 HB4 hc4 hc5 hg5 ho5 hy
      go_wp2
      go_ret
      exact ⟨_, l.take y, rfl, HR.out, hls, HB5.out⟩
    · have hxb1 : ((x : Int) == 1) = false := by rw [beq_eq_false_iff_ne]; omega
      clear hc4
      go_wp2
      go_ret
      exact ⟨_, l, rfl, OwnB.rd HO4.out, by omega, HB4.out⟩
end Go.Proofs.YtkjlmnhdmlolmaaGreatDoor

namespace Go.Proofs.YtkjlmnhdmlolmaaGreatDoor
open Go.ChangeShapes Go.WideShapes Go.ChangeAt Go.RowKit
open Go.ChangeMaps (open_string shut_string)
set_option linter.unusedVariables false

theorem fnRead_own : ownKnob Tryz.prog.godebug = none := by kernel_rfl
theorem fnRead_laidOut : laidOutB Tryz.prog = true := by kernel_rfl

theorem few_bk0R : FewK bk0 := ⟨by simp [bk0], by simp [bk0], by simp [bk0], by simp [bk0], by simp [bk0], by simp [bk0], by simp [bk0], by simp [bk0], by simp [bk0], by simp [bk0, ByteArray.size], by simp [bk0, ByteArray.size]⟩
theorem few_gR (l : List UInt8) (hl : l.length ≤ 4000000) : FewK (gI l).1 := by
  unfold gI
  split
  · exact few_bI l hl
  · exact few_bk0R
theorem tr_gR (l : List UInt8) : -9223372036854775808 ≤ (gI l).1.tr ∧ (gI l).1.tr ≤ 9223372036854775807 := by
  unfold gI
  split
  · have := rN_bd l (y7 l)
    show -9223372036854775808 ≤ rN l (y7 l) ∧ rN l (y7 l) ≤ 9223372036854775807
    omega
  · show -9223372036854775808 ≤ (0 : Int) ∧ (0 : Int) ≤ 9223372036854775807
    omega
set_option maxRecDepth 20000 in
set_option maxHeartbeats 8000000 in
theorem fnRead_walk (a0 : Option Addr) (len0 cap0 : Nat) (z0 : List Int) (w : World) (b0 : Addr) (hge : Ge w b0) (hG : 0 < w.heap.size) (w0 : IsRow .u8 w a0 len0 cap0 z0) :
    Calls Tryz.prog 5 #[.slice a0 len0 cap0] w fun e w' => e = .returned (.bool true) ∧ Below w.heap.size w w' := by
  obtain ⟨cd, rfl, hr⟩ := w0.rd
  clear w0
  have hcap : cd.length ≤ 9223372036854775807 := by
    rcases hr with ⟨_, _, _, e, _⟩ | ⟨_, _, cap, _, _, h1, h2, _⟩
    · subst e; simp
    · unfold maxLen at h2; omega
  have Hbig := hide (big_any _ cd w hr hcap)
  by_cases hbig : 1048576 < cd.length
  · rw [decide_eq_true hbig] at Hbig
    clear hr
    go_enter Tryz.func5, Tryz.ntmps5
    go_wp2_with fail
    refine Hbig.out.mono ?_
    rintro e w' ⟨rfl, rfl⟩
    go_wp2
    go_ret
    exact ⟨rfl, Below.refl _ _⟩
  rw [decide_eq_false hbig] at Hbig
  have Hd := hide (drawGetBlock_any w _ cd hr (by omega))
  have HGe := hide (fun V (hV : Below w.heap.size w V) => hge.below hV hG)
  clear hr hge
  go_enter Tryz.func5, Tryz.ntmps5
  go_wp2_with fail
  refine Hbig.out.mono ?_
  rintro e w ⟨rfl, rfl⟩
  go_wp2_with fail
  refine Hd.out.mono ?_
  rintro e w2 ⟨v2, l, rfl, hr2, hl4, hb2⟩
  obtain ⟨a2, c2, rfl⟩ := hr2.shape
  have hz2 := hb2.size
  have hFX := few_gR l (by omega)
  have htr := tr_gR l
  have HGood := hide (fun h => gI_right (l := l) h)
  have HI := hide (implGetBlock_any (.slice a2 l.length c2) l w2 b0 hr2 hl4 (HGe.out w2 hb2) (by omega))
  have HS := hide (fun V (hV : Below w2.heap.size w2 V) => specGetBlock_any (.slice a2 l.length c2) l V (hr2.below hV (Nat.le_refl _)) hl4)
  rw [← g_same] at HS
  have HPB := hide (fun v V hr => implPutBlock_any (gI l).1 v V hr hFX htr)
  have HBO := hide (fun v V hr => implBlockOk_any (gI l).1 v V hr hFX htr)
  have Hr2 := hide hr2
  generalize (gI l).1 = X at HS HI HPB HBO HGood
  generalize (gI l).2 = FL at HS HI HGood
  clear hFX htr hr2 HGe Hd Hbig hbig hcap
  obtain ⟨id, ep, rd, md, qr, qb, qw, tr, tw, th, ts, en, nx, rt⟩ := X
  simp only [bkV] at HS HI HPB HBO
  go_wp2_with fail
  refine HI.out.mono ?_
  rintro e w3 ⟨v3, rfl, o3, -, hb3⟩
  have hB3 : Below w.heap.size w w3 := hb2.trans (hb3.mono hz2)
  have hz3 := hb3.size
  obtain ⟨vq, vw, vh, vt, vn⟩ := v3
  obtain ⟨aq3, cq3, e1⟩ := o3.q.rd.shape
  obtain ⟨aw3, cw3, e2⟩ := o3.p.rd.shape
  obtain ⟨ah3, ch3, e3⟩ := o3.h.rd.shape
  obtain ⟨at3, ct3, e4⟩ := o3.t.rd.shape
  obtain ⟨an3, cn3, e5⟩ := o3.n.rd.shape
  simp only at e1 e2 e3 e4 e5
  subst e1 e2 e3 e4 e5
  simp only
  obtain ⟨w4, hw4⟩ : ∃ x, w3.alloc (.cells #[.int .i64 id, .int .i64 ep, .int .i64 rd, .string md, .int .i64 qr, .int .i64 qb, .slice aq3 qw.length cq3, .int .i64 tr, .slice aw3 tw.length cw3, .slice ah3 th.length ch3, .slice at3 ts.length ct3, .bool en, .slice an3 nx.length cn3, .string rt] 47) = x := ⟨_, rfl⟩
  have b4 : Below w3.heap.size w3 w4 := by rw [← hw4]; exact (Below.refl _ w3).alloc (Nat.le_refl _) _
  have k4 : Blk w4 w3.heap.size 47 [.int .i64 id, .int .i64 ep, .int .i64 rd, .string md, .int .i64 qr, .int .i64 qb, .slice aq3 qw.length cq3, .int .i64 tr, .slice aw3 tw.length cw3, .slice ah3 th.length ch3, .slice at3 ts.length ct3, .bool en, .slice an3 nx.length cn3, .string rt] := by rw [← hw4]; exact Blk.new w3 _ _
  have hB4 : Below w.heap.size w w4 := hB3.trans (b4.mono hB3.size)
  have hb24 : Below w2.heap.size w2 w4 := hb3.trans (b4.mono hb3.size)
  have s4 : w3.heap.size < w4.heap.size := k4.lt
  have R3 := hide (RdK.below o3.rd b4 (Nat.le_refl _))
  have K4 := hide k4
  have Hw4 := hide hw4
  clear o3 k4 b4 hb3 HI hw4
  go_wp2_with fail
  rw [Hw4.out]
  refine (HS.out _ hb24).mono ?_
  rintro e w5 ⟨v5, rfl, o5, hb5⟩
  have hB5 : Below w.heap.size w w5 := hB4.trans (hb5.mono hB4.size)
  have hb25 : Below w2.heap.size w2 w5 := hb24.trans (hb5.mono hb24.size)
  have hz5 := hb5.size
  obtain ⟨vq, vw, vh, vt, vn⟩ := v5
  obtain ⟨aq5, cq5, e1⟩ := o5.q.rd.shape
  obtain ⟨aw5, cw5, e2⟩ := o5.p.rd.shape
  obtain ⟨ah5, ch5, e3⟩ := o5.h.rd.shape
  obtain ⟨at5, ct5, e4⟩ := o5.t.rd.shape
  obtain ⟨an5, cn5, e5⟩ := o5.n.rd.shape
  simp only at e1 e2 e3 e4 e5
  subst e1 e2 e3 e4 e5
  simp only
  obtain ⟨w6, hw6⟩ : ∃ x, w5.alloc (.cells #[.int .i64 id, .int .i64 ep, .int .i64 rd, .string md, .int .i64 qr, .int .i64 qb, .slice aq5 qw.length cq5, .int .i64 tr, .slice aw5 tw.length cw5, .slice ah5 th.length ch5, .slice at5 ts.length ct5, .bool en, .slice an5 nx.length cn5, .string rt] 47) = x := ⟨_, rfl⟩
  have b6 : Below w5.heap.size w5 w6 := by rw [← hw6]; exact (Below.refl _ w5).alloc (Nat.le_refl _) _
  have hB6 : Below w.heap.size w w6 := hB5.trans (b6.mono hB5.size)
  have hb26 : Below w2.heap.size w2 w6 := hb25.trans (b6.mono hb25.size)
  have k6 := (K4.out.below hb5 (Blk.lt K4.out)).below b6 (by omega)
  have R6 := (R3.out.below hb5 (Nat.le_refl _)).below b6 (Nat.le_refl _)
  have hz6 := b6.size
  have k6l := k6.lt
  have p0 := k6.cell 0
  have p1 := k6.cell 1
  have p2 := k6.cell 2
  have p3 := k6.cell 3
  have p4 := k6.cell 4
  have p5 := k6.cell 5
  have p6 := k6.cell 6
  have p7 := k6.cell 7
  have p8 := k6.cell 8
  have p9 := k6.cell 9
  have p10 := k6.cell 10
  have p11 := k6.cell 11
  have p12 := k6.cell 12
  have p13 := k6.cell 13
  simp only [List.getElem?_cons_zero, List.getElem?_cons_succ] at p0 p1 p2 p3 p4 p5 p6 p7 p8 p9 p10 p11 p12 p13
  have HSA : Hid (∀ V, Below w6.heap.size w6 V → (V.cell? ⟨w3.heap.size, 0, none⟩ = some (.int .i64 id) ∧ V.cell? ⟨w3.heap.size, 1, none⟩ = some (.int .i64 ep) ∧ V.cell? ⟨w3.heap.size, 2, none⟩ = some (.int .i64 rd) ∧ V.cell? ⟨w3.heap.size, 3, none⟩ = some (.string md) ∧ V.cell? ⟨w3.heap.size, 4, none⟩ = some (.int .i64 qr) ∧ V.cell? ⟨w3.heap.size, 5, none⟩ = some (.int .i64 qb) ∧ V.cell? ⟨w3.heap.size, 6, none⟩ = some (.slice aq3 qw.length cq3) ∧ V.cell? ⟨w3.heap.size, 7, none⟩ = some (.int .i64 tr) ∧ V.cell? ⟨w3.heap.size, 8, none⟩ = some (.slice aw3 tw.length cw3) ∧ V.cell? ⟨w3.heap.size, 9, none⟩ = some (.slice ah3 th.length ch3) ∧ V.cell? ⟨w3.heap.size, 10, none⟩ = some (.slice at3 ts.length ct3) ∧ V.cell? ⟨w3.heap.size, 11, none⟩ = some (.bool en) ∧ V.cell? ⟨w3.heap.size, 12, none⟩ = some (.slice an3 nx.length cn3) ∧ V.cell? ⟨w3.heap.size, 13, none⟩ = some (.string rt) ∧ (convert 22 9 (.slice a2 l.length c2)).run Tryz.prog V = .ok (.string ⟨l.toArray⟩) V)) := hide (fun V hv => by
    have kv := k6.below hv k6l
    have q0 := kv.cell 0
    have q1 := kv.cell 1
    have q2 := kv.cell 2
    have q3 := kv.cell 3
    have q4 := kv.cell 4
    have q5 := kv.cell 5
    have q6 := kv.cell 6
    have q7 := kv.cell 7
    have q8 := kv.cell 8
    have q9 := kv.cell 9
    have q10 := kv.cell 10
    have q11 := kv.cell 11
    have q12 := kv.cell 12
    have q13 := kv.cell 13
    simp only [List.getElem?_cons_zero, List.getElem?_cons_succ] at q0 q1 q2 q3 q4 q5 q6 q7 q8 q9 q10 q11 q12 q13
    exact ⟨q0, q1, q2, q3, q4, q5, q6, q7, q8, q9, q10, q11, q12, q13, str_any V _ _ (Hr2.out.below (hb26.trans (hv.mono hb26.size)) (Nat.le_refl _))⟩)
  have bD : Below w6.heap.size w6 w6.drew := (Below.refl _ w6).drew
  have HP6 := hide (fun V (hV : Below w6.heap.size w6 V) => HPB.out _ V (R6.below hV (Nat.le_refl _)))
  have HO6 := hide (fun V (hV : Below w6.heap.size w6 V) => HBO.out _ V (R6.below hV (Nat.le_refl _)))
  have HB6 := hide hB6
  have Hw6 := hide hw6
  clear o5 b6 hb5 k6 R6 R3 K4 hB6 hB5 hB4 hB3 hb26 hb25 hb24 HS HPB HBO Hw4 hw6
  cases FL
  · clear HSA HP6 HO6 HGood
    go_wp2
    all_goals (try rw [Hw6.out])
    refine wp_region_quiet_below (by kernel_rfl) (by kernel_rfl) ?_
    repeat (go_big_quiet_step (fail))
    refine wpQuiet_nil ?_
    intro _ hw9
    obtain ⟨⟨dq, osq⟩, hw8⟩ := hw9
    subst hw8
    have d1 := below_regrown w6 dq osq
    generalize Sort.grow (redrawn w6 dq) osq = u1 at d1 ⊢
    have HF := hide (HB6.out.trans (d1.mono HB6.out.size))
    clear d1
    go_wp2
    go_ret
    exact ⟨rfl, HF.out⟩
  · obtain ⟨hgb, hgl⟩ := HGood.out rfl
    rw [hgb] at HO6
    rw [hgl] at HP6
    clear HGood hgb hgl
    go_wp2
    all_goals (try rw [Hw6.out])
    go_region_held_law (fun w' => w'.cell? ⟨w3.heap.size, 0, none⟩ = some (.int .i64 id) ∧ w'.cell? ⟨w3.heap.size, 1, none⟩ = some (.int .i64 ep) ∧ w'.cell? ⟨w3.heap.size, 2, none⟩ = some (.int .i64 rd) ∧ w'.cell? ⟨w3.heap.size, 3, none⟩ = some (.string md) ∧ w'.cell? ⟨w3.heap.size, 4, none⟩ = some (.int .i64 qr) ∧ w'.cell? ⟨w3.heap.size, 5, none⟩ = some (.int .i64 qb) ∧ w'.cell? ⟨w3.heap.size, 6, none⟩ = some (.slice aq3 qw.length cq3) ∧ w'.cell? ⟨w3.heap.size, 7, none⟩ = some (.int .i64 tr) ∧ w'.cell? ⟨w3.heap.size, 8, none⟩ = some (.slice aw3 tw.length cw3) ∧ w'.cell? ⟨w3.heap.size, 9, none⟩ = some (.slice ah3 th.length ch3) ∧ w'.cell? ⟨w3.heap.size, 10, none⟩ = some (.slice at3 ts.length ct3) ∧ w'.cell? ⟨w3.heap.size, 11, none⟩ = some (.bool en) ∧ w'.cell? ⟨w3.heap.size, 12, none⟩ = some (.slice an3 nx.length cn3) ∧ w'.cell? ⟨w3.heap.size, 13, none⟩ = some (.string rt) ∧ (convert 22 9 (.slice a2 l.length c2)).run Tryz.prog w' = .ok (.string ⟨l.toArray⟩) w') ((refine HSA.out _ ?_; repeat (first | with_reducible exact bD | with_reducible exact d2 | with_reducible exact d1 | with_reducible exact Below.refl _ _ | refine Below.drew ?_))) ((first
      | (go_at_call 18; (with_reducible refine (HO6.out u1 d1).mono ?_); rintro e u2 ⟨rfl, hb2'⟩; have d2 := d1.trans (hb2'.mono d1.size))
      | (go_at_call 16; (with_reducible refine (HP6.out w6.drew bD).mono ?_); rintro e u1 ⟨v1, rfl, o1, hb1⟩; have d1 := bD.trans (hb1.mono bD.size); obtain ⟨a7, c7, rfl⟩ := o1.rd.shape; have cv1 := str_any u1 _ _ o1.rd)))
    have HF := hide (HB6.out.trans (d2.mono HB6.out.size))
    clear d2 d1 o1 hb1 hb2'
    go_wp2
    go_ret
    exact ⟨rfl, HF.out⟩

theorem fnRead_met (os : Os) (args : Array Value) : laidMetH Tryz.prog Rows.fnReadRow.laid ((sentOn (World.holding Tryz.prog os ⟨#[.cells #[.string noBlockS] 299], #[], []⟩) (World.holding Tryz.prog default ⟨#[], #[], []⟩).heap.size).forCall (fun _ _ => 0) ⟨#[], args, []⟩).memory := by
  rw [MakeChecks.laidMetH_plain _ _ _ (by kernel_rfl)]
  exact laidMet_of_run (ps := [.cell 0 0, .cell (World.holding Tryz.prog default ⟨#[], #[], []⟩).heap.size 0]) 8 (by kernel_rfl) (by kernel_rfl) (by kernel_rfl)
theorem fnRead_vars {H : Type} (enc : TypeId × Value → H) {W : World} {x0 : Value} (h0 : W.var? Tryz.prog "loop.example/g00194/impl.errNoBlock" = some #[x0]) (i0 : IsIface x0) (sp : Nat → Bool) :
    DataW.TrodVars enc Tryz.prog W sp ["loop.example/g00194/impl.errNoBlock"] [tok enc x0] [.cell 0 0] :=
  ⟨0, 63, #[x0], 1, [], [], Tryz.gEb, Tryz.gEbType, h0, trod_held Tryz.underlying63 i0 0, rfl, rfl⟩

set_option maxRecDepth 100000 in
theorem fnRead_lifted (os : Os) (started : os.Started) (H : Type) (enc : TypeId × Value → H) :
    ReturnsInHanded {} Tryz.checked os 5 .any (fun w args => (Rows.fnReadSpec.pre enc Tryz.prog Tryz.f5 [] false w args ∧ laidMetH Tryz.prog Rows.fnReadRow.laid w) ∧ sizedMet enc Tryz.prog Tryz.f5 (OpenSpec.ofChange Rows.fnReadSpec) false w args)
      (Rows.fnReadSpec.post enc Tryz.prog Tryz.f5 false true false false) := by
  refine returnsInHanded_of_change_and (C := Tryz.checked) (X := fun w _ => laidMetH Tryz.prog Rows.fnReadRow.laid w) (fun _ _ _ hh h => h.of_heap hh) fnRead_own started (by kernel_rfl) Tryz.func5
    (ChangeSpec.witness_at (enc := enc) (C := Tryz.checked) (os := os) (X := fun w _ => laidMetH Tryz.prog Rows.fnReadRow.laid w) false (sentOn (World.holding Tryz.prog os ⟨#[.cells #[.string noBlockS] 299], #[], []⟩) (World.holding Tryz.prog default ⟨#[], #[], []⟩).heap.size) #[.slice none 0 0] 8 rfl (by kernel_rfl) (by kernel_rfl) (by kernel_rfl) (by kernel_rfl) (by kernel_rfl) (fnRead_met os _)) ?_
  intro W base args ds gs before hval0 hW _ _ hL0 _
  have hL : laidMet Tryz.prog Rows.fnReadRow.laid W := by rw [MakeChecks.laidMetH_plain _ _ _ (by kernel_rfl)] at hL0; exact hL0
  have hval : ∀ (j : Nat) t v, Tryz.f5.params[j]? = some t → args[j]? = some v → Value.okWide Tryz.prog W .any base t v := hval0
  have hW' := hW
  obtain ⟨p, q, hA0, hV0, rfl, hfz, hnd⟩ := hW
  have hV : DataW.TrodVars enc Tryz.prog W (fun _ => true) ["loop.example/g00194/impl.errNoBlock"] gs q := hV0
  obtain ⟨b0, s0, hv0, hc0, hs0, hz0⟩ := laid_sentinel hL Tryz.gEb Tryz.gEbType Tryz.underlying63 Tryz.rowEb Tryz.underlying280 Tryz.underlying299 rfl rfl Tryz.underlying9 Tryz.cellsEs Tryz.cellsStr
  obtain ⟨rfl, rfl⟩ := hV.unique (fnRead_vars enc hv0 trivial _)
  have hge : Ge W b0 := by unfold Ge sentV; simpa using World.var?_cell Tryz.gEb hv0 0
  have hG : 0 < W.heap.size := by
    rcases Nat.lt_or_ge 0 W.heap.size with h | h
    · exact h
    · unfold Ge at hge; simp [World.cell?, Array.getElem?_eq_none h] at hge
  have hA : DataW.TrodAll enc Tryz.prog W 0 (fun _ => true) true Tryz.f5.params.toList args.toList ds p := hA0
  rw [Tryz.params5] at hA hval
  obtain ⟨v0, vs0, d0, ds0, p0, q0, hargs, rfl, rfl, h0, r0⟩ := trodAll_cons hA
  obtain ⟨rfl, rfl, rfl⟩ := trodAll_nil r0
  obtain rfl : args = #[v0] := by cases args; simp_all
  obtain ⟨a0, len0, cap0, rfl⟩ := okWide_slice Tryz.underlying22 (hval 0 22 v0 rfl rfl)
  have k0 := h0
  have lt0 : ∀ x ∈ p0, x.block < W.heap.size := by obtain ⟨m, hm⟩ := k0; exact DataW.trod_lt m _ _ _ hm
  obtain ⟨z0, w0⟩ : ∃ zs, IsRow .u8 W a0 len0 cap0 zs := by
    obtain ⟨fuel, hf⟩ := h0
    rcases open_ints Tryz.underlying22 Tryz.underlying5 (by kernel_rfl) hf with ⟨hcs, _⟩ | ⟨x, l, c, zs, hcs, _, hl, hm, hz, _, hcell, hwz⟩
    · simp [Value.cells] at hcs
      obtain ⟨rfl, rfl, rfl⟩ := hcs
      exact ⟨[], .inl ⟨rfl, rfl, rfl, rfl⟩⟩
    · simp [Value.cells] at hcs
      obtain ⟨rfl, rfl, rfl⟩ := hcs
      exact ⟨zs, .inr ⟨_, rfl, hl, hm, by simpa using hz, hcell, hwz⟩⟩
  clear hA0 hval0
  refine (fnRead_walk a0 len0 cap0 z0 W b0 hge hG w0).mono fun e W' ⟨he, bel⟩ => ?_
  subst he
  exact ⟨_, rfl, _, _, _, [], _, [.cell 0 0], hW', trodAll_mk1 (shut_bool Tryz.underlying4 _), (trodAll_cons_mk (Below.trod fnRead_laidOut (by kernel_rfl) (of_decide_eq_true (by kernel_rfl)) k0 bel lt0) trodAll_mk0), fnRead_vars enc (var_belowE hv0 bel hG) trivial _, bel.frame _, fun h => by cases h⟩

theorem fnRead_holds : Rows.FnReadSaid :=
  OpenClaim.holds_of_wide 5 Tryz.f5 rfl rfl rfl rfl rfl rfl rfl ⟨rfl, rfl, rfl, rfl, rfl⟩ rfl rfl rfl rfl rfl (by kernel_rfl) Tryz.func5 (by kernel_rfl)
    (of_decide_eq_true (by kernel_rfl)) (by unfold Func.isWrapper; first | (rw [if_pos (by decide +kernel)]; kernel_rfl) | (rw [if_neg (by decide +kernel)]; exact ⟨rfl, rfl⟩))
    (fun os started H enc _ => fnRead_lifted os started H enc)

/-- The card: the variable is tied to the program's text by the given tie. -/
theorem fnRead_card : Rows.FnReadCardSaid :=
  Claim7.holds_tied_plain_at .later [] [.sentinel] true Rows.fnReadCard.stood.harness true
    fnRead_holds (fun _ h => by cases h) (by kernel_rfl) (fun _ h => by cases h) fnRead_row_tie rfl ⟨rfl, rfl⟩ (by kernel_rfl) rfl
    (fun f fn hf hfn => by
      obtain rfl : f = 5 := Option.some.inj ((show Tryz.prog.funcNamed Rows.fnReadRow.func = some 5 by kernel_rfl).symm.trans hf) |>.symm
      obtain rfl : fn = Tryz.f5 := (Option.some.inj (Tryz.func5.symm.trans hfn)).symm
      exact ⟨by kernel_rfl, fun j t ht => by
        rw [Tryz.params5] at ht
        have hm : t ∈ [22] := by simpa using Array.mem_of_getElem? ht
        have hall : ([22].all fun u => !Tryz.prog.wantsStandIn u) = true := by kernel_rfl
        exact (show Tryz.prog.wantsStandIn t = false by simpa using List.all_eq_true.1 hall t hm)⟩)
    (by kernel_rfl)

end Go.Proofs.YtkjlmnhdmlolmaaGreatDoor
