/- What the row's condition says of the named error: its cell; a world that meets it. A drawn block that is right comes back of its bytes, where the named error lies as the program's text lays it: the law FnBlocks returns true. -/
import Derived.Test.YtcmmdkabocfnfaaGreatDoorZbBkGetO
import Derived.LaidLaws
import Derived.LaidMore
import Derived.OpenVars
import Derived.Stop.LaidErr
import Derived.Stop.Joined
import Derived.RowKitTokens
import Derived.Test.YtcmmdkabocfnfaaGreatDoorRows
import Derived.Test.YtcmmdkabocfnfaaGreatDoorTie
import Derived.Test.YtcmmdkabocfnfaaGreatDoorCards
import Derived.Test.YtcmmdkabocfnfaaGreatDoorZbDraw
import Derived.Test.YtcmmdkabocfnfaaGreatDoorZbDrawAk
import Derived.Test.YtcmmdkabocfnfaaGreatDoorZbBkSameI
import Derived.Test.YtcmmdkabocfnfaaGreatDoorZbFlImpl
import Derived.Test.YtcmmdkabocfnfaaGreatDoorZbBkOk
import Derived.Test.YtcmmdkabocfnfaaGreatDoorZbBkGetI
import Derived.Test.YtcmmdkabocfnfaaGreatDoorZbBkPutI
import Derived.Test.YtcmmdkabocfnfaaGreatDoorZbBkOkI
import Derived.ChangeSame
import Derived.ChangeVars
import Derived.JoinedOf
import Derived.WalkKit
import Derived.ProofKit
import Derived.OpenShut
import Derived.ShutString
import Derived.ChangeOld
import Derived.Below
import Derived.SliceStrings
import Derived.SevenTiedAt
namespace Go.Proofs.YtcmmdkabocfnfaaGreatDoor
open Go.ChangeShapes Go.WideShapes Go.RowKit
set_option linter.unusedVariables false

theorem Tryz.gEb : Tryz.prog.globalNamed "loop.example/g00194/impl.errNoBlock" = some 0 := by kernel_rfl
theorem Tryz.gEbType : (Tryz.prog.globals[0]?).map (·.type) = some 58 := by kernel_rfl
theorem Tryz.cellsEs : Tryz.prog.cellsOf 195 = 1 := by kernel_rfl
theorem Tryz.cellsStr : Tryz.prog.cellsOf 9 = 1 := by kernel_rfl
theorem Tryz.starEs : "*" ++ "errors.errorString" = "*errors.errorString" := by decide
theorem Tryz.rowEb (u : TypeId) (h : Tryz.prog.typeName? 3 u = some "*errors.errorString") : u = 171 :=
  typeName_ptr_named (nm := "errors.errorString") (by rw [Tryz.starEs]; kernel_rfl) (by kernel_rfl) (by decide) u (by rw [Tryz.starEs]; exact h)
/-- "these bytes are no block" -/
abbrev noBlockS : ByteArray := { data := #[116, 104, 101, 115, 101, 32, 98, 121, 116, 101, 115, 32, 97, 114, 101, 32, 110, 111, 32, 98, 108, 111, 99, 107] }
/-- The variable's cell laid anew: the error that lies in block 'lo'. -/
def sentPut (lo : Nat) : Obj → Obj
  | .cells _ t frozen => .cells #[.iface 171 (.pointer (some ⟨lo, 0, none⟩))] t frozen
  | o => o
/-- A world that meets the condition: w0, the variable's cell laid. -/
def sentOn (w0 : World) (lo : Nat) : World := { w0 with heap := w0.heap.modify 0 (sentPut lo) }
theorem var_belowE {W W' : World} {B : Nat} {cs : Array Value} (h : W.var? Tryz.prog "loop.example/g00194/impl.errNoBlock" = some cs) (hb : Below B W W') (hG : 0 < B) : W'.var? Tryz.prog "loop.example/g00194/impl.errNoBlock" = some cs := by
  unfold World.var? at h ⊢
  rw [Tryz.gEb] at h ⊢
  simp only [Option.bind_some] at h ⊢
  rw [hb.block _ hG]
  exact h
end Go.Proofs.YtcmmdkabocfnfaaGreatDoor

namespace Go.Proofs.YtcmmdkabocfnfaaGreatDoor
open Go.ChangeShapes Go.WideShapes Go.ChangeAt Go.RowKit
open Go.ChangeMaps (open_string shut_string)
set_option linter.unusedVariables false

theorem fnBlocks_own : ownKnob Tryz.prog.godebug = none := by kernel_rfl
theorem fnBlocks_laidOut : laidOutB Tryz.prog = true := by kernel_rfl

theorem load_bB {ops : Array Oper} {rest : List Oper} {op : Oper} {a : Act} {w : World} {Q : Exit → Act → World → Prop} (x : Operand) (ho : op.op = .load 32 x) (B : Nat) (hx : a.eval x = .pointer (some ⟨B, 0, none⟩)) {c0 c1 c2 c3 c4 c5 c6 c7 c8 c9 c10 c11 c12 c13 M : Value} (h : Blk w B 32 [c0, c1, c2, c3, c4, c5, c6, c7, c8, c9, c10, c11, c12, c13]) (hM : Value.agg #[c0, c1, c2, c3, c4, c5, c6, c7, c8, c9, c10, c11, c12, c13] = M)
    (hw : Region.wanted op (yielded ops a.tmps) = true) (hK : wpList Tryz.prog ops Q rest (a.put op.dst M) w) : wpList Tryz.prog ops Q (op :: rest) a w := by
  subst hM
  unfold wpList
  rw [if_pos hw]
  exact .inl (wp_load_mid 32 x ho B 0 hx [c0, c1, c2, c3, c4, c5, c6, c7, c8, c9, c10, c11, c12, c13] _ (fun j v hv => by rw [Nat.zero_add]; exact (h.cell j).trans hv) Tryz.underlying32 rfl (by kernel_rfl) hK)
theorem blP_few9 (b : Bk) : (blP b).length ≤ 10000 := by
  by_cases h : blB b = true
  · have h1 := parts_len (bl_put h)
    rw [← blP_is b h]
    simp only [List.length_append]
    omega
  · have e : blP b = [] := by unfold blP; rw [if_neg h]
    rw [e]; simp
theorem blP_pos {b : Bk} (h : blB b = true) : 0 < (blP b).length := by
  unfold blP
  rw [if_pos h]
  unfold textB
  have := putG_pos5 (b.rt.size : Int)
  simp only [List.length_append]
  omega
open Go.Sort
set_option maxRecDepth 20000 in
set_option maxHeartbeats 8000000 in
theorem fnBlocks_walk (a0 : Option Addr) (len0 cap0 : Nat) (z0 : List Int) (w : World) (b0 : Addr) (hge : Ge w b0) (hG : 0 < w.heap.size) (w0 : IsRow .u8 w a0 len0 cap0 z0) :
    Calls Tryz.prog 5 #[.slice a0 len0 cap0] w fun e w' => e = .returned (.bool true) ∧ Below w.heap.size w w' := by
  obtain ⟨cd, rfl, hr⟩ := w0.rd
  clear w0
  have hcap : cd.length ≤ 9223372036854775807 := by
    rcases hr with ⟨_, _, _, e, _⟩ | ⟨_, _, cap, _, _, h1, h2, _⟩
    · subst e; simp
    · unfold maxLen at h2; omega
  have Hbig := hide (big_any _ cd w hr hcap)
  by_cases hbig : 1048576 < cd.length
  · rw [decide_eq_true hbig] at Hbig
    clear hr
    go_enter Tryz.func5, Tryz.ntmps5
    go_wp2_with fail
    refine Hbig.out.mono ?_
    rintro e w' ⟨rfl, rfl⟩
    go_wp2
    go_ret
    exact ⟨rfl, Below.refl _ _⟩
  rw [decide_eq_false hbig] at Hbig
  have HD := hide (drawPutBlock_any w _ cd hr (by omega))
  have HGe := hide (fun V (hV : Below w.heap.size w V) => hge.below hV hG)
  have HG0 := hide hG
  clear hr hge hcap hbig hG
  go_enter Tryz.func5, Tryz.ntmps5
  go_wp2_with fail
  refine Hbig.out.mono ?_
  rintro e w ⟨rfl, rfl⟩
  clear Hbig
  go_wp2_with fail
  refine HD.out.mono ?_
  rintro e w2 ⟨b, bv, rfl, hrb, hS, hb2⟩
  obtain ⟨aq, cq, aw, cw, ah, ch, at_, ct, an, cn, rfl⟩ := hrb.shapes9
  have hfb := hS.few
  have htr : -9223372036854775808 ≤ b.tr ∧ b.tr ≤ 9223372036854775807 := by have := hS.tr; omega
  have hrd : -9223372036854775807 ≤ b.rd ∧ b.rd ≤ 9223372036854775807 := by have := hS.rd; omega
  have HRB := hide (fun V (hV : Below w2.heap.size w2 V) => hrb.below hV (Nat.le_refl _))
  have HPB := hide (fun V (hV : Below w2.heap.size w2 V) => implPutBlock_any b _ V (HRB.out V hV) hfb htr)
  have HSO := hide (fun V (hV : Below w2.heap.size w2 V) => specBlockOk_any b _ V (HRB.out V hV) hfb htr)
  have HIO := hide (fun v V (hv : RdK V b v) => implBlockOk_any b v V hv hfb htr)
  have HFO := hide (fun v V (hv : RdK V b v) => implFollows_any b v V hv hfb hrd)
  have HSM := hide (fun v v2 V (hv : RdK V b v) (hv2 : RdK V b v2) => implSameBlock_any b b v v2 V hv hv2 hfb hfb)
  rw [sb9_self] at HSM
  have HFew := blP_few9 b
  have Hput := hide (fun h => gI_put (x := b) (l := blP b) h rfl)
  have Hpos := hide (fun h => blP_pos (b := b) h)
  have Hnil : Hid (blB b = false → blP b = []) := hide (fun h => by unfold blP; rw [if_neg (by rw [h]; simp)])
  generalize hP : blP b = P at HPB HFew Hput Hpos Hnil
  clear hP
  generalize flB b = FL at HFO
  simp only [bkV] at HPB HSO HIO HFO HSM ⊢
  obtain ⟨w3, hw3⟩ : ∃ y, w2.alloc (.cells #[.int .i64 b.id, .int .i64 b.ep, .int .i64 b.rd, .string b.md, .int .i64 b.qr, .int .i64 b.qb, .slice aq b.qw.length cq, .int .i64 b.tr, .slice aw b.tw.length cw, .slice ah b.th.length ch, .slice at_ b.ts.length ct, .bool b.en, .slice an b.nx.length cn, .string b.rt] 32) = y := ⟨_, rfl⟩
  have b3 : Below w2.heap.size w2 w3 := by rw [← hw3]; exact (Below.refl _ w2).alloc (Nat.le_refl _) _
  have k3 : Blk w3 w2.heap.size 32 [.int .i64 b.id, .int .i64 b.ep, .int .i64 b.rd, .string b.md, .int .i64 b.qr, .int .i64 b.qb, .slice aq b.qw.length cq, .int .i64 b.tr, .slice aw b.tw.length cw, .slice ah b.th.length ch, .slice at_ b.ts.length ct, .bool b.en, .slice an b.nx.length cn, .string b.rt] := by rw [← hw3]; exact Blk.new w2 _ _
  have HB2 := hide hb2
  have Hb3 := hide b3
  have Hw3 := hide hw3
  have K3 := hide k3
  clear HD hrb hfb htr hrd hb2 k3 b3 hw3 hS
  go_upto_region 4 with fail
  rw [Hw3.out]
  clear Hw3
  obtain ⟨M, hM⟩ : ∃ y, Value.agg #[.int .i64 b.id, .int .i64 b.ep, .int .i64 b.rd, .string b.md, .int .i64 b.qr, .int .i64 b.qb, .slice aq b.qw.length cq, .int .i64 b.tr, .slice aw b.tw.length cw, .slice ah b.th.length ch, .slice at_ b.ts.length ct, .bool b.en, .slice an b.nx.length cn, .string b.rt] = y := ⟨_, rfl⟩
  have HIOb := hide (fun V (hV : Below w2.heap.size w2 V) => HIO.out _ V (HRB.out V hV))
  have HFOb := hide (fun V (hV : Below w2.heap.size w2 V) => HFO.out _ V (HRB.out V hV))
  rw [hM] at HPB HSO HIOb HFOb ⊢
  go_wp2_with (refine load_bB _ rfl w2.heap.size rfl K3.out hM (by rfl) ?_)
  refine (HPB.out w3 Hb3.out).mono ?_
  rintro e w4 ⟨v4, rfl, o4, hb4⟩
  obtain ⟨pa, pc, rfl⟩ := o4.rd.shape
  have Hb4 := hide (Hb3.out.trans (hb4.mono Hb3.out.size))
  have K4 := hide (K3.out.below hb4 K3.out.lt)
  have R4 := hide o4.rd
  clear o4 hb4 K3 HPB Hb3
  go_wp2_with (refine load_bB _ rfl w2.heap.size rfl K4.out hM (by rfl) ?_)
  refine (HSO.out w4 Hb4.out).mono ?_
  rintro e w5 ⟨rfl, hb5⟩
  have Hb5 := hide (Hb4.out.trans (hb5.mono Hb4.out.size))
  have K5 := hide (K4.out.below hb5 K4.out.lt)
  have R5 := hide (R4.out.below hb5 (Nat.le_refl _))
  clear hb5 K4 R4 HSO Hb4
  cases hbl : blB b
  · have hz : P.length = 0 := by rw [Hnil.out hbl]; rfl
    have hzb : ((P.length : Int) == 0) = true := by rw [hz]; rfl
    rw [hbl] at HIOb
    clear hz Hput Hpos Hnil hbl
    go_wp2_with (first
      | (go_at_call 17; refine (HIOb.out w5 Hb5.out).mono ?_; rintro e w6 ⟨rfl, hb6⟩)
      | (refine load_bB _ rfl w2.heap.size rfl K5.out hM (by rfl) ?_))
    go_ret
    exact ⟨rfl, HB2.out.trans ((Hb5.out.trans (hb6.mono Hb5.out.size)).mono HB2.out.size)⟩
  · have hg := Hput.out hbl
    have hz2 := HB2.out.size
    have hz5 := Hb5.out.size
    have HI := hide (implGetBlock_any (.slice pa P.length pc) P w5 b0 R5.out (by omega) (HGe.out w5 (HB2.out.trans (Hb5.out.mono HB2.out.size))) (by have := HG0.out; omega))
    rw [hg] at HI
    have hp := Hpos.out hbl
    have hpi : (0 : Int) < (P.length : Int) := by omega
    have hpd : decide ((0 : Int) < (P.length : Int)) = true := decide_eq_true hpi
    rw [hbl] at HIO
    clear hg Hput Hpos Hnil hbl
    simp only at HI
    go_wp2_with fail
    refine HI.out.mono ?_
    rintro e w6 ⟨v6, rfl, o6, -, hb6⟩
    obtain ⟨aq6, cq6, aw6, cw6, ah6, ch6, at6, ct6, an6, cn6, rfl⟩ := o6.rd.shapes9
    have b6 := Hb5.out.trans (hb6.mono Hb5.out.size)
    have k6 := K5.out.below hb6 K5.out.lt
    simp only [bkV]
    obtain ⟨w7, hw7⟩ : ∃ y, w6.alloc (.cells #[.int .i64 b.id, .int .i64 b.ep, .int .i64 b.rd, .string b.md, .int .i64 b.qr, .int .i64 b.qb, .slice aq6 b.qw.length cq6, .int .i64 b.tr, .slice aw6 b.tw.length cw6, .slice ah6 b.th.length ch6, .slice at6 b.ts.length ct6, .bool b.en, .slice an6 b.nx.length cn6, .string b.rt] 32) = y := ⟨_, rfl⟩
    have b7 : Below w6.heap.size w6 w7 := by rw [← hw7]; exact (Below.refl _ w6).alloc (Nat.le_refl _) _
    have y7 : Blk w7 w6.heap.size 32 [.int .i64 b.id, .int .i64 b.ep, .int .i64 b.rd, .string b.md, .int .i64 b.qr, .int .i64 b.qb, .slice aq6 b.qw.length cq6, .int .i64 b.tr, .slice aw6 b.tw.length cw6, .slice ah6 b.th.length ch6, .slice at6 b.ts.length ct6, .bool b.en, .slice an6 b.nx.length cn6, .string b.rt] := by rw [← hw7]; exact Blk.new w6 _ _
    have k7 := k6.below b7 k6.lt
    have RY := hide (o6.rd.below b7 (Nat.le_refl _))
    have Hb7 := hide (b6.trans (b7.mono b6.size))
    have Hw7 := hide hw7
    have HY := hide (fun (d : Nat) (os : Array Obj) => below_regrown w7 d os)
    have HZ := hide (fun (d : Nat) (os : Array Obj) => Hb7.out.trans ((below_regrown w7 d os).mono Hb7.out.size))
    have Q1 := hide (fun (d : Nat) (os : Array Obj) => Calls.regrown_of (HSM.out _ _ (grow (redrawn w7 d) os) (RY.out.below (HY.out d os) (Nat.le_refl _)) (HRB.out _ (HZ.out d os))))
    have Q2 := hide (fun (d : Nat) (os : Array Obj) => Calls.regrown_of (HIO.out _ (grow (redrawn w7 d) os) (RY.out.below (HY.out d os) (Nat.le_refl _))))
    have Q3 := hide (fun (d : Nat) (os : Array Obj) => Calls.regrown_of (HFO.out _ (grow (redrawn w7 d) os) (RY.out.below (HY.out d os) (Nat.le_refl _))))
    have Q4 := hide (fun (d : Nat) (os : Array Obj) => Calls.regrown_of (HFOb.out (grow (redrawn w7 d) os) (HZ.out d os)))
    simp only at Q1 Q2 Q3
    go_upto_region 8 with fail
    clear Hw7 hw7
    obtain ⟨My, hMy⟩ : ∃ y, Value.agg #[.int .i64 b.id, .int .i64 b.ep, .int .i64 b.rd, .string b.md, .int .i64 b.qr, .int .i64 b.qb, .slice aq6 b.qw.length cq6, .int .i64 b.tr, .slice aw6 b.tw.length cw6, .slice ah6 b.th.length ch6, .slice at6 b.ts.length ct6, .bool b.en, .slice an6 b.nx.length cn6, .string b.rt] = y := ⟨_, rfl⟩
    rw [hM, hMy] at Q1
    rw [hMy] at Q2 Q3 ⊢
    have hFF : (FL == FL) = true := by simp
    have g0 := cell_regrown (k7.cell 0)
    have m0 := cell_regrown (y7.cell 0)
    have g1 := cell_regrown (k7.cell 1)
    have m1 := cell_regrown (y7.cell 1)
    have g2 := cell_regrown (k7.cell 2)
    have m2 := cell_regrown (y7.cell 2)
    have g3 := cell_regrown (k7.cell 3)
    have m3 := cell_regrown (y7.cell 3)
    have g4 := cell_regrown (k7.cell 4)
    have m4 := cell_regrown (y7.cell 4)
    have g5 := cell_regrown (k7.cell 5)
    have m5 := cell_regrown (y7.cell 5)
    have g6 := cell_regrown (k7.cell 6)
    have m6 := cell_regrown (y7.cell 6)
    have g7 := cell_regrown (k7.cell 7)
    have m7 := cell_regrown (y7.cell 7)
    have g8 := cell_regrown (k7.cell 8)
    have m8 := cell_regrown (y7.cell 8)
    have g9 := cell_regrown (k7.cell 9)
    have m9 := cell_regrown (y7.cell 9)
    have g10 := cell_regrown (k7.cell 10)
    have m10 := cell_regrown (y7.cell 10)
    have g11 := cell_regrown (k7.cell 11)
    have m11 := cell_regrown (y7.cell 11)
    have g12 := cell_regrown (k7.cell 12)
    have m12 := cell_regrown (y7.cell 12)
    have g13 := cell_regrown (k7.cell 13)
    have m13 := cell_regrown (y7.cell 13)
    have HP := hide hp
    clear k7 y7 k6 b6 b7 o6 hb6 K5 R5 HI HIO HFO HSM HIOb HFOb hp
    refine wp_region_quiet_below (by kernel_rfl) (by kernel_rfl) ?_
    repeat (go_big_quiet_step ((first | (go_at_call 20; exact Q1.out _ _) | (go_at_call 17; exact Q2.out _ _) | (go_at_call 21; with_reducible exact Q3.out _ _) | (go_at_call 21; with_reducible exact Q4.out _ _))))
    refine wpQuiet_nil ?_
    intro _ hw'
    obtain ⟨⟨dq, osq⟩, hw''⟩ := hw'
    subst hw''
    go_wp2
    go_ret
    exact ⟨ret_bool (decide_eq_true HP.out), HB2.out.trans ((HZ.out dq osq).mono HB2.out.size)⟩

theorem fnBlocks_met (os : Os) (args : Array Value) : laidMetH Tryz.prog Rows.fnBlocksRow.laid ((sentOn (World.holding Tryz.prog os ⟨#[.cells #[.string noBlockS] 195], #[], []⟩) (World.holding Tryz.prog default ⟨#[], #[], []⟩).heap.size).forCall (fun _ _ => 0) ⟨#[], args, []⟩).memory := by
  rw [MakeChecks.laidMetH_plain _ _ _ (by kernel_rfl)]
  exact laidMet_of_run (ps := [.cell 0 0, .cell (World.holding Tryz.prog default ⟨#[], #[], []⟩).heap.size 0]) 8 (by kernel_rfl) (by kernel_rfl) (by kernel_rfl)
theorem fnBlocks_vars {H : Type} (enc : TypeId × Value → H) {W : World} {x0 : Value} (h0 : W.var? Tryz.prog "loop.example/g00194/impl.errNoBlock" = some #[x0]) (i0 : IsIface x0) (sp : Nat → Bool) :
    DataW.TrodVars enc Tryz.prog W sp ["loop.example/g00194/impl.errNoBlock"] [tok enc x0] [.cell 0 0] :=
  ⟨0, 58, #[x0], 1, [], [], Tryz.gEb, Tryz.gEbType, h0, trod_held Tryz.underlying58 i0 0, rfl, rfl⟩

set_option maxRecDepth 100000 in
theorem fnBlocks_lifted (os : Os) (started : os.Started) (H : Type) (enc : TypeId × Value → H) :
    ReturnsInHanded {} Tryz.checked os 5 .any (fun w args => (Rows.fnBlocksSpec.pre enc Tryz.prog Tryz.f5 [] false w args ∧ laidMetH Tryz.prog Rows.fnBlocksRow.laid w) ∧ sizedMet enc Tryz.prog Tryz.f5 (OpenSpec.ofChange Rows.fnBlocksSpec) false w args)
      (Rows.fnBlocksSpec.post enc Tryz.prog Tryz.f5 false true false false) := by
  refine returnsInHanded_of_change_and (C := Tryz.checked) (X := fun w _ => laidMetH Tryz.prog Rows.fnBlocksRow.laid w) (fun _ _ _ hh h => h.of_heap hh) fnBlocks_own started (by kernel_rfl) Tryz.func5
    (ChangeSpec.witness_at (enc := enc) (C := Tryz.checked) (os := os) (X := fun w _ => laidMetH Tryz.prog Rows.fnBlocksRow.laid w) false (sentOn (World.holding Tryz.prog os ⟨#[.cells #[.string noBlockS] 195], #[], []⟩) (World.holding Tryz.prog default ⟨#[], #[], []⟩).heap.size) #[.slice none 0 0] 8 rfl (by kernel_rfl) (by kernel_rfl) (by kernel_rfl) (by kernel_rfl) (by kernel_rfl) (fnBlocks_met os _)) ?_
  intro W base args ds gs before hval0 hW _ _ hL0 _
  have hL : laidMet Tryz.prog Rows.fnBlocksRow.laid W := by rw [MakeChecks.laidMetH_plain _ _ _ (by kernel_rfl)] at hL0; exact hL0
  have hval : ∀ (j : Nat) t v, Tryz.f5.params[j]? = some t → args[j]? = some v → Value.okWide Tryz.prog W .any base t v := hval0
  have hW' := hW
  obtain ⟨p, q, hA0, hV0, rfl, hfz, hnd⟩ := hW
  have hV : DataW.TrodVars enc Tryz.prog W (fun _ => true) ["loop.example/g00194/impl.errNoBlock"] gs q := hV0
  obtain ⟨b0, s0, hv0, hc0, hs0, hz0⟩ := laid_sentinel hL Tryz.gEb Tryz.gEbType Tryz.underlying58 Tryz.rowEb Tryz.underlying171 Tryz.underlying195 rfl rfl Tryz.underlying9 Tryz.cellsEs Tryz.cellsStr
  obtain ⟨rfl, rfl⟩ := hV.unique (fnBlocks_vars enc hv0 trivial _)
  have hge : Ge W b0 := by unfold Ge sentV; simpa using World.var?_cell Tryz.gEb hv0 0
  have hG : 0 < W.heap.size := by
    rcases Nat.lt_or_ge 0 W.heap.size with h | h
    · exact h
    · unfold Ge at hge; simp [World.cell?, Array.getElem?_eq_none h] at hge
  have hA : DataW.TrodAll enc Tryz.prog W 0 (fun _ => true) true Tryz.f5.params.toList args.toList ds p := hA0
  rw [Tryz.params5] at hA hval
  obtain ⟨v0, vs0, d0, ds0, p0, q0, hargs, rfl, rfl, h0, r0⟩ := trodAll_cons hA
  obtain ⟨rfl, rfl, rfl⟩ := trodAll_nil r0
  obtain rfl : args = #[v0] := by cases args; simp_all
  obtain ⟨a0, len0, cap0, rfl⟩ := okWide_slice Tryz.underlying22 (hval 0 22 v0 rfl rfl)
  have k0 := h0
  have lt0 : ∀ x ∈ p0, x.block < W.heap.size := by obtain ⟨m, hm⟩ := k0; exact DataW.trod_lt m _ _ _ hm
  obtain ⟨z0, w0⟩ : ∃ zs, IsRow .u8 W a0 len0 cap0 zs := by
    obtain ⟨fuel, hf⟩ := h0
    rcases open_ints Tryz.underlying22 Tryz.underlying5 (by kernel_rfl) hf with ⟨hcs, _⟩ | ⟨x, l, c, zs, hcs, _, hl, hm, hz, _, hcell, hwz⟩
    · simp [Value.cells] at hcs
      obtain ⟨rfl, rfl, rfl⟩ := hcs
      exact ⟨[], .inl ⟨rfl, rfl, rfl, rfl⟩⟩
    · simp [Value.cells] at hcs
      obtain ⟨rfl, rfl, rfl⟩ := hcs
      exact ⟨zs, .inr ⟨_, rfl, hl, hm, by simpa using hz, hcell, hwz⟩⟩
  clear hA0 hval0
  refine (fnBlocks_walk a0 len0 cap0 z0 W b0 hge hG w0).mono fun e W' ⟨he, bel⟩ => ?_
  subst he
  exact ⟨_, rfl, _, _, _, [], _, [.cell 0 0], hW', trodAll_mk1 (shut_bool Tryz.underlying4 _), (trodAll_cons_mk (Below.trod fnBlocks_laidOut (by kernel_rfl) (of_decide_eq_true (by kernel_rfl)) k0 bel lt0) trodAll_mk0), fnBlocks_vars enc (var_belowE hv0 bel hG) trivial _, bel.frame _, fun h => by cases h⟩

theorem fnBlocks_holds : Rows.FnBlocksSaid :=
  OpenClaim.holds_of_wide 5 Tryz.f5 rfl rfl rfl rfl rfl rfl rfl ⟨rfl, rfl, rfl, rfl, rfl⟩ rfl rfl rfl rfl rfl (by kernel_rfl) Tryz.func5 (by kernel_rfl)
    (of_decide_eq_true (by kernel_rfl)) (by unfold Func.isWrapper; first | (rw [if_pos (by decide +kernel)]; kernel_rfl) | (rw [if_neg (by decide +kernel)]; exact ⟨rfl, rfl⟩))
    (fun os started H enc _ => fnBlocks_lifted os started H enc)

/-- The card: the variable is tied to the program's text by the given tie. -/
theorem fnBlocks_card : Rows.FnBlocksCardSaid :=
  Claim7.holds_tied_plain_at .later [] [.sentinel] true Rows.fnBlocksCard.stood.harness true
    fnBlocks_holds (fun _ h => by cases h) (by kernel_rfl) (fun _ h => by cases h) fnBlocks_row_tie rfl ⟨rfl, rfl⟩ (by kernel_rfl) rfl
    (fun f fn hf hfn => by
      obtain rfl : f = 5 := Option.some.inj ((show Tryz.prog.funcNamed Rows.fnBlocksRow.func = some 5 by kernel_rfl).symm.trans hf) |>.symm
      obtain rfl : fn = Tryz.f5 := (Option.some.inj (Tryz.func5.symm.trans hfn)).symm
      exact ⟨by kernel_rfl, fun j t ht => by
        rw [Tryz.params5] at ht
        have hm : t ∈ [22] := by simpa using Array.mem_of_getElem? ht
        have hall : ([22].all fun u => !Tryz.prog.wantsStandIn u) = true := by kernel_rfl
        exact (show Tryz.prog.wantsStandIn t = false by simpa using List.all_eq_true.1 hall t hm)⟩)
    (by kernel_rfl)

end Go.Proofs.YtcmmdkabocfnfaaGreatDoor
