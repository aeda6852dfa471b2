/- A ledger that came in, opened: what it reads as. Arguments of the type of an order read. Apply's answer is the accounts as they were, or accounts that are right (plain). The kit's cut, with its range reckoned. What the row's condition says of the package-level variable that holds a type's handle: its cell. At all ledgers and orders Apply of the program answers as the model's Apply, writes into no argument, and its answer owns its memory: the law FnExactApply returns true; its one variable of the library reads as the program's text lays it. -/
import Derived.Test.YtocaednkhcjkcaaGreatDoorAcOpen
import Derived.Test.YtocaednkhcjkcaaGreatDoorLgVal
import Derived.Test.YtocaednkhcjkcaaGreatDoorTxVal
import Derived.OpenShut
import Derived.ShutString
import Derived.ChangeOld
import Derived.WideShapes
import Derived.Test.YtocaednkhcjkcaaGreatDoorLgAp
import Derived.Test.YtocaednkhcjkcaaGreatDoorLgFacts
import Derived.Deep.DeepCutAuto
import Derived.Test.YtocaednkhcjkcaaGreatDoorMem
import Derived.Test.YtocaednkhcjkcaaGreatDoorLgAs
import Derived.LaidLaws
import Derived.LaidHandle
import Derived.LaidMore
import Derived.OpenVars
import Derived.Stop.Joined
import Derived.Test.YtocaednkhcjkcaaGreatDoorRows
import Derived.Test.YtocaednkhcjkcaaGreatDoorTie
import Derived.Test.YtocaednkhcjkcaaGreatDoorCards
import Derived.Test.YtocaednkhcjkcaaGreatDoorZaDo
import Derived.ChangeSame
import Derived.ChangeVars
import Derived.JoinedOf
import Derived.RowKitTokens
import Derived.WalkKit
import Derived.ProofKit
import Derived.Below
import Derived.SliceStrings
import Derived.SevenTiedAt
namespace Go.Proofs.YtocaednkhcjkcaaGreatDoor
open Go.RowKit Go.ChangeShapes Go.WideShapes
set_option linter.unusedVariables false

section
variable {H : Type} {enc : TypeId × Value → H} {w : World} {base : Nat} {spare : Nat → Bool} {held : Bool}

set_option maxRecDepth 20000 in
theorem open_ledger {fuel : Nat} {cs : List Value} {x : DataW H × List MemPlace} (h : DataW.trod enc Tryz.prog w base spare held fuel 41 cs = some x) :
    ∃ (e : Int) (v : Value) (l : List Ac), cs = [.int .i64 e, v] ∧ RdA w v l ∧ l.length ≤ maxLen ∧ ∀ q ∈ l, q.1.size ≤ maxLen ∧ q.2.2.2.2.length ≤ maxLen := by
  obtain ⟨xs, n, _, _, hlen, hxl, hf⟩ := DataW.trod_struct Tryz.underlying41 h
  have h5 : cs.length = 2 := hlen.trans (by kernel_rfl)
  have hx5 : xs.length = 2 := hxl
  match cs, h5, xs, hx5 with
  | [c0, c1], _, [y0, y1], _ =>
    have ki : Tryz.prog.cellsOf 3 = 1 := by kernel_rfl
    have kl : Tryz.prog.cellsOf 39 = 1 := by kernel_rfl
    have g0 : DataW.trod enc Tryz.prog w base spare held n 3 [c0] = some y0 := by
      have e := hf 0 _ rfl
      change DataW.trod enc Tryz.prog w base spare held n 3 (List.take (Tryz.prog.cellsOf 3) [c0, c1]) = some y0 at e
      rw [ki] at e
      exact e
    have g1 : DataW.trod enc Tryz.prog w base spare held n 39 [c1] = some y1 := by
      have e := hf 1 _ rfl
      change DataW.trod enc Tryz.prog w base spare held n 39 (List.take (Tryz.prog.cellsOf 39) [c1]) = some y1 at e
      rw [kl] at e
      exact e
    obtain ⟨z0, e0, _⟩ := DataW.trod_int Tryz.underlying3 g0
    have hsl : ∃ a len cap, c1 = .slice a len cap := by
      rcases Deep.open_slice Tryz.underlying39 g1 with ⟨hcs, _⟩ | ⟨ad, len', cap', m, n', D, Pl, hcs, _⟩
      · simp only [List.cons.injEq, and_true] at hcs; exact ⟨_, _, _, hcs⟩
      · simp only [List.cons.injEq, and_true] at hcs; exact ⟨_, _, _, hcs⟩
    obtain ⟨a, len, cap, rfl⟩ := hsl
    obtain ⟨l, rfl, hr, hl, hq⟩ := open_accS g1
    simp only [List.cons.injEq, and_true] at e0
    subst e0
    exact ⟨z0, _, l, rfl, hr, hl, hq⟩
end
end Go.Proofs.YtocaednkhcjkcaaGreatDoor

namespace Go.Proofs.YtocaednkhcjkcaaGreatDoor
open Go.RowKit Go.ChangeShapes Go.WideShapes Go.ChangeAt
set_option linter.unusedVariables false
variable {H : Type} {enc : TypeId × Value → H} {w : World} {base : Nat} {spare : Nat → Bool} {held : Bool}

set_option maxRecDepth 20000 in
theorem open_tx {fuel : Nat} {cs : List Value} {x : DataW H × List MemPlace} (h : DataW.trod enc Tryz.prog w base spare held fuel 42 cs = some x) :
    ∃ t : Tx5, cs = [.int .i64 t.1, .string t.2.1, .string t.2.2.1, .int .i64 t.2.2.2.1, .int .i64 t.2.2.2.2] ∧ t.2.1.size ≤ maxLen ∧ t.2.2.1.size ≤ maxLen ∧ (Lit.int .i64 t.1).wf = true ∧ (Lit.int .i64 t.2.2.2.1).wf = true ∧ (Lit.int .i64 t.2.2.2.2).wf = true := by
  obtain ⟨xs, n, _, _, hlen, hxl, hf⟩ := DataW.trod_struct Tryz.underlying42 h
  have h5 : cs.length = 5 := hlen.trans (by kernel_rfl)
  have hx5 : xs.length = 5 := hxl
  match cs, h5, xs, hx5 with
  | [c0, c1, c2, c3, c4], _, [y0, y1, y2, y3, y4], _ =>
    have ks : Tryz.prog.cellsOf 9 = 1 := by kernel_rfl
    have ki : Tryz.prog.cellsOf 3 = 1 := by kernel_rfl
    have g0 : DataW.trod enc Tryz.prog w base spare held n 3 [c0] = some y0 := by
      have e := hf 0 _ rfl
      change DataW.trod enc Tryz.prog w base spare held n 3 (List.take (Tryz.prog.cellsOf 3) [c0, c1, c2, c3, c4]) = some y0 at e
      rw [ki] at e
      exact e
    have g1 : DataW.trod enc Tryz.prog w base spare held n 9 [c1] = some y1 := by
      have e := hf 1 _ rfl
      change DataW.trod enc Tryz.prog w base spare held n 9 (List.take (Tryz.prog.cellsOf 9) [c1, c2, c3, c4]) = some y1 at e
      rw [ks] at e
      exact e
    have g2 : DataW.trod enc Tryz.prog w base spare held n 9 [c2] = some y2 := by
      have e := hf 2 _ rfl
      change DataW.trod enc Tryz.prog w base spare held n 9 (List.take (Tryz.prog.cellsOf 9) [c2, c3, c4]) = some y2 at e
      rw [ks] at e
      exact e
    have g3 : DataW.trod enc Tryz.prog w base spare held n 3 [c3] = some y3 := by
      have e := hf 3 _ rfl
      change DataW.trod enc Tryz.prog w base spare held n 3 (List.take (Tryz.prog.cellsOf 3) [c3, c4]) = some y3 at e
      rw [ki] at e
      exact e
    have g4 : DataW.trod enc Tryz.prog w base spare held n 3 [c4] = some y4 := by
      have e := hf 4 _ rfl
      change DataW.trod enc Tryz.prog w base spare held n 3 (List.take (Tryz.prog.cellsOf 3) [c4]) = some y4 at e
      rw [ki] at e
      exact e
    obtain ⟨z0, e0, _, h0⟩ := DataW.trod_int Tryz.underlying3 g0
    obtain ⟨s1, e1, _, h1⟩ := DataW.trod_string Tryz.underlying9 g1
    obtain ⟨s2, e2, _, h2⟩ := DataW.trod_string Tryz.underlying9 g2
    obtain ⟨z3, e3, _, h3⟩ := DataW.trod_int Tryz.underlying3 g3
    obtain ⟨z4, e4, _, h4⟩ := DataW.trod_int Tryz.underlying3 g4
    simp only [List.cons.injEq, and_true] at e0 e1 e2 e3 e4
    subst e0 e1 e2 e3 e4
    exact ⟨(z0, s1, s2, z3, z4), rfl, h1, h2, h0, h3, h4⟩
end Go.Proofs.YtocaednkhcjkcaaGreatDoor

namespace Go.Proofs.YtocaednkhcjkcaaGreatDoor
open Go.RowKit
set_option linter.unusedVariables false

theorem OwnX.old {base hi : Nat} {w : World} {v : Value} {l : List Ac} (h : OwnX base hi w v l) {b : Nat} (hb : b < base) (j : Nat) (u : Value) : OwnX base hi (w.setCell ⟨b, j, none⟩ u) v l :=
  h.btw (Btw.of_grown (lo := 0) (hi := base) (grown_set w b j u) (fun k hk => ⟨Nat.zero_le _, by cases hk; exact hb⟩)) (.inr (Nat.le_refl _))
theorem apA_is (e : Int) (l : List Ac) (t : Tx5) : (apA e l t).1 = l ∨ acsB (apA e l t).1 = true := by
  unfold apA
  split
  · exact .inl rfl
  · split
    · exact .inl rfl
    · split
      · exact .inl rfl
      · split
        · exact .inl rfl
        · split
          · exact .inl rfl
          · rename_i h
            exact .inr (lg_acs (by simpa using h))
end Go.Proofs.YtocaednkhcjkcaaGreatDoor

namespace Go.Proofs.YtocaednkhcjkcaaGreatDoor
end Go.Proofs.YtocaednkhcjkcaaGreatDoor

namespace Go.Proofs.YtocaednkhcjkcaaGreatDoor
open Go.ChangeShapes Go.WideShapes Go.RowKit
set_option linter.unusedVariables false

theorem Tryz.et : Tryz.prog.globalNamed "errors.errorType" = some 0 := by kernel_rfl
theorem Tryz.rt : (Tryz.prog.cutTypes.find? (·.1 == "internal/reflectlite.rtype")).map (·.2) = some 185 := by kernel_rfl
theorem Tryz.oneRow : ((List.range 301).filter fun t => Tryz.prog.rowNamed t [101, 114, 114, 111, 114]) = [74] := by kernel_rfl
theorem Tryz.nTypes : Tryz.prog.types.size = 301 := by kernel_rfl

theorem gh_of_handles {W : World} (h : handlesMet Tryz.prog [("errors.errorType", Rows.laid_errors_errorType)] W) : Gh W := by
  obtain ⟨name, u, ty, e1, e2, e3, e4, e5⟩ := h _ (List.mem_singleton.2 rfl)
  have en : name = [101, 114, 114, 111, 114] := (Option.some.inj e1).symm
  subst en
  obtain rfl := Option.some.inj (Tryz.rt.symm.trans e2)
  have hm : ty ∈ (List.range 301).filter fun t => Tryz.prog.rowNamed t [101, 114, 114, 111, 114] := List.mem_filter.2 ⟨List.mem_range.2 (by rw [← Tryz.nTypes]; exact e3), e4⟩
  rw [Tryz.oneRow] at hm
  obtain rfl := List.mem_singleton.1 hm
  have hh : typeHandle Tryz.prog 74 = .pointer (some ⟨1, 74, none⟩) := by kernel_rfl
  rw [hh] at e5
  unfold Gh
  simpa using World.var?_cell Tryz.et e5 0
/-- The variable's cell laid anew. -/
def handPut : Obj → Obj
  | .cells _ t frozen => .cells #[.iface 185 (.agg #[.pointer (some ⟨1, 74, none⟩)])] t frozen
  | o => o
/-- A world that meets the condition: w0, the variable's cell laid. -/
def laidOn (w0 : World) : World := { w0 with heap := w0.heap.modify 0 handPut }
end Go.Proofs.YtocaednkhcjkcaaGreatDoor

namespace Go.Proofs.YtocaednkhcjkcaaGreatDoor
open Go.ChangeShapes Go.WideShapes Go.ChangeAt Go.RowKit
open Go.ChangeMaps (open_string shut_string)
set_option linter.unusedVariables false

theorem fnExactApply_own : ownKnob Tryz.prog.godebug = none := by kernel_rfl
theorem fnExactApply_laidOut : laidOutB Tryz.prog = true := by kernel_rfl

open Classical in
set_option maxRecDepth 20000 in
set_option maxHeartbeats 4000000 in
theorem fnExactApply_walk (a0 : Int) (y0 : Value) (z0 : List Ac) (z1 : Tx5) (w : World) (hgh : Gh w) (w0 : RdA w y0 z0 ∧ z0.length ≤ maxLen ∧ ∀ q ∈ z0, q.1.size ≤ maxLen ∧ q.2.2.2.2.length ≤ maxLen) (w1x : z1.2.1.size ≤ maxLen ∧ z1.2.2.1.size ≤ maxLen ∧ (Lit.int .i64 z1.1).wf = true ∧ (Lit.int .i64 z1.2.2.2.1).wf = true ∧ (Lit.int .i64 z1.2.2.2.2).wf = true) :
    Calls Tryz.prog 4 #[lgV a0 y0, txV z1] w fun e w' => e = .returned (.bool true) ∧ Below w.heap.size w w' := by
  obtain ⟨hr, hlm, hsm⟩ := w0
  obtain ⟨av, cv, rfl⟩ := hr.shape
  have hlm' : z0.length ≤ 9223372036854775807 := by unfold maxLen at hlm; omega
  have hsm' : ∀ a ∈ z0, a.1.size ≤ 9223372036854775807 ∧ a.2.2.2.2.length ≤ 9223372036854775807 := fun a ha => by have := hsm a ha; unfold maxLen at this; omega
  obtain ⟨kd, fm, tn, am, nc⟩ := z1
  obtain ⟨hf, ht, -⟩ := w1x
  simp only at hf ht
  obtain ⟨wq, hwq⟩ : ∃ wq, w.alloc (.cells #[.int .i64 a0, .slice av z0.length cv] 41) = wq := ⟨_, rfl⟩
  obtain ⟨w1, hw1⟩ : ∃ w1, wq.alloc (.cells #[.int .i64 kd, .string fm, .string tn, .int .i64 am, .int .i64 nc] 42) = w1 := ⟨_, rfl⟩
  have lq : wq.heap.size = w.heap.size + 1 := by rw [← hwq]; simp
  have hb1 : Below w.heap.size w w1 := by rw [← hw1, ← hwq]; exact ((Below.refl _ w).alloc (Nat.le_refl _) _).alloc (by simp) _
  have k1 : Blk w1 w.heap.size 41 [.int .i64 a0, .slice av z0.length cv] := by rw [← hw1, ← hwq]; exact (Blk.new w _ _).alloc _
  have q1 : Blk w1 (w.heap.size + 1) 42 [.int .i64 kd, .string fm, .string tn, .int .i64 am, .int .i64 nc] := by rw [← hw1, ← lq]; exact Blk.new wq _ _
  have Hz := hide (szLedger_any a0 _ z0 1048576 w1 (hr.below hb1 (Nat.le_refl _)) (by omega) hlm' hsm')
  have Hr := hide hr
  have Hsm := hide hsm
  have Hgh := hide hgh
  have l1 : w1.heap.size = w.heap.size + 1 + 1 := by rw [← hw1]; simp; omega
  have c0 := k1.cell 0
  have c1 := k1.cell 1
  simp only [List.getElem?_cons_zero, List.getElem?_cons_succ] at c0 c1
  simp only [lgV, txV] at *
  clear hr hsm hsm' hlm hgh
  go_enter Tryz.func4, Tryz.ntmps4
  go_wp2_with fail
  refine Hz.out.mono ?_
  rintro e w2a ⟨r, rfl, hfit, hb2a⟩
  have hB2a : Below w.heap.size w w2a := hb1.trans (hb2a.mono hb1.size)
  have k2 := k1.below hb2a k1.lt
  have q2 := q1.below hb2a q1.lt
  clear c0 c1 k1 q1
  by_cases hneg : r < 0
  · clear hfit
    go_wp2
    go_ret
    exact ⟨rfl, hB2a⟩
  have hrm := hfit (by omega)
  have Hzt := hide (szTx_any (kd, fm, tn, am, nc) r w2a (by omega) (by omega) (by show fm.size ≤ _; unfold maxLen at hf; omega) (by show tn.size ≤ _; unfold maxLen at ht; omega))
  simp only [txV] at Hzt
  generalize szT (kd, fm, tn, am, nc) r = r2 at Hzt
  have t0 := q2.cell 0
  have t1 := q2.cell 1
  have t2 := q2.cell 2
  have t3 := q2.cell 3
  have t4 := q2.cell 4
  simp only [List.getElem?_cons_zero, List.getElem?_cons_succ] at t0 t1 t2 t3 t4
  go_wp2_with fail
  refine Hzt.out.mono ?_
  rintro e w2 ⟨rfl, hb2⟩
  have hB2 : Below w.heap.size w w2 := hB2a.trans (hb2.mono hB2a.size)
  replace k2 := k2.below hb2 k2.lt
  replace q2 := q2.below hb2 q2.lt
  clear t0 t1 t2 t3 t4 Hzt
  by_cases hneg2 : r2 < 0
  · clear hfit
    go_wp2
    go_ret
    exact ⟨rfl, hB2⟩
  · have hl := hrm
    have hl4 : z0.length ≤ 4000000 := by omega
    have hlv : ∀ a ∈ z0, a.2.2.2.2.length ≤ 4000000 := fun a ha => by have h1 := totA_at z0 a ha; unfold wgA at h1; omega
    have hnl : ∀ a ∈ z0, a.1.size ≤ maxLen ∧ a.2.2.2.2.length ≤ 4000000 := fun a ha => ⟨(Hsm.out a ha).1, hlv a ha⟩
    have hnl3 : ∀ a ∈ z0, a.1.size ≤ maxLen ∧ a.2.2.2.2.length ≤ 3999999 := fun a ha => ⟨(Hsm.out a ha).1, by have h1 := totA_at z0 a ha; unfold wgA at h1; omega⟩
    have hnz : nxs 1 z0 ≤ 90000000 := by have := nxs_tot 1 z0; omega
    have HS := hide (fun v w hr => specApply_any a0 v z0 (kd, fm, tn, am, nc) w hr (by omega) hnl3 hf ht)
    have HI := hide (fun v w (hgw : Gh w) hr => implApply_any a0 v z0 (kd, fm, tn, am, nc) w hgw hr (by omega) hnl3 hf ht)
    have HT := hide (fun v w hr => toLedger_any a0 v z0 w hr hl4 hlv)
    have HE := hide (fun v1 v2 w h1 h2 => eqLedger_any a0 a0 v1 v2 z0 z0 w h1 h2 hl4 hl4 hlv hlv)
    have hP : (apA a0 z0 (kd, fm, tn, am, nc)).1.length ≤ 4000000 ∧ (∀ a ∈ (apA a0 z0 (kd, fm, tn, am, nc)).1, a.2.2.2.2.length ≤ 4000000) ∧ nxs 1 (apA a0 z0 (kd, fm, tn, am, nc)).1 ≤ 90000000 := by
      rcases apA_is a0 z0 (kd, fm, tn, am, nc) with h | h
      · rw [h]; exact ⟨hl4, hlv, hnz⟩
      · have h1 := acs_len' h
        have h2 := acs_four h
        have h3 := nxs_four 1 _ h2
        exact ⟨by omega, fun a ha => by have := h2 a ha; omega, by omega⟩
    simp only [ApPost] at HI
    generalize (apA a0 z0 (kd, fm, tn, am, nc)).1 = P at HS HI hP
    generalize (apA a0 z0 (kd, fm, tn, am, nc)).2 = C at HS HI
    have HX := hide (fun W => toTx_any (kd, fm, tn, am, nc) W)
    obtain ⟨hP4, hPlv, hPn⟩ := hP
    have HEP := hide (fun v1 v2 w h1 h2 => eqLedger_any a0 a0 v1 v2 P P w h1 h2 hP4 hP4 hPlv hPlv)
    rw [decide_eq_true rfl, decide_eq_true rfl, Bool.true_and] at HE HEP
    have HM := hide (fun v base hi w ho => markLedger_any a0 v z0 1 base hi w ho (by omega) (fun a ha => by have := hlv a ha; omega) hnz (by omega))
    have HMP := hide (fun v base hi w ho => markLedger_any a0 v P 1 base hi w ho (by omega) (fun a ha => by have := hPlv a ha; omega) hPn (by omega))
    have HH := hide (fun v w hr => heldLedger_any a0 v P 1 w hr (by omega) (fun a ha => by have := hPlv a ha; omega) hPn (by omega))
    have hkz : ¬ ((nxs 1 z0 : Nat) : Int) < 0 := by omega
    have hkP : ¬ ((nxs 1 P : Nat) : Int) < 0 := by omega
    generalize nxs 1 z0 = kz at HM hkz
    generalize nxs 1 P = kP at HMP HH hkP
    simp only [lgV, txV] at HS HI HT HE HEP HM HMP HH HX
    have HL := hide (fun w v (h : RdA w v P) => h.shape)
    generalize P.length = pn at HL
    clear hfit hl hl4 hlv hnl hnl3 Hsm Hz hnz hP4 hPlv hPn
    have HSb : Hid (∀ V, Below w2.heap.size w2 V → (V.cell? ⟨w.heap.size, 0, none⟩ = some (.int .i64 a0) ∧ V.cell? ⟨w.heap.size, 1, none⟩ = some (.slice av z0.length cv) ∧ V.cell? ⟨w.heap.size + 1, 0, none⟩ = some (.int .i64 kd) ∧ V.cell? ⟨w.heap.size + 1, 1, none⟩ = some (.string fm) ∧ V.cell? ⟨w.heap.size + 1, 2, none⟩ = some (.string tn) ∧ V.cell? ⟨w.heap.size + 1, 3, none⟩ = some (.int .i64 am) ∧ V.cell? ⟨w.heap.size + 1, 4, none⟩ = some (.int .i64 nc))) := hide (fun V hb => ⟨(k2.below hb k2.lt).cell 0, (k2.below hb k2.lt).cell 1, (q2.below hb q2.lt).cell 0, (q2.below hb q2.lt).cell 1, (q2.below hb q2.lt).cell 2, (q2.below hb q2.lt).cell 3, (q2.below hb q2.lt).cell 4⟩)
    have HXg : Hid (∀ V, Below w2.heap.size w2 V → Calls Tryz.prog 17 #[.agg #[.int .i64 kd, .string fm, .string tn, .int .i64 am, .int .i64 nc]] V fun e w' => e = .returned (.agg #[.int .i64 kd, .string fm, .string tn, .int .i64 am, .int .i64 nc]) ∧ Below V.heap.size V w' ∧ Below w2.heap.size w2 w') := hide (fun V hb => (HX.out V).mono (fun e w' ⟨h1, h2⟩ => ⟨h1, h2, hb.trans (h2.mono hb.size)⟩))
    have bD : Below w2.heap.size w2 w2.drew := (Below.refl _ w2).drew
    have bE : Below w2.heap.size w2 (w2.alloc (.cells #[.int .i64 0, .slice none 0 0] 26)).drew := ((Below.refl _ w2).alloc (Nat.le_refl _) _).drew
    have nE : Blk (w2.alloc (.cells #[.int .i64 0, .slice none 0 0] 26)).drew w2.heap.size 26 [.int .i64 0, .slice none 0 0] := Blk.new w2 26 [.int .i64 0, .slice none 0 0]
    have zD : w2.drew.heap.size = w2.heap.size := rfl
    have zE : (w2.alloc (.cells #[.int .i64 0, .slice none 0 0] 26)).drew.heap.size = w2.heap.size + 1 := by simp
    have HTg : Hid (∀ V, Below w2.heap.size w2 V → Calls Tryz.prog 16 #[.agg #[.int .i64 a0, .slice av z0.length cv]] V fun e w' => ∃ v', e = .returned (.agg #[.int .i64 a0, v']) ∧ OwnA V.heap.size w' v' z0 ∧ Below V.heap.size V w' ∧ Below w2.heap.size w2 w') := hide (fun V hb => (HT.out _ V (Hr.out.below (hB2.trans (hb.mono hB2.size)) (Nat.le_refl _))).mono (fun e w' ⟨v', h1, h2, h3⟩ => ⟨v', h1, h2, h3, hb.trans (h3.mono hb.size)⟩))
    go_upto_region 8 with fail
    go_cut [6, 7] (fun sp sc wc => ∃ (B : Nat) (a : Option Addr) (c base hi : Nat), sp = .pointer (some ⟨B, 0, none⟩) ∧ sc = .int .i64 C ∧ Blk wc B 26 [.int .i64 a0, .slice a pn c] ∧ OwnX base hi wc (.slice a pn c) P ∧ w2.heap.size ≤ base ∧ hi ≤ wc.heap.size ∧ (B < base ∨ hi ≤ B) ∧ w2.heap.size ≤ B ∧ Below w2.heap.size w2 wc)
    case first =>
      go_region_held_law (fun w' => w'.cell? ⟨w.heap.size, 0, none⟩ = some (.int .i64 a0) ∧ w'.cell? ⟨w.heap.size, 1, none⟩ = some (.slice av z0.length cv) ∧ w'.cell? ⟨w.heap.size + 1, 0, none⟩ = some (.int .i64 kd) ∧ w'.cell? ⟨w.heap.size + 1, 1, none⟩ = some (.string fm) ∧ w'.cell? ⟨w.heap.size + 1, 2, none⟩ = some (.string tn) ∧ w'.cell? ⟨w.heap.size + 1, 3, none⟩ = some (.int .i64 am) ∧ w'.cell? ⟨w.heap.size + 1, 4, none⟩ = some (.int .i64 nc)) ((refine HSb.out _ ?_; repeat (first | with_reducible exact bD | with_reducible exact bE | with_reducible exact bT | with_reducible exact bX | with_reducible exact bA | with_reducible exact Below.refl _ _ | refine Below.drew ?_ | refine Below.alloc ?_ (by first | omega | (simp; done) | (simp; omega) | (dsimp only; omega)) _ | refine Below.setCell ?_ (by first | omega | (simp; done) | (simp; omega) | (dsimp only; omega)) _))) ((first
        | (go_at_call 10; have nb0 := nb; have hBlt := nb0.lt; with_reducible refine (HS.out _ wX rX).mono ?_; rintro e wA ⟨vA, rfl, oA, hbA⟩; have bA := bX.trans (hbA.mono bX.size); have zA := hbA.size; have xA := oA.ox; have hsh := HL.out _ _ xA.rd; obtain ⟨aA, cA, hvA⟩ := hsh; subst hvA; have nb := nb0.below hbA nb0.lt; have y0 := nb.cell 0; have y1 := nb.cell 1; have y0f := nb.frozen 0; have y1f := nb.frozen 1; simp only [List.getElem?_cons_zero, List.getElem?_cons_succ] at y0 y1)
        | (go_at_call 10; have bXz := bX.alloc zX (.cells #[.int .i64 0, .slice none 0 0] 26); with_reducible refine (HS.out _ (wX.alloc (.cells #[.int .i64 0, .slice none 0 0] 26)) (rX.below ((Below.refl _ wX).alloc (Nat.le_refl _) _) (Nat.le_refl _))).mono ?_; rintro e wA ⟨vA, rfl, oA, hbA⟩; have bA := bXz.trans (hbA.mono bXz.size); have zA := hbA.size; have xA := oA.ox; have hsh := HL.out _ _ xA.rd; obtain ⟨aA, cA, hvA⟩ := hsh; subst hvA; have nb := (Blk.new wX 26 [.int .i64 0, .slice none 0 0]).below hbA (Blk.new wX 26 [.int .i64 0, .slice none 0 0]).lt; have y0 := nb.cell 0; have y1 := nb.cell 1; have y0f := nb.frozen 0; have y1f := nb.frozen 1; simp only [List.getElem?_cons_zero, List.getElem?_cons_succ] at y0 y1)
        | (go_at_call 10; with_reducible refine (HS.out _ wX rX).mono ?_; rintro e wA ⟨vA, rfl, oA, hbA⟩; have bA := bX.trans (hbA.mono bX.size); have zA := hbA.size; have xA := oA.ox; have hsh := HL.out _ _ xA.rd; obtain ⟨aA, cA, hvA⟩ := hsh; subst hvA)
        | (go_at_call 17; have nb0 := nb; with_reducible refine (HXg.out wT bT).mono ?_; rintro e wX ⟨rfl, hbX, bX⟩; have zX := bX.size; have zX' := hbX.size; have rX := (oT.rd.below (Below.refl _ wT) (Nat.le_refl _)).below hbX (Nat.le_refl _); have nb := nb0.below hbX nb0.lt)
        | (go_at_call 17; have bTz := bT.alloc zT (.cells #[.int .i64 0, .slice none 0 0] 26); with_reducible refine (HXg.out (wT.alloc (.cells #[.int .i64 0, .slice none 0 0] 26)) bTz).mono ?_; rintro e wX ⟨rfl, hbX, bX⟩; have zX := bX.size; have zX' := hbX.size; have rX := (oT.rd.below ((Below.refl _ wT).alloc (Nat.le_refl _) _) (Nat.le_refl _)).below hbX (Nat.le_refl _); have nb := (Blk.new wT 26 [.int .i64 0, .slice none 0 0]).below hbX (Blk.new wT 26 [.int .i64 0, .slice none 0 0]).lt)
        | (go_at_call 17; with_reducible refine (HXg.out wT bT).mono ?_; rintro e wX ⟨rfl, hbX, bX⟩; have zX := bX.size; have zX' := hbX.size; have rX := (oT.rd.below (Below.refl _ wT) (Nat.le_refl _)).below hbX (Nat.le_refl _))
        | (go_at_call 16; with_reducible refine (HTg.out w2.drew bD).mono ?_; rintro e wT ⟨vT, rfl, oT, hbT, bT⟩; have zT := bT.size; have zT' := hbT.size; have hsh := oT.rd.shape; obtain ⟨aT, cT, hvT⟩ := hsh; subst hvT)
        | (go_at_call 16; with_reducible refine (HTg.out (w2.alloc (.cells #[.int .i64 0, .slice none 0 0] 26)).drew bE).mono ?_; rintro e wT ⟨vT, rfl, oT, hbT, bT⟩; have zT := bT.size; have zT' := hbT.size; have hsh := oT.rd.shape; obtain ⟨aT, cT, hvT⟩ := hsh; subst hvT; have nb := nE.below hbT nE.lt)))
      all_goals
        go_wp2_with fail
        go_meet
        case rel =>
          first
            | exact ⟨wA.heap.size, aA, cA, _, wA.heap.size, rfl, rfl, Blk.new wA _ _, xA.below ((Below.refl _ wA).alloc (Nat.le_refl _) _) (Nat.le_refl _), by first | omega | (simp; omega), by simp, .inr (Nat.le_refl _), by omega, bA.alloc (by omega) _⟩
            | exact ⟨_, aA, cA, _, wA.heap.size, rfl, rfl, (nb.set 0 _).set 1 _, (xA.old (by first | omega | (simp; done) | (simp; omega)) _ _).old (by first | omega | (simp; done) | (simp; omega)) _ _, by first | omega | (simp; omega), by simp, .inl (by first | omega | (simp; done) | (simp; omega)), by omega, (bA.setCell (p := ⟨_, 0, none⟩) (by dsimp only; omega) _).setCell (p := ⟨_, 1, none⟩) (by dsimp only; omega) _⟩
    obtain ⟨w5, rfl⟩ : ∃ x, x = wc := ⟨_, rfl⟩
    obtain ⟨B5, a5, c5, base5, hi5, rfl, rfl, b5, x5, h5_1, h5_2, h5_3, h5_4, hb5⟩ := hcut
    clear HSb HXg bD bE nE zD zE
    clear HTg
    have hB5 : Below w.heap.size w w5 := hB2.trans (hb5.mono hB2.size)
    have hb5lt := b5.lt
    replace k2 := k2.below hb5 k2.lt
    replace q2 := q2.below hb5 q2.lt
    have c0 := k2.cell 0
    have c1 := k2.cell 1
    simp only [List.getElem?_cons_zero, List.getElem?_cons_succ] at c0 c1
    go_wp2_with fail
    refine (HT.out _ _ (Hr.out.below hB5 (Nat.le_refl _))).mono ?_
    rintro e w6 ⟨v6, rfl, o6, hb6⟩
    have hB6 : Below w.heap.size w w6 := hB5.trans (hb6.mono hB5.size)
    replace k2 := k2.below hb6 k2.lt
    replace q2 := q2.below hb6 q2.lt
    replace b5 := b5.below hb6 b5.lt
    replace x5 := x5.below hb6 (Nat.le_refl _)
    have x6 := o6.ox
    clear o6 c0 c1
    obtain ⟨a6, cv6, rfl⟩ := x6.rd.shape
    obtain ⟨w7, hw7⟩ : ∃ w7, w6.alloc (.cells #[.int .i64 a0, .slice a6 z0.length cv6] 26) = w7 := ⟨_, rfl⟩
    have hb7 : Below w6.heap.size w6 w7 := by rw [← hw7]; exact (Below.refl _ w6).alloc (Nat.le_refl _) _
    have b7 : Blk w7 w6.heap.size 26 [.int .i64 a0, .slice a6 z0.length cv6] := by rw [← hw7]; exact Blk.new w6 _ _
    have l7 : w7.heap.size = w6.heap.size + 1 := by rw [← hw7]; simp
    have hB7 : Below w.heap.size w w7 := hB6.trans (hb7.mono hB6.size)
    replace k2 := k2.below hb7 k2.lt
    replace q2 := q2.below hb7 q2.lt
    replace b5 := b5.below hb7 b5.lt
    replace x5 := x5.below hb7 (Nat.le_refl _)
    replace x6 := x6.below hb7 (Nat.le_refl _)
    have L7 := hide l7
    clear l7
    have HSb : Hid (∀ V, Below w7.heap.size w7 V → (V.cell? ⟨w6.heap.size, 0, none⟩ = some (.int .i64 a0) ∧ V.cell? ⟨w6.heap.size, 1, none⟩ = some (.slice a6 z0.length cv6) ∧ V.cell? ⟨w.heap.size + 1, 0, none⟩ = some (.int .i64 kd) ∧ V.cell? ⟨w.heap.size + 1, 1, none⟩ = some (.string fm) ∧ V.cell? ⟨w.heap.size + 1, 2, none⟩ = some (.string tn) ∧ V.cell? ⟨w.heap.size + 1, 3, none⟩ = some (.int .i64 am) ∧ V.cell? ⟨w.heap.size + 1, 4, none⟩ = some (.int .i64 nc))) := hide (fun V hb => ⟨(b7.below hb b7.lt).cell 0, (b7.below hb b7.lt).cell 1, (q2.below hb q2.lt).cell 0, (q2.below hb q2.lt).cell 1, (q2.below hb q2.lt).cell 2, (q2.below hb q2.lt).cell 3, (q2.below hb q2.lt).cell 4⟩)
    have HXg : Hid (∀ V, Below w7.heap.size w7 V → Calls Tryz.prog 17 #[.agg #[.int .i64 kd, .string fm, .string tn, .int .i64 am, .int .i64 nc]] V fun e w' => e = .returned (.agg #[.int .i64 kd, .string fm, .string tn, .int .i64 am, .int .i64 nc]) ∧ Below V.heap.size V w' ∧ Below w7.heap.size w7 w') := hide (fun V hb => (HX.out V).mono (fun e w' ⟨h1, h2⟩ => ⟨h1, h2, hb.trans (h2.mono hb.size)⟩))
    have bD : Below w7.heap.size w7 w7.drew := (Below.refl _ w7).drew
    have bE : Below w7.heap.size w7 (w7.alloc (.cells #[.int .i64 0, .slice none 0 0] 26)).drew := ((Below.refl _ w7).alloc (Nat.le_refl _) _).drew
    have nE : Blk (w7.alloc (.cells #[.int .i64 0, .slice none 0 0] 26)).drew w7.heap.size 26 [.int .i64 0, .slice none 0 0] := Blk.new w7 26 [.int .i64 0, .slice none 0 0]
    have zD : w7.drew.heap.size = w7.heap.size := rfl
    have zE : (w7.alloc (.cells #[.int .i64 0, .slice none 0 0] 26)).drew.heap.size = w7.heap.size + 1 := by simp
    go_upto_region 10 with fail
    clear hw7
    go_cut [9, 10] (fun sp sc wc => ∃ (B : Nat) (a : Option Addr) (c base hi : Nat), sp = .pointer (some ⟨B, 0, none⟩) ∧ sc = .int .i64 C ∧ Blk wc B 26 [.int .i64 a0, .slice a pn c] ∧ OwnX base hi wc (.slice a pn c) P ∧ w7.heap.size ≤ base ∧ hi ≤ wc.heap.size ∧ (B < base ∨ hi ≤ B) ∧ w7.heap.size ≤ B ∧ Below w7.heap.size w7 wc)
    case first =>
      go_region_held_law (fun w' => w'.cell? ⟨w6.heap.size, 0, none⟩ = some (.int .i64 a0) ∧ w'.cell? ⟨w6.heap.size, 1, none⟩ = some (.slice a6 z0.length cv6) ∧ w'.cell? ⟨w.heap.size + 1, 0, none⟩ = some (.int .i64 kd) ∧ w'.cell? ⟨w.heap.size + 1, 1, none⟩ = some (.string fm) ∧ w'.cell? ⟨w.heap.size + 1, 2, none⟩ = some (.string tn) ∧ w'.cell? ⟨w.heap.size + 1, 3, none⟩ = some (.int .i64 am) ∧ w'.cell? ⟨w.heap.size + 1, 4, none⟩ = some (.int .i64 nc)) ((refine HSb.out _ ?_; repeat (first | with_reducible exact bD | with_reducible exact bE | with_reducible exact bT | with_reducible exact bX | with_reducible exact bA | with_reducible exact Below.refl _ _ | refine Below.drew ?_ | refine Below.alloc ?_ (by first | omega | (simp; done) | (simp; omega) | (dsimp only; omega)) _ | refine Below.setCell ?_ (by first | omega | (simp; done) | (simp; omega) | (dsimp only; omega)) _))) ((first
        | (go_at_call 9; have nb0 := nb; have hBlt := nb0.lt; with_reducible refine (HI.out _ wX (Hgh.out.below (hB7.trans (bX.mono hB7.size))) rX).mono ?_; rintro e wA ⟨vA, rfl, oA, hbA⟩; have bA := bX.trans (hbA.mono bX.size); have zA := hbA.size; have xA := oA.ox; have hsh := HL.out _ _ xA.rd; obtain ⟨aA, cA, hvA⟩ := hsh; subst hvA; have nb := nb0.below hbA nb0.lt; have y0 := nb.cell 0; have y1 := nb.cell 1; have y0f := nb.frozen 0; have y1f := nb.frozen 1; simp only [List.getElem?_cons_zero, List.getElem?_cons_succ] at y0 y1)
        | (go_at_call 9; have bXz := bX.alloc zX (.cells #[.int .i64 0, .slice none 0 0] 26); with_reducible refine (HI.out _ (wX.alloc (.cells #[.int .i64 0, .slice none 0 0] 26)) (Hgh.out.below (hB7.trans (bXz.mono hB7.size))) (rX.below ((Below.refl _ wX).alloc (Nat.le_refl _) _) (Nat.le_refl _))).mono ?_; rintro e wA ⟨vA, rfl, oA, hbA⟩; have bA := bXz.trans (hbA.mono bXz.size); have zA := hbA.size; have xA := oA.ox; have hsh := HL.out _ _ xA.rd; obtain ⟨aA, cA, hvA⟩ := hsh; subst hvA; have nb := (Blk.new wX 26 [.int .i64 0, .slice none 0 0]).below hbA (Blk.new wX 26 [.int .i64 0, .slice none 0 0]).lt; have y0 := nb.cell 0; have y1 := nb.cell 1; have y0f := nb.frozen 0; have y1f := nb.frozen 1; simp only [List.getElem?_cons_zero, List.getElem?_cons_succ] at y0 y1)
        | (go_at_call 9; with_reducible refine (HI.out _ wX (Hgh.out.below (hB7.trans (bX.mono hB7.size))) rX).mono ?_; rintro e wA ⟨vA, rfl, oA, hbA⟩; have bA := bX.trans (hbA.mono bX.size); have zA := hbA.size; have xA := oA.ox; have hsh := HL.out _ _ xA.rd; obtain ⟨aA, cA, hvA⟩ := hsh; subst hvA)
        | (go_at_call 17; with_reducible refine (HXg.out w7.drew bD).mono ?_; rintro e wX ⟨rfl, hbX, bX⟩; have zX := bX.size; have zX' := hbX.size; have rX := (x6.rd.below bD (Nat.le_refl _)).below hbX (Nat.le_refl _))
        | (go_at_call 17; with_reducible refine (HXg.out (w7.alloc (.cells #[.int .i64 0, .slice none 0 0] 26)).drew bE).mono ?_; rintro e wX ⟨rfl, hbX, bX⟩; have zX := bX.size; have zX' := hbX.size; have rX := (x6.rd.below bE (Nat.le_refl _)).below hbX (Nat.le_refl _); have nb := nE.below hbX nE.lt)))
      all_goals
        go_wp2_with fail
        go_meet
        case rel =>
          first
            | exact ⟨wA.heap.size, aA, cA, _, wA.heap.size, rfl, rfl, Blk.new wA _ _, xA.below ((Below.refl _ wA).alloc (Nat.le_refl _) _) (Nat.le_refl _), by first | omega | (simp; omega), by simp, .inr (Nat.le_refl _), by omega, bA.alloc (by omega) _⟩
            | exact ⟨_, aA, cA, _, wA.heap.size, rfl, rfl, (nb.set 0 _).set 1 _, (xA.old (by first | omega | (simp; done) | (simp; omega)) _ _).old (by first | omega | (simp; done) | (simp; omega)) _ _, by first | omega | (simp; omega), by simp, .inl (by first | omega | (simp; done) | (simp; omega)), by omega, (bA.setCell (p := ⟨_, 0, none⟩) (by dsimp only; omega) _).setCell (p := ⟨_, 1, none⟩) (by dsimp only; omega) _⟩
    obtain ⟨w9, rfl⟩ : ∃ x, x = wc := ⟨_, rfl⟩
    obtain ⟨B9, a9, c9, base9, hi9, rfl, rfl, b9, x9, h9_1, h9_2, h9_3, h9_4, hb9⟩ := hcut
    clear HSb HXg bD bE nE zD zE
    have l7 := L7.out
    have hB9 : Below w.heap.size w w9 := hB7.trans (hb9.mono hB7.size)
    replace k2 := k2.below hb9 k2.lt
    replace q2 := q2.below hb9 q2.lt
    replace b5 := b5.below hb9 b5.lt
    replace b7 := b7.below hb9 b7.lt
    replace x5 := x5.below hb9 (Nat.le_refl _)
    replace x6 := x6.below hb9 (Nat.le_refl _)
    have c0 := b9.cell 0
    have c1 := b9.cell 1
    simp only [List.getElem?_cons_zero, List.getElem?_cons_succ] at c0 c1
    have d0 := b5.cell 0
    have d1 := b5.cell 1
    simp only [List.getElem?_cons_zero, List.getElem?_cons_succ] at d0 d1
    go_wp2_with fail
    refine (HEP.out _ _ _ x9.rd x5.rd).mono ?_
    rintro e w10 ⟨rfl, hb10⟩
    have hB10 : Below w.heap.size w w10 := hB9.trans (hb10.mono hB9.size)
    replace k2 := k2.below hb10 k2.lt
    replace q2 := q2.below hb10 q2.lt
    replace b5 := b5.below hb10 b5.lt
    replace b7 := b7.below hb10 b7.lt
    replace b9 := b9.below hb10 b9.lt
    replace x5 := x5.below hb10 (Nat.le_refl _)
    replace x6 := x6.below hb10 (Nat.le_refl _)
    replace x9 := x9.below hb10 (Nat.le_refl _)
    clear c0 c1 d0 d1
    have hd10 : Below w10.heap.size w10 w10.drew := (Below.refl _ w10).drew
    have hB10d : Below w.heap.size w w10.drew := hB10.drew
    replace k2 := k2.below hd10 k2.lt
    replace q2 := q2.below hd10 q2.lt
    replace b5 := b5.below hd10 b5.lt
    replace b7 := b7.below hd10 b7.lt
    replace b9 := b9.below hd10 b9.lt
    replace x5 := x5.below hd10 (Nat.le_refl _)
    replace x6 := x6.below hd10 (Nat.le_refl _)
    replace x9 := x9.below hd10 (Nat.le_refl _)
    have HSx : Hid (∀ W, Blk W w.heap.size 41 [.int .i64 a0, .slice av z0.length cv] → Blk W w6.heap.size 26 [.int .i64 a0, .slice a6 z0.length cv6] → (W.cell? ⟨w.heap.size, 0, none⟩ = some (.int .i64 a0) ∧ W.cell? ⟨w.heap.size, 1, none⟩ = some (.slice av z0.length cv) ∧ W.cell? ⟨w6.heap.size, 0, none⟩ = some (.int .i64 a0) ∧ W.cell? ⟨w6.heap.size, 1, none⟩ = some (.slice a6 z0.length cv6))) := hide (fun W h1 h2 => ⟨h1.cell 0, h1.cell 1, h2.cell 0, h2.cell 1⟩)
    have hS10 := HSx.out _ k2 b7
    have Kk := hide k2
    have Kb := hide b7
    have Kx := hide x6
    clear k2 b7 x6
    go_wp2
    go_region_held_law (fun w' => w'.cell? ⟨w.heap.size, 0, none⟩ = some (.int .i64 a0) ∧ w'.cell? ⟨w.heap.size, 1, none⟩ = some (.slice av z0.length cv) ∧ w'.cell? ⟨w6.heap.size, 0, none⟩ = some (.int .i64 a0) ∧ w'.cell? ⟨w6.heap.size, 1, none⟩ = some (.slice a6 z0.length cv6)) (first | with_reducible exact hS10 | with_reducible exact hS11 | with_reducible exact hS12) ((first
      | (go_at_call 18; refine (HE.out _ _ _ (Kx.out.below hb11 (Nat.le_refl _)).rd o11.rd).mono ?_; rintro e w12 ⟨rfl, hb12⟩; have hS12 := HSx.out _ ((Kk.out.below hb11 Kk.out.lt).below hb12 (Kk.out.below hb11 Kk.out.lt).lt) ((Kb.out.below hb11 Kb.out.lt).below hb12 (Kb.out.below hb11 Kb.out.lt).lt))
      | (go_at_call 16; refine (HT.out _ _ (Hr.out.below hB10d (Nat.le_refl _))).mono ?_; rintro e w11 ⟨v11, rfl, o11, hb11⟩; have hsh := o11.rd.shape; obtain ⟨a11, cv11, hv11⟩ := hsh; subst hv11; have hS11 := HSx.out _ (Kk.out.below hb11 Kk.out.lt) (Kb.out.below hb11 Kb.out.lt))))
    have k2 := Kk.out
    have b7 := Kb.out
    have x6 := Kx.out
    have hB11 : Below w.heap.size w w11 := hB10d.trans (hb11.mono hB10.size)
    replace k2 := k2.below hb11 k2.lt
    replace q2 := q2.below hb11 q2.lt
    replace b5 := b5.below hb11 b5.lt
    replace b7 := b7.below hb11 b7.lt
    replace b9 := b9.below hb11 b9.lt
    replace x5 := x5.below hb11 (Nat.le_refl _)
    replace x6 := x6.below hb11 (Nat.le_refl _)
    replace x9 := x9.below hb11 (Nat.le_refl _)
    have hB12 : Below w.heap.size w w12 := hB11.trans (hb12.mono hB11.size)
    replace k2 := k2.below hb12 k2.lt
    replace q2 := q2.below hb12 q2.lt
    replace b5 := b5.below hb12 b5.lt
    replace b7 := b7.below hb12 b7.lt
    replace b9 := b9.below hb12 b9.lt
    replace x5 := x5.below hb12 (Nat.le_refl _)
    replace x6 := x6.below hb12 (Nat.le_refl _)
    replace x9 := x9.below hb12 (Nat.le_refl _)
    clear hS10 hS11 hS12 o11 HSx Kk Kb Kx
    have c0 := b7.cell 0
    have c1 := b7.cell 1
    simp only [List.getElem?_cons_zero, List.getElem?_cons_succ] at c0 c1
    have hz2 := hB2.size
    have hz5 := hB5.size
    have hz6 := hb6.size
    have hk2 : w.heap.size + 1 < w2.heap.size := by have := hb2.size; have := hb2a.size; omega
    have hz25 := hb5.size
    go_wp2_with fail
    refine (HM.out _ _ _ _ x6).mono ?_
    rintro e w13 ⟨rfl, -, ht13⟩
    have hB13 : Below w.heap.size w w13 := hB12.trans (ht13.below (by omega) hB12.size)
    clear c0 c1 x6
    replace k2 := k2.btw ht13 (.inl (by omega))
    replace q2 := q2.btw ht13 (.inl (by omega))
    replace b5 := b5.btw ht13 (.inl (by omega))
    replace b9 := b9.btw ht13 (.inr (by omega))
    replace x5 := x5.btw ht13 (.inl (by omega))
    replace x9 := x9.btw ht13 (.inr (by omega))
    clear b7
    have c0 := b9.cell 0
    have c1 := b9.cell 1
    simp only [List.getElem?_cons_zero, List.getElem?_cons_succ] at c0 c1
    have d0 := b5.cell 0
    have d1 := b5.cell 1
    simp only [List.getElem?_cons_zero, List.getElem?_cons_succ] at d0 d1
    go_wp2_with fail
    refine (HEP.out _ _ _ x9.rd x5.rd).mono ?_
    rintro e w14 ⟨rfl, hb14⟩
    have hB14 : Below w.heap.size w w14 := hB13.trans (hb14.mono hB13.size)
    replace k2 := k2.below hb14 k2.lt
    replace q2 := q2.below hb14 q2.lt
    replace b5 := b5.below hb14 b5.lt
    replace b9 := b9.below hb14 b9.lt
    replace x5 := x5.below hb14 (Nat.le_refl _)
    replace x9 := x9.below hb14 (Nat.le_refl _)
    clear c0 c1 d0 d1
    have c0 := b9.cell 0
    have c1 := b9.cell 1
    simp only [List.getElem?_cons_zero, List.getElem?_cons_succ] at c0 c1
    go_wp2_with fail
    refine (HMP.out _ _ _ _ x9).mono ?_
    rintro e w15 ⟨rfl, y9, ht15⟩
    have hB15 : Below w.heap.size w w15 := hB14.trans (ht15.below (by omega) hB14.size)
    clear c0 c1 x9
    replace k2 := k2.btw ht15 (.inl (by omega))
    replace q2 := q2.btw ht15 (.inl (by omega))
    replace b5 := b5.btw ht15 (.inl (by omega))
    replace b9 := b9.btw ht15 h9_3
    replace x5 := x5.btw ht15 (.inl (by omega))
    have c0 := b9.cell 0
    have c1 := b9.cell 1
    simp only [List.getElem?_cons_zero, List.getElem?_cons_succ] at c0 c1
    go_wp2_with fail
    refine (HH.out _ _ y9.rd).mono ?_
    rintro e w16 ⟨rfl, hb16⟩
    have hB16 : Below w.heap.size w w16 := hB15.trans (hb16.mono hB15.size)
    replace k2 := k2.below hb16 k2.lt
    replace q2 := q2.below hb16 q2.lt
    replace b5 := b5.below hb16 b5.lt
    replace b9 := b9.below hb16 b9.lt
    replace x5 := x5.below hb16 (Nat.le_refl _)
    replace y9 := y9.below hb16 (Nat.le_refl _)
    clear c0 c1
    have HSb : Hid (∀ V, Below w16.heap.size w16 V → (V.cell? ⟨w.heap.size, 0, none⟩ = some (.int .i64 a0) ∧ V.cell? ⟨w.heap.size, 1, none⟩ = some (.slice av z0.length cv) ∧ V.cell? ⟨w.heap.size + 1, 0, none⟩ = some (.int .i64 kd) ∧ V.cell? ⟨w.heap.size + 1, 1, none⟩ = some (.string fm) ∧ V.cell? ⟨w.heap.size + 1, 2, none⟩ = some (.string tn) ∧ V.cell? ⟨w.heap.size + 1, 3, none⟩ = some (.int .i64 am) ∧ V.cell? ⟨w.heap.size + 1, 4, none⟩ = some (.int .i64 nc))) := hide (fun V hb => ⟨(k2.below hb k2.lt).cell 0, (k2.below hb k2.lt).cell 1, (q2.below hb q2.lt).cell 0, (q2.below hb q2.lt).cell 1, (q2.below hb q2.lt).cell 2, (q2.below hb q2.lt).cell 3, (q2.below hb q2.lt).cell 4⟩)
    have HXg : Hid (∀ V, Below w16.heap.size w16 V → Calls Tryz.prog 17 #[.agg #[.int .i64 kd, .string fm, .string tn, .int .i64 am, .int .i64 nc]] V fun e w' => e = .returned (.agg #[.int .i64 kd, .string fm, .string tn, .int .i64 am, .int .i64 nc]) ∧ Below V.heap.size V w' ∧ Below w16.heap.size w16 w') := hide (fun V hb => (HX.out V).mono (fun e w' ⟨h1, h2⟩ => ⟨h1, h2, hb.trans (h2.mono hb.size)⟩))
    have bD : Below w16.heap.size w16 w16.drew := (Below.refl _ w16).drew
    have bE : Below w16.heap.size w16 (w16.alloc (.cells #[.int .i64 0, .slice none 0 0] 26)).drew := ((Below.refl _ w16).alloc (Nat.le_refl _) _).drew
    have nE : Blk (w16.alloc (.cells #[.int .i64 0, .slice none 0 0] 26)).drew w16.heap.size 26 [.int .i64 0, .slice none 0 0] := Blk.new w16 26 [.int .i64 0, .slice none 0 0]
    have zD : w16.drew.heap.size = w16.heap.size := rfl
    have zE : (w16.alloc (.cells #[.int .i64 0, .slice none 0 0] 26)).drew.heap.size = w16.heap.size + 1 := by simp
    have HTg : Hid (∀ V, Below w16.heap.size w16 V → Calls Tryz.prog 16 #[.agg #[.int .i64 a0, .slice av z0.length cv]] V fun e w' => ∃ v', e = .returned (.agg #[.int .i64 a0, v']) ∧ OwnA V.heap.size w' v' z0 ∧ Below V.heap.size V w' ∧ Below w16.heap.size w16 w') := hide (fun V hb => (HT.out _ V (Hr.out.below (hB16.trans (hb.mono hB16.size)) (Nat.le_refl _))).mono (fun e w' ⟨v', h1, h2, h3⟩ => ⟨v', h1, h2, h3, hb.trans (h3.mono hb.size)⟩))
    go_upto_region 27 with fail
    go_cut [14, 15] (fun sp sc wc => ∃ (B : Nat) (a : Option Addr) (c base hi : Nat), sp = .pointer (some ⟨B, 0, none⟩) ∧ sc = .int .i64 C ∧ Blk wc B 26 [.int .i64 a0, .slice a pn c] ∧ OwnX base hi wc (.slice a pn c) P ∧ w16.heap.size ≤ base ∧ hi ≤ wc.heap.size ∧ (B < base ∨ hi ≤ B) ∧ w16.heap.size ≤ B ∧ Below w16.heap.size w16 wc)
    case first =>
      go_region_held_law (fun w' => w'.cell? ⟨w.heap.size, 0, none⟩ = some (.int .i64 a0) ∧ w'.cell? ⟨w.heap.size, 1, none⟩ = some (.slice av z0.length cv) ∧ w'.cell? ⟨w.heap.size + 1, 0, none⟩ = some (.int .i64 kd) ∧ w'.cell? ⟨w.heap.size + 1, 1, none⟩ = some (.string fm) ∧ w'.cell? ⟨w.heap.size + 1, 2, none⟩ = some (.string tn) ∧ w'.cell? ⟨w.heap.size + 1, 3, none⟩ = some (.int .i64 am) ∧ w'.cell? ⟨w.heap.size + 1, 4, none⟩ = some (.int .i64 nc)) ((refine HSb.out _ ?_; repeat (first | with_reducible exact bD | with_reducible exact bE | with_reducible exact bT | with_reducible exact bX | with_reducible exact bA | with_reducible exact Below.refl _ _ | refine Below.drew ?_ | refine Below.alloc ?_ (by first | omega | (simp; done) | (simp; omega) | (dsimp only; omega)) _ | refine Below.setCell ?_ (by first | omega | (simp; done) | (simp; omega) | (dsimp only; omega)) _))) ((first
        | (go_at_call 9; have nb0 := nb; have hBlt := nb0.lt; with_reducible refine (HI.out _ wX (Hgh.out.below (hB16.trans (bX.mono hB16.size))) rX).mono ?_; rintro e wA ⟨vA, rfl, oA, hbA⟩; have bA := bX.trans (hbA.mono bX.size); have zA := hbA.size; have xA := oA.ox; have hsh := HL.out _ _ xA.rd; obtain ⟨aA, cA, hvA⟩ := hsh; subst hvA; have nb := nb0.below hbA nb0.lt; have y0 := nb.cell 0; have y1 := nb.cell 1; have y0f := nb.frozen 0; have y1f := nb.frozen 1; simp only [List.getElem?_cons_zero, List.getElem?_cons_succ] at y0 y1)
        | (go_at_call 9; have bXz := bX.alloc zX (.cells #[.int .i64 0, .slice none 0 0] 26); with_reducible refine (HI.out _ (wX.alloc (.cells #[.int .i64 0, .slice none 0 0] 26)) (Hgh.out.below (hB16.trans (bXz.mono hB16.size))) (rX.below ((Below.refl _ wX).alloc (Nat.le_refl _) _) (Nat.le_refl _))).mono ?_; rintro e wA ⟨vA, rfl, oA, hbA⟩; have bA := bXz.trans (hbA.mono bXz.size); have zA := hbA.size; have xA := oA.ox; have hsh := HL.out _ _ xA.rd; obtain ⟨aA, cA, hvA⟩ := hsh; subst hvA; have nb := (Blk.new wX 26 [.int .i64 0, .slice none 0 0]).below hbA (Blk.new wX 26 [.int .i64 0, .slice none 0 0]).lt; have y0 := nb.cell 0; have y1 := nb.cell 1; have y0f := nb.frozen 0; have y1f := nb.frozen 1; simp only [List.getElem?_cons_zero, List.getElem?_cons_succ] at y0 y1)
        | (go_at_call 9; with_reducible refine (HI.out _ wX (Hgh.out.below (hB16.trans (bX.mono hB16.size))) rX).mono ?_; rintro e wA ⟨vA, rfl, oA, hbA⟩; have bA := bX.trans (hbA.mono bX.size); have zA := hbA.size; have xA := oA.ox; have hsh := HL.out _ _ xA.rd; obtain ⟨aA, cA, hvA⟩ := hsh; subst hvA)
        | (go_at_call 17; have nb0 := nb; with_reducible refine (HXg.out wT bT).mono ?_; rintro e wX ⟨rfl, hbX, bX⟩; have zX := bX.size; have zX' := hbX.size; have rX := (oT.rd.below (Below.refl _ wT) (Nat.le_refl _)).below hbX (Nat.le_refl _); have nb := nb0.below hbX nb0.lt)
        | (go_at_call 17; have bTz := bT.alloc zT (.cells #[.int .i64 0, .slice none 0 0] 26); with_reducible refine (HXg.out (wT.alloc (.cells #[.int .i64 0, .slice none 0 0] 26)) bTz).mono ?_; rintro e wX ⟨rfl, hbX, bX⟩; have zX := bX.size; have zX' := hbX.size; have rX := (oT.rd.below ((Below.refl _ wT).alloc (Nat.le_refl _) _) (Nat.le_refl _)).below hbX (Nat.le_refl _); have nb := (Blk.new wT 26 [.int .i64 0, .slice none 0 0]).below hbX (Blk.new wT 26 [.int .i64 0, .slice none 0 0]).lt)
        | (go_at_call 17; with_reducible refine (HXg.out wT bT).mono ?_; rintro e wX ⟨rfl, hbX, bX⟩; have zX := bX.size; have zX' := hbX.size; have rX := (oT.rd.below (Below.refl _ wT) (Nat.le_refl _)).below hbX (Nat.le_refl _))
        | (go_at_call 16; with_reducible refine (HTg.out w16.drew bD).mono ?_; rintro e wT ⟨vT, rfl, oT, hbT, bT⟩; have zT := bT.size; have zT' := hbT.size; have hsh := oT.rd.shape; obtain ⟨aT, cT, hvT⟩ := hsh; subst hvT)
        | (go_at_call 16; with_reducible refine (HTg.out (w16.alloc (.cells #[.int .i64 0, .slice none 0 0] 26)).drew bE).mono ?_; rintro e wT ⟨vT, rfl, oT, hbT, bT⟩; have zT := bT.size; have zT' := hbT.size; have hsh := oT.rd.shape; obtain ⟨aT, cT, hvT⟩ := hsh; subst hvT; have nb := nE.below hbT nE.lt)))
      all_goals
        go_wp2_with fail
        go_meet
        case rel =>
          first
            | exact ⟨wA.heap.size, aA, cA, _, wA.heap.size, rfl, rfl, Blk.new wA _ _, xA.below ((Below.refl _ wA).alloc (Nat.le_refl _) _) (Nat.le_refl _), by first | omega | (simp; omega), by simp, .inr (Nat.le_refl _), by omega, bA.alloc (by omega) _⟩
            | exact ⟨_, aA, cA, _, wA.heap.size, rfl, rfl, (nb.set 0 _).set 1 _, (xA.old (by first | omega | (simp; done) | (simp; omega)) _ _).old (by first | omega | (simp; done) | (simp; omega)) _ _, by first | omega | (simp; omega), by simp, .inl (by first | omega | (simp; done) | (simp; omega)), by omega, (bA.setCell (p := ⟨_, 0, none⟩) (by dsimp only; omega) _).setCell (p := ⟨_, 1, none⟩) (by dsimp only; omega) _⟩
    obtain ⟨w19, rfl⟩ : ∃ x, x = wc := ⟨_, rfl⟩
    obtain ⟨B19, a19, c19, base19, hi19, rfl, rfl, b19, x19, h19_1, h19_2, h19_3, h19_4, hb19⟩ := hcut
    clear HSb HXg bD bE nE zD zE
    clear HTg
    have hB19 : Below w.heap.size w w19 := hB16.trans (hb19.mono hB16.size)
    replace b5 := b5.below hb19 b5.lt
    replace b9 := b9.below hb19 b9.lt
    replace x5 := x5.below hb19 (Nat.le_refl _)
    replace y9 := y9.below hb19 (Nat.le_refl _)
    have c0 := b19.cell 0
    have c1 := b19.cell 1
    simp only [List.getElem?_cons_zero, List.getElem?_cons_succ] at c0 c1
    have d0 := b5.cell 0
    have d1 := b5.cell 1
    simp only [List.getElem?_cons_zero, List.getElem?_cons_succ] at d0 d1
    go_wp2_with fail
    refine (HEP.out _ _ _ x19.rd x5.rd).mono ?_
    rintro e w20 ⟨rfl, hb20⟩
    have hB20 : Below w.heap.size w w20 := hB19.trans (hb20.mono hB19.size)
    replace b5 := b5.below hb20 b5.lt
    replace b9 := b9.below hb20 b9.lt
    replace x5 := x5.below hb20 (Nat.le_refl _)
    replace y9 := y9.below hb20 (Nat.le_refl _)
    clear c0 c1 d0 d1
    have c0 := b9.cell 0
    have c1 := b9.cell 1
    simp only [List.getElem?_cons_zero, List.getElem?_cons_succ] at c0 c1
    go_wp2_with fail
    refine (HH.out _ _ y9.rd).mono ?_
    rintro e w21 ⟨rfl, hb21⟩
    have hB21 : Below w.heap.size w w21 := hB20.trans (hb21.mono hB20.size)
    go_wp2
    go_ret
    exact ⟨rfl, hB21⟩

theorem fnExactApply_met (os : Os) (args : Array Value) : laidMetH Tryz.prog Rows.fnExactApplyRow.laid ((laidOn (World.holding Tryz.prog os ⟨#[], #[], []⟩)).forCall (fun _ _ => 0) ⟨#[], args, []⟩).memory :=
  laidMetH_of_parts (laidMet_nil _ _) (by kernel_rfl)
theorem fnExactApply_gh {W : World} (h : laidMetH Tryz.prog Rows.fnExactApplyRow.laid W) : Gh W := by
  have h' : laidMet Tryz.prog [] W ∧ handlesMet Tryz.prog Rows.fnExactApplyRow.laid W := h
  exact gh_of_handles h'.2

set_option maxRecDepth 100000 in
theorem fnExactApply_lifted (os : Os) (started : os.Started) (H : Type) (enc : TypeId × Value → H) :
    ReturnsInHanded {} Tryz.checked os 4 .any (fun w args => (Rows.fnExactApplySpec.pre enc Tryz.prog Tryz.f4 [] false w args ∧ laidMetH Tryz.prog Rows.fnExactApplyRow.laid w) ∧ sizedMet enc Tryz.prog Tryz.f4 (OpenSpec.ofChange Rows.fnExactApplySpec) false w args)
      (Rows.fnExactApplySpec.post enc Tryz.prog Tryz.f4 false true false false) := by
  refine returnsInHanded_of_change_and (C := Tryz.checked) (X := fun w _ => laidMetH Tryz.prog Rows.fnExactApplyRow.laid w) (fun _ _ _ hh h => h.of_heap hh) fnExactApply_own started (by kernel_rfl) Tryz.func4
    (ChangeSpec.witness_at (enc := enc) (C := Tryz.checked) (os := os) (X := fun w _ => laidMetH Tryz.prog Rows.fnExactApplyRow.laid w) false (laidOn (World.holding Tryz.prog os ⟨#[], #[], []⟩)) #[.agg #[.int .i64 0, .slice none 0 0], .agg #[.int .i64 0, .string ByteArray.empty, .string ByteArray.empty, .int .i64 0, .int .i64 0]] 8 rfl (by kernel_rfl) (by kernel_rfl) (by kernel_rfl) (by kernel_rfl) (by kernel_rfl) (fnExactApply_met os _)) ?_
  intro W base args ds gs before hval0 hW _ _ hL _
  have hval : ∀ (j : Nat) t v, Tryz.f4.params[j]? = some t → args[j]? = some v → Value.okWide Tryz.prog W .any base t v := hval0
  have hW' := hW
  obtain ⟨p, q, hA0, hV0, rfl, hfz, hnd⟩ := hW
  have hV : DataW.TrodVars enc Tryz.prog W (fun _ => true) [] gs q := hV0
  obtain ⟨rfl, rfl⟩ : gs = [] ∧ q = [] := by
    cases gs with
    | nil => exact ⟨rfl, hV⟩
    | cons g r => exact absurd hV (by intro h; cases h)
  have hA : DataW.TrodAll enc Tryz.prog W 0 (fun _ => true) true Tryz.f4.params.toList args.toList ds p := hA0
  rw [Tryz.params4] at hA hval
  obtain ⟨v0, vs0, d0, ds0, p0, q0, hargs, rfl, rfl, h0, r0⟩ := trodAll_cons hA
  obtain ⟨v1, vs1, d1, ds1, p1, q1, rfl, rfl, rfl, h1, r1⟩ := trodAll_cons r0
  obtain ⟨rfl, rfl, rfl⟩ := trodAll_nil r1
  obtain rfl : args = #[v0, v1] := by cases args; simp_all
  have k0 := h0
  have lt0 : ∀ x ∈ p0, x.block < W.heap.size := by obtain ⟨m, hm⟩ := k0; exact DataW.trod_lt m _ _ _ hm
  obtain ⟨a0, y0, z0, rfl, w0⟩ : ∃ (e : Int) (v : Value) (l : List Ac), v0 = lgV e v ∧ RdA W v l ∧ l.length ≤ maxLen ∧ ∀ q ∈ l, q.1.size ≤ maxLen ∧ q.2.2.2.2.length ≤ maxLen := by
    obtain ⟨cs, rfl, hsz⟩ := okWide_struct Tryz.underlying41 (hval 0 41 _ rfl rfl)
    obtain ⟨fuel, hf⟩ := h0
    obtain ⟨e, v, l, q, r⟩ := open_ledger (by simpa [Value.cells] using hf)
    exact ⟨e, v, l, by cases cs; simp at q; subst q; rfl, r⟩
  have k1 := h1
  have lt1 : ∀ x ∈ p1, x.block < W.heap.size := by obtain ⟨m, hm⟩ := k1; exact DataW.trod_lt m _ _ _ hm
  obtain ⟨z1, rfl, w1⟩ : ∃ t : Tx5, v1 = txV t ∧ t.2.1.size ≤ maxLen ∧ t.2.2.1.size ≤ maxLen ∧ (Lit.int .i64 t.1).wf = true ∧ (Lit.int .i64 t.2.2.2.1).wf = true ∧ (Lit.int .i64 t.2.2.2.2).wf = true := by
    obtain ⟨cs, rfl, hsz⟩ := okWide_struct Tryz.underlying42 (hval 1 42 _ rfl rfl)
    obtain ⟨fuel, hf⟩ := h1
    obtain ⟨t, e, r⟩ := open_tx (by simpa [Value.cells] using hf)
    exact ⟨t, by cases cs; simp at e; subst e; rfl, r⟩
  clear hA0 hval0
  refine (fnExactApply_walk a0 y0 z0 z1 W (fnExactApply_gh hL) w0 w1).mono fun e W' ⟨he, bel⟩ => ?_
  subst he
  exact ⟨_, rfl, _, _, _, [], _, [], hW', trodAll_mk1 (shut_bool Tryz.underlying4 _), (trodAll_cons_mk (Below.trod fnExactApply_laidOut (by kernel_rfl) (of_decide_eq_true (by kernel_rfl)) k0 bel lt0) (trodAll_cons_mk (Below.trod fnExactApply_laidOut (by kernel_rfl) (of_decide_eq_true (by kernel_rfl)) k1 bel lt1) trodAll_mk0)), rfl, bel.frame _, fun h => by cases h⟩

theorem fnExactApply_holds : Rows.FnExactApplySaid :=
  OpenClaim.holds_of_wide 4 Tryz.f4 rfl rfl rfl rfl rfl rfl rfl ⟨rfl, rfl, rfl, rfl, rfl⟩ rfl rfl rfl rfl rfl (by kernel_rfl) Tryz.func4 (by kernel_rfl)
    (of_decide_eq_true (by kernel_rfl)) (by unfold Func.isWrapper; first | (rw [if_pos (by decide +kernel)]; kernel_rfl) | (rw [if_neg (by decide +kernel)]; exact ⟨rfl, rfl⟩))
    (fun os started H enc _ => fnExactApply_lifted os started H enc)

/-- The card: the variable is tied to the program's text by the given tie. -/
theorem fnExactApply_card : Rows.FnExactApplyCardSaid :=
  Claim7.holds_tied_plain_at .later [] [.handle] true Rows.fnExactApplyCard.stood.harness true
    fnExactApply_holds (fun _ h => by cases h) (by kernel_rfl) (fun _ h => by cases h) fnExactApply_row_tie rfl ⟨rfl, rfl⟩ (by kernel_rfl) rfl
    (fun f fn hf hfn => by
      obtain rfl : f = 4 := Option.some.inj ((show Tryz.prog.funcNamed Rows.fnExactApplyRow.func = some 4 by kernel_rfl).symm.trans hf) |>.symm
      obtain rfl : fn = Tryz.f4 := (Option.some.inj (Tryz.func4.symm.trans hfn)).symm
      exact ⟨by kernel_rfl, fun j t ht => by
        rw [Tryz.params4] at ht
        have hm : t ∈ [41, 42] := by simpa using Array.mem_of_getElem? ht
        have hall : ([41, 42].all fun u => !Tryz.prog.wantsStandIn u) = true := by kernel_rfl
        exact (show Tryz.prog.wantsStandIn t = false by simpa using List.all_eq_true.1 hall t hm)⟩)
    (by kernel_rfl)

end Go.Proofs.YtocaednkhcjkcaaGreatDoor
