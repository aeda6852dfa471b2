/- A ledger that came in, opened: what it reads as. Arguments of the type of an order read. Orders that came in, opened: what they read as. The laws' marks on lists of orders. What the row's condition says of the package-level variable that holds a type's handle: its cell. At all ledgers and lists of orders ApplyAll of the program answers as the model's ApplyAll, writes into no argument, and its answer owns its memory: the law FnExactApplyAll returns true; its one variable of the library reads as the program's text lays it. -/
import Derived.Test.YtocaednkhcjkcaaGreatDoorAcOpen
import Derived.Test.YtocaednkhcjkcaaGreatDoorLgVal
import Derived.Test.YtocaednkhcjkcaaGreatDoorTxVal
import Derived.OpenShut
import Derived.ShutString
import Derived.ChangeOld
import Derived.WideShapes
import Derived.Test.YtocaednkhcjkcaaGreatDoorTxRow
import Derived.Test.YtocaednkhcjkcaaGreatDoorAcMarkS
import Derived.Test.YtocaednkhcjkcaaGreatDoorLgAs
import Derived.LaidLaws
import Derived.LaidHandle
import Derived.LaidMore
import Derived.OpenVars
import Derived.Stop.Joined
import Derived.Test.YtocaednkhcjkcaaGreatDoorRows
import Derived.Test.YtocaednkhcjkcaaGreatDoorTie
import Derived.Test.YtocaednkhcjkcaaGreatDoorCards
import Derived.Test.YtocaednkhcjkcaaGreatDoorZaAll
import Derived.Test.YtocaednkhcjkcaaGreatDoorLgFacts
import Derived.ChangeSame
import Derived.ChangeVars
import Derived.JoinedOf
import Derived.RowKitTokens
import Derived.WalkKit
import Derived.ProofKit
import Derived.Below
import Derived.SliceStrings
import Derived.SevenTiedAt
namespace Go.Proofs.YtocaednkhcjkcaaGreatDoor
open Go.RowKit Go.ChangeShapes Go.WideShapes
set_option linter.unusedVariables false

section
variable {H : Type} {enc : TypeId × Value → H} {w : World} {base : Nat} {spare : Nat → Bool} {held : Bool}

set_option maxRecDepth 20000 in
theorem open_ledger {fuel : Nat} {cs : List Value} {x : DataW H × List MemPlace} (h : DataW.trod enc Tryz.prog w base spare held fuel 41 cs = some x) :
    ∃ (e : Int) (v : Value) (l : List Ac), cs = [.int .i64 e, v] ∧ RdA w v l ∧ l.length ≤ maxLen ∧ ∀ q ∈ l, q.1.size ≤ maxLen ∧ q.2.2.2.2.length ≤ maxLen := by
  obtain ⟨xs, n, _, _, hlen, hxl, hf⟩ := DataW.trod_struct Tryz.underlying41 h
  have h5 : cs.length = 2 := hlen.trans (by kernel_rfl)
  have hx5 : xs.length = 2 := hxl
  match cs, h5, xs, hx5 with
  | [c0, c1], _, [y0, y1], _ =>
    have ki : Tryz.prog.cellsOf 3 = 1 := by kernel_rfl
    have kl : Tryz.prog.cellsOf 39 = 1 := by kernel_rfl
    have g0 : DataW.trod enc Tryz.prog w base spare held n 3 [c0] = some y0 := by
      have e := hf 0 _ rfl
      change DataW.trod enc Tryz.prog w base spare held n 3 (List.take (Tryz.prog.cellsOf 3) [c0, c1]) = some y0 at e
      rw [ki] at e
      exact e
    have g1 : DataW.trod enc Tryz.prog w base spare held n 39 [c1] = some y1 := by
      have e := hf 1 _ rfl
      change DataW.trod enc Tryz.prog w base spare held n 39 (List.take (Tryz.prog.cellsOf 39) [c1]) = some y1 at e
      rw [kl] at e
      exact e
    obtain ⟨z0, e0, _⟩ := DataW.trod_int Tryz.underlying3 g0
    have hsl : ∃ a len cap, c1 = .slice a len cap := by
      rcases Deep.open_slice Tryz.underlying39 g1 with ⟨hcs, _⟩ | ⟨ad, len', cap', m, n', D, Pl, hcs, _⟩
      · simp only [List.cons.injEq, and_true] at hcs; exact ⟨_, _, _, hcs⟩
      · simp only [List.cons.injEq, and_true] at hcs; exact ⟨_, _, _, hcs⟩
    obtain ⟨a, len, cap, rfl⟩ := hsl
    obtain ⟨l, rfl, hr, hl, hq⟩ := open_accS g1
    simp only [List.cons.injEq, and_true] at e0
    subst e0
    exact ⟨z0, _, l, rfl, hr, hl, hq⟩
end
end Go.Proofs.YtocaednkhcjkcaaGreatDoor

namespace Go.Proofs.YtocaednkhcjkcaaGreatDoor
open Go.RowKit Go.ChangeShapes Go.WideShapes Go.ChangeAt
set_option linter.unusedVariables false
variable {H : Type} {enc : TypeId × Value → H} {w : World} {base : Nat} {spare : Nat → Bool} {held : Bool}

set_option maxRecDepth 20000 in
theorem open_tx {fuel : Nat} {cs : List Value} {x : DataW H × List MemPlace} (h : DataW.trod enc Tryz.prog w base spare held fuel 42 cs = some x) :
    ∃ t : Tx5, cs = [.int .i64 t.1, .string t.2.1, .string t.2.2.1, .int .i64 t.2.2.2.1, .int .i64 t.2.2.2.2] ∧ t.2.1.size ≤ maxLen ∧ t.2.2.1.size ≤ maxLen ∧ (Lit.int .i64 t.1).wf = true ∧ (Lit.int .i64 t.2.2.2.1).wf = true ∧ (Lit.int .i64 t.2.2.2.2).wf = true := by
  obtain ⟨xs, n, _, _, hlen, hxl, hf⟩ := DataW.trod_struct Tryz.underlying42 h
  have h5 : cs.length = 5 := hlen.trans (by kernel_rfl)
  have hx5 : xs.length = 5 := hxl
  match cs, h5, xs, hx5 with
  | [c0, c1, c2, c3, c4], _, [y0, y1, y2, y3, y4], _ =>
    have ks : Tryz.prog.cellsOf 9 = 1 := by kernel_rfl
    have ki : Tryz.prog.cellsOf 3 = 1 := by kernel_rfl
    have g0 : DataW.trod enc Tryz.prog w base spare held n 3 [c0] = some y0 := by
      have e := hf 0 _ rfl
      change DataW.trod enc Tryz.prog w base spare held n 3 (List.take (Tryz.prog.cellsOf 3) [c0, c1, c2, c3, c4]) = some y0 at e
      rw [ki] at e
      exact e
    have g1 : DataW.trod enc Tryz.prog w base spare held n 9 [c1] = some y1 := by
      have e := hf 1 _ rfl
      change DataW.trod enc Tryz.prog w base spare held n 9 (List.take (Tryz.prog.cellsOf 9) [c1, c2, c3, c4]) = some y1 at e
      rw [ks] at e
      exact e
    have g2 : DataW.trod enc Tryz.prog w base spare held n 9 [c2] = some y2 := by
      have e := hf 2 _ rfl
      change DataW.trod enc Tryz.prog w base spare held n 9 (List.take (Tryz.prog.cellsOf 9) [c2, c3, c4]) = some y2 at e
      rw [ks] at e
      exact e
    have g3 : DataW.trod enc Tryz.prog w base spare held n 3 [c3] = some y3 := by
      have e := hf 3 _ rfl
      change DataW.trod enc Tryz.prog w base spare held n 3 (List.take (Tryz.prog.cellsOf 3) [c3, c4]) = some y3 at e
      rw [ki] at e
      exact e
    have g4 : DataW.trod enc Tryz.prog w base spare held n 3 [c4] = some y4 := by
      have e := hf 4 _ rfl
      change DataW.trod enc Tryz.prog w base spare held n 3 (List.take (Tryz.prog.cellsOf 3) [c4]) = some y4 at e
      rw [ki] at e
      exact e
    obtain ⟨z0, e0, _, h0⟩ := DataW.trod_int Tryz.underlying3 g0
    obtain ⟨s1, e1, _, h1⟩ := DataW.trod_string Tryz.underlying9 g1
    obtain ⟨s2, e2, _, h2⟩ := DataW.trod_string Tryz.underlying9 g2
    obtain ⟨z3, e3, _, h3⟩ := DataW.trod_int Tryz.underlying3 g3
    obtain ⟨z4, e4, _, h4⟩ := DataW.trod_int Tryz.underlying3 g4
    simp only [List.cons.injEq, and_true] at e0 e1 e2 e3 e4
    subst e0 e1 e2 e3 e4
    exact ⟨(z0, s1, s2, z3, z4), rfl, h1, h2, h0, h3, h4⟩
end Go.Proofs.YtocaednkhcjkcaaGreatDoor

namespace Go.Proofs.YtocaednkhcjkcaaGreatDoor
open Go.RowKit Go.ChangeShapes Go.WideShapes
set_option linter.unusedVariables false

section
variable {H : Type} {enc : TypeId × Value → H} {w : World} {base : Nat} {spare : Nat → Bool} {held : Bool}
theorem open_txS {fuel : Nat} {a : Option Addr} {len cap : Nat} {x : DataW H × List MemPlace} (h : DataW.trod enc Tryz.prog w base spare held fuel 50 [.slice a len cap] = some x) :
    ∃ l : List Tx5, len = l.length ∧ RdT w (.slice a len cap) l ∧ l.length ≤ maxLen ∧ ∀ q ∈ l, q.2.1.size ≤ maxLen ∧ q.2.2.1.size ≤ maxLen := by
  rcases Deep.open_slice Tryz.underlying50 h with ⟨hcs, _⟩ | ⟨ad, len', cap', m, n, D, Pl, hcs, hb, hl, hm, hmm, hx, hel⟩
  · simp at hcs
    obtain ⟨rfl, rfl, rfl⟩ := hcs
    exact ⟨[], rfl, .inl ⟨_, _, rfl, rfl, fun _ => rfl⟩, by simp, by simp⟩
  · simp at hcs
    obtain ⟨rfl, rfl, rfl⟩ := hcs
    have hlm : len ≤ m := by rw [hmm]; split <;> omega
    by_cases h0 : len = 0
    · subst h0; exact ⟨[], rfl, .inl ⟨_, _, rfl, rfl, fun h => by cases h⟩, by simp, by simp⟩
    · obtain ⟨b, off, spot⟩ := ad
      rw [show Tryz.prog.cellsOf 42 = 5 from by kernel_rfl] at hel
      have each : ∀ i, i < m → ∃ q : Tx5, w.cells? base ((⟨b, off, spot⟩ : Addr).add (i * 5)) 5 = some (txC q) ∧ q.2.1.size ≤ maxLen ∧ q.2.2.1.size ≤ maxLen := fun i hi => by
        obtain ⟨cs', h1, h2⟩ := hel i hi
        obtain ⟨q, rfl, k1, k2, -⟩ := open_tx h2
        exact ⟨q, h1, k1, k2⟩
      obtain ⟨q, hq⟩ := Deep.choose_lt each
      have c0 : ∀ i, i < m → ∀ j, j < 5 → w.cell? (((⟨b, off, spot⟩ : Addr).add (i * 5)).add j) = (txC (q i))[j]? := fun i hi => (World.cells?_some (hq i hi).1).2.2
      have hc0 := c0 0 (by omega) 0 (by omega)
      have hspot : spot = none := by simpa [Addr.add] using World.cell?_spot hc0
      subst hspot
      have hlen : ((List.range len).map q).length = len := by simp
      refine ⟨(List.range len).map q, hlen.symm, .inr ⟨b, off, cap, ?_, by rw [hlen], by omega, hm, ?_, ?_⟩, by omega, ?_⟩
      · intro e; rw [e] at hlen; simp at hlen; omega
      · have := World.block_lt_of_cell? w _ hc0; simpa [Addr.add] using this
      · intro i hi
        rw [hlen] at hi
        have cc : ∀ j, j < 5 → w.cell? ⟨b, off + i * 5 + j, none⟩ = (txC (q i))[j]? := fun j hj => by
          have := c0 i (by omega) j hj
          rwa [add_plain', add_plain'] at this
        simp only [List.getElem_map, List.getElem_range]
        exact ⟨cc 0 (by omega), cc 1 (by omega), cc 2 (by omega), cc 3 (by omega), cc 4 (by omega)⟩
      · intro z hz
        obtain ⟨i, hi, rfl⟩ := List.mem_map.1 hz
        exact (hq i (by have := List.mem_range.1 hi; omega)).2
end
end Go.Proofs.YtocaednkhcjkcaaGreatDoor

namespace Go.Proofs.YtocaednkhcjkcaaGreatDoor
open Go.RowKit
set_option linter.unusedVariables false

theorem row_step {base g n cap : Nat} {w : World} {T : TypeId} {Y : List Value} (h : w.ownsRow base T 5 (.slice (some ⟨g, 0, none⟩) n cap) n Y) (hY : Y.length = 5 * n) (i : Nat) (hi : i < 5 * n) :
    (∃ y, w.cell? ⟨g, i, none⟩ = some y) ∧ w.frozen? ⟨g, i, none⟩ = false ∧ ∀ u, (w.setCell ⟨g, i, none⟩ u).ownsRow base T 5 (.slice (some ⟨g, 0, none⟩) n cap) n (Y.set i u) :=
  ⟨⟨Y[i]'(by omega), by rw [h.cellAt i (by omega)]; exact List.getElem?_eq_getElem (by omega)⟩, h.frozenAt i, fun u => (h.stored i u).1⟩
set_option maxRecDepth 20000 in
set_option maxHeartbeats 2000000 in
theorem markTxS_any (v : Value) (l : List Tx5) (k base hi : Nat) (w : World) (ho : OwnT base w v l) (hhi : ∀ g, v.ownBlock = some g → g < hi) (hl : l.length ≤ 10000000) (hk : k + 5 * l.length ≤ 90000000) (hk0 : 0 < k) :
    Calls Tryz.prog 26 #[v, .int .i64 (k : Int)] w fun e w' => e = .returned (.int .i64 ((k + 5 * l.length : Nat) : Int)) ∧ Btw base hi w w' := by
  have hcl : (l.map txC).flatten.length = 5 * l.length := by
    clear ho hhi hl hk hk0
    induction l with
    | nil => rfl
    | cons t l ih =>
      rw [List.map_cons, List.flatten_cons, List.length_append, ih, List.length_cons]
      show 5 + 5 * l.length = 5 * (l.length + 1)
      omega
  by_cases hne : l = []
  · subst hne
    obtain ⟨a, c, rfl⟩ := ho.rd.shape
    clear ho hhi hcl
    go_enter Tryz.func26, Tryz.ntmps26
    go_wp2
    refine wp_loop_rounds 1 ?_
    rw [rounds_succ]
    go_wp2
    go_ret
    exact ⟨by simp <;> rfl, Btw.refl _ _ _⟩
  · obtain ⟨g, cap, rfl⟩ : ∃ g cap, v = .slice (some ⟨g, 0, none⟩) l.length cap := by
      rcases ho.2 with ⟨rfl, hn⟩ | ⟨g, cap, cur, rfl, -⟩
      · exact absurd (List.length_eq_zero_iff.1 hn) hne
      · exact ⟨g, cap, rfl⟩
    have hgb : base ≤ g := (World.ownsRow.lt ho g rfl).1
    have hghi : g < hi := hhi g rfl
    have Hrow : Hid (w.ownsRow base 28 5 (.slice (some ⟨g, 0, none⟩) l.length cap) l.length (l.map txC).flatten) := hide ho
    clear ho hhi
    generalize (l.map txC).flatten = Y0 at Hrow hcl
    go_enter Tryz.func26, Tryz.ntmps26
    go_wp2
    go_loopw [1, 5] (fun kv iv wr => ∃ (j : Nat) (Y : List Value), j ≤ l.length ∧ iv = .int .i64 (j : Int) ∧ kv = .int .i64 ((k + 5 * j : Nat) : Int) ∧ Y.length = 5 * l.length ∧ wr.ownsRow base 28 5 (.slice (some ⟨g, 0, none⟩) l.length cap) l.length Y ∧ Btw base hi w wr)
      (fun _ iv _ => l.length - (intOf iv).toNat)
    case atStart => exact ⟨0, Y0, Nat.zero_le _, rfl, rfl, hcl, Hrow.out, Btw.refl _ _ _⟩
    case round =>
      obtain ⟨j, Y, hj, rfl, rfl, hYl, hown, hbt⟩ := hrel
      clear Hrow hcl
      by_cases hlt : j < l.length
      · have hli : (j : Int) < (l.length : Int) := by omega
        have Hnx : Hid (k + 5 * (j + 1) = k + 5 * j + 5) := hide (by omega)
        have hK1 : k + 5 * j + 5 ≤ 90000000 := by omega
        have hK0 : 0 < k + 5 * j := by omega
        generalize k + 5 * j = K at Hnx hK1 hK0 ⊢
        have Hm1 := hide (fun w => markText_any (K + 1) w (by omega) (by omega))
        have Hm2 := hide (fun w => markText_any (K + 1 + 1) w (by omega) (by omega))
        obtain ⟨⟨y0, q0⟩, f0, s0⟩ := row_step hown hYl (j * 5) (by omega)
        have S0 := hide s0
        have Hbt := hide hbt
        clear hown hbt s0
        go_wp2_with fail
        refine (Hm1.out _).mono ?_
        rintro e w1 ⟨rfl, hb1⟩
        have r1 := row_below (S0.out (.int .i64 (K : Int))) hb1 (Nat.le_refl _)
        have Hbt1 := hide ((Hbt.out.set hgb hghi (j * 5) (.int .i64 (K : Int))).trans (Btw.of_below hb1))
        clear hb1 q0 f0
        obtain ⟨⟨y1, q1⟩, f1, s1⟩ := row_step r1 (by simp [hYl]) (j * 5 + 1) (by omega)
        have S1 := hide s1
        clear r1 s1
        go_wp2_with fail
        refine (Hm2.out _).mono ?_
        rintro e w2 ⟨rfl, hb2⟩
        have r2 := row_below (S1.out (.string (mtx (K + 1)))) hb2 (Nat.le_refl _)
        have Hbt2 := hide ((Hbt1.out.set hgb hghi (j * 5 + 1) (.string (mtx (K + 1)))).trans (Btw.of_below hb2))
        clear hb2 q1 f1
        obtain ⟨⟨y2, q2⟩, f2, s2⟩ := row_step r2 (by simp [hYl]) (j * 5 + 2) (by omega)
        obtain ⟨⟨y3, q3⟩, f3, -⟩ := row_step r2 (by simp [hYl]) (j * 5 + 3) (by omega)
        obtain ⟨⟨y4, q4⟩, f4, -⟩ := row_step r2 (by simp [hYl]) (j * 5 + 4) (by omega)
        have S2 := hide (fun u2 u3 u4 => (((row_step (((row_step (s2 u2) (by simp [hYl]) (j * 5 + 3) (by omega)).2.2) u3) (by simp [hYl]) (j * 5 + 4) (by omega)).2.2) u4))
        clear r2 s2
        go_wp2
        go_roundw
        case rel =>
          refine ⟨j + 1, _, by omega, by go_num, by rw [Hnx.out]; go_num, ?_, S2.out _ _ _, ((Hbt2.out.set hgb hghi _ _).set hgb hghi _ _).set hgb hghi _ _⟩
          simp [hYl]
        case measure => simp [intOf]; omega
      · have ej : j = l.length := by omega
        subst ej
        have Hbt := hide hbt
        clear hown hbt
        go_wp2
        go_ret
        exact ⟨rfl, Hbt.out⟩
end Go.Proofs.YtocaednkhcjkcaaGreatDoor

namespace Go.Proofs.YtocaednkhcjkcaaGreatDoor
open Go.ChangeShapes Go.WideShapes Go.RowKit
set_option linter.unusedVariables false

theorem Tryz.et : Tryz.prog.globalNamed "errors.errorType" = some 0 := by kernel_rfl
theorem Tryz.rt : (Tryz.prog.cutTypes.find? (·.1 == "internal/reflectlite.rtype")).map (·.2) = some 185 := by kernel_rfl
theorem Tryz.oneRow : ((List.range 301).filter fun t => Tryz.prog.rowNamed t [101, 114, 114, 111, 114]) = [74] := by kernel_rfl
theorem Tryz.nTypes : Tryz.prog.types.size = 301 := by kernel_rfl

theorem gh_of_handles {W : World} (h : handlesMet Tryz.prog [("errors.errorType", Rows.laid_errors_errorType)] W) : Gh W := by
  obtain ⟨name, u, ty, e1, e2, e3, e4, e5⟩ := h _ (List.mem_singleton.2 rfl)
  have en : name = [101, 114, 114, 111, 114] := (Option.some.inj e1).symm
  subst en
  obtain rfl := Option.some.inj (Tryz.rt.symm.trans e2)
  have hm : ty ∈ (List.range 301).filter fun t => Tryz.prog.rowNamed t [101, 114, 114, 111, 114] := List.mem_filter.2 ⟨List.mem_range.2 (by rw [← Tryz.nTypes]; exact e3), e4⟩
  rw [Tryz.oneRow] at hm
  obtain rfl := List.mem_singleton.1 hm
  have hh : typeHandle Tryz.prog 74 = .pointer (some ⟨1, 74, none⟩) := by kernel_rfl
  rw [hh] at e5
  unfold Gh
  simpa using World.var?_cell Tryz.et e5 0
/-- The variable's cell laid anew. -/
def handPut : Obj → Obj
  | .cells _ t frozen => .cells #[.iface 185 (.agg #[.pointer (some ⟨1, 74, none⟩)])] t frozen
  | o => o
/-- A world that meets the condition: w0, the variable's cell laid. -/
def laidOn (w0 : World) : World := { w0 with heap := w0.heap.modify 0 handPut }
end Go.Proofs.YtocaednkhcjkcaaGreatDoor

namespace Go.Proofs.YtocaednkhcjkcaaGreatDoor
open Go.ChangeShapes Go.WideShapes Go.ChangeAt Go.RowKit
open Go.ChangeMaps (open_string shut_string)
set_option linter.unusedVariables false

theorem fnExactApplyAll_own : ownKnob Tryz.prog.godebug = none := by kernel_rfl
theorem fnExactApplyAll_laidOut : laidOutB Tryz.prog = true := by kernel_rfl

theorem OwnT.btw {base lo hi : Nat} {w w' : World} {v : Value} {l : List Tx5} (h : OwnT base w v l) (hb : Btw lo hi w w') (hd : hi ≤ base ∨ ∀ k, v.ownBlock = some k → k < lo) : OwnT base w' v l :=
  row_btw h hb (fun k hk => by rcases hd with h' | h'; exact .inr (by have := (h.lt k hk).1; omega); exact .inl (h' k hk))
open Classical in
set_option maxRecDepth 20000 in
set_option maxHeartbeats 4000000 in
theorem fnExactApplyAll_walk (a0 : Int) (y0 : Value) (z0 : List Ac) (a1 : Option Addr) (len1 cap1 : Nat) (z1 : List Tx5) (w : World) (hgh : Gh w) (w0 : RdA w y0 z0 ∧ z0.length ≤ maxLen ∧ ∀ q ∈ z0, q.1.size ≤ maxLen ∧ q.2.2.2.2.length ≤ maxLen) (w1x : len1 = z1.length ∧ RdT w (.slice a1 len1 cap1) z1 ∧ z1.length ≤ maxLen ∧ ∀ q ∈ z1, q.2.1.size ≤ maxLen ∧ q.2.2.1.size ≤ maxLen) :
    Calls Tryz.prog 5 #[lgV a0 y0, .slice a1 len1 cap1] w fun e w' => e = .returned (.bool true) ∧ Below w.heap.size w w' := by
  obtain ⟨hr, hlm, hsm⟩ := w0
  obtain ⟨rfl, hrt, hlt, hst⟩ := w1x
  obtain ⟨av, cv, rfl⟩ := hr.shape
  have hlm' : z0.length ≤ 9223372036854775807 := by unfold maxLen at hlm; omega
  have hsm' : ∀ a ∈ z0, a.1.size ≤ 9223372036854775807 ∧ a.2.2.2.2.length ≤ 9223372036854775807 := fun a ha => by have := hsm a ha; unfold maxLen at this; omega
  have hlt' : z1.length ≤ 9223372036854775807 := by unfold maxLen at hlt; omega
  have hst' : ∀ a ∈ z1, a.2.1.size ≤ 9223372036854775807 ∧ a.2.2.1.size ≤ 9223372036854775807 := fun a ha => by have := hst a ha; unfold maxLen at this; omega
  obtain ⟨w1, hw1⟩ : ∃ w1, w.alloc (.cells #[.int .i64 a0, .slice av z0.length cv] 41) = w1 := ⟨_, rfl⟩
  have hb1 : Below w.heap.size w w1 := by rw [← hw1]; exact (Below.refl _ w).alloc (Nat.le_refl _) _
  have k1 : Blk w1 w.heap.size 41 [.int .i64 a0, .slice av z0.length cv] := by rw [← hw1]; exact Blk.new w _ _
  have Hz := hide (szLedger_any a0 _ z0 1048576 w1 (hr.below hb1 (Nat.le_refl _)) (by omega) hlm' hsm')
  have Hr := hide hr
  have Hrt := hide hrt
  have Hsm := hide hsm
  have Hst := hide hst
  have Hst' := hide hst'
  have Hgh := hide hgh
  have l1 : w1.heap.size = w.heap.size + 1 := by rw [← hw1]; simp
  have c0 := k1.cell 0
  have c1 := k1.cell 1
  simp only [List.getElem?_cons_zero, List.getElem?_cons_succ] at c0 c1
  simp only [lgV] at *
  clear hr hsm hsm' hlm hgh hrt hst hst' hlt
  go_enter Tryz.func5, Tryz.ntmps5
  go_wp2_with fail
  refine Hz.out.mono ?_
  rintro e w2a ⟨r, rfl, hfit, hb2a⟩
  have hB2a : Below w.heap.size w w2a := hb1.trans (hb2a.mono hb1.size)
  have k2 := k1.below hb2a k1.lt
  clear c0 c1 k1
  by_cases hneg : r < 0
  · clear hfit
    go_wp2
    go_ret
    exact ⟨rfl, hB2a⟩
  have hrm := hfit (by omega)
  obtain ⟨rn, hrn⟩ : ∃ n : Nat, r = (n : Int) := ⟨r.toNat, by omega⟩
  subst hrn
  have Hzt := hide (szTxS_any _ z1 rn w2a (Hrt.out.below hB2a (Nat.le_refl _)) (by omega) hlt' Hst'.out)
  clear hfit
  go_wp2_with fail
  refine Hzt.out.mono ?_
  rintro e w2 ⟨r2, rfl, hfit, hb2⟩
  have hB2 : Below w.heap.size w w2 := hB2a.trans (hb2.mono hB2a.size)
  replace k2 := k2.below hb2 k2.lt
  clear Hzt Hst' hlt'
  by_cases hneg2 : r2 < 0
  · clear hfit
    go_wp2
    go_ret
    exact ⟨rfl, hB2⟩
  · have hl := hrm
    have hl1 : z1.length ≤ 1048576 := by have := hfit (by omega); omega
    have hl4 : z0.length ≤ 4000000 := by omega
    have hlv : ∀ a ∈ z0, a.2.2.2.2.length ≤ 4000000 := fun a ha => by have h1 := totA_at z0 a ha; unfold wgA at h1; omega
    have hnl3 : ∀ a ∈ z0, a.1.size ≤ maxLen ∧ a.2.2.2.2.length ≤ 3999999 := fun a ha => ⟨(Hsm.out a ha).1, by have h1 := totA_at z0 a ha; unfold wgA at h1; omega⟩
    have hnz : nxs 1 z0 + 5 * z1.length ≤ 90000000 := by have := nxs_tot 1 z0; omega
    have HS := hide (fun v vt w hr hrt => specAll_any a0 v vt z0 z1 w hr hrt (by omega) hnl3 (by omega) Hst.out)
    have HI := hide (fun v vt w (hgw : Gh w) hr hrt => implAll_any a0 v vt z0 z1 w hgw hr hrt (by omega) hnl3 (by omega) Hst.out)
    have HT := hide (fun v w hr => toLedger_any a0 v z0 w hr hl4 hlv)
    have HE := hide (fun v1 v2 w h1 h2 => eqLedger_any a0 a0 v1 v2 z0 z0 w h1 h2 hl4 hl4 hlv hlv)
    have HX := hide (fun v w hr => toTxS_any v z1 w hr (by omega))
    have HEX := hide (fun v1 v2 w h1 h2 => eqTxS_any v1 v2 z1 z1 w h1 h2 (by omega) (by omega) rfl)
    have hP : (alA a0 z0 z1).1.length ≤ 4000000 ∧ (∀ a ∈ (alA a0 z0 z1).1, a.2.2.2.2.length ≤ 4000000) ∧ nxs 1 (alA a0 z0 z1).1 ≤ 90000000 := by
      rcases alS_is a0 z1 (z0, 0) with h | h
      · have h' : (alA a0 z0 z1).1 = z0 := h
        rw [h']; exact ⟨hl4, hlv, by omega⟩
      · have h' : acsB (alA a0 z0 z1).1 = true := h
        have h1 := acs_len' h'
        have h2 := acs_four h'
        have h3 := nxs_four 1 _ h2
        exact ⟨by omega, fun a ha => by have := h2 a ha; omega, by omega⟩
    generalize (alA a0 z0 z1).1 = P at HS HI hP
    generalize (((alA a0 z0 z1).2 : Nat) : Int) = C at HS HI
    obtain ⟨hP4, hPlv, hPn⟩ := hP
    have HEP := hide (fun v1 v2 w h1 h2 => eqLedger_any a0 a0 v1 v2 P P w h1 h2 hP4 hP4 hPlv hPlv)
    rw [decide_eq_true rfl, decide_eq_true rfl, Bool.true_and] at HE HEP
    have HM := hide (fun v base hi w ho => markLedger_any a0 v z0 1 base hi w ho (by omega) (fun a ha => by have := hlv a ha; omega) (by omega) (by omega))
    have hkz0 : 0 < nxs 1 z0 := nxs_ge 1 z0
    have HMX := hide (fun v base hi w ho hh => markTxS_any v z1 (nxs 1 z0) base hi w ho hh (by omega) hnz hkz0)
    have HMP := hide (fun v base hi w ho => markLedger_any a0 v P 1 base hi w ho (by omega) (fun a ha => by have := hPlv a ha; omega) hPn (by omega))
    have HH := hide (fun v w hr => heldLedger_any a0 v P 1 w hr (by omega) (fun a ha => by have := hPlv a ha; omega) hPn (by omega))
    have hkx : ¬ ((nxs 1 z0 + 5 * z1.length : Nat) : Int) < 0 := by omega
    have hkP : ¬ ((nxs 1 P : Nat) : Int) < 0 := by omega
    generalize nxs 1 z0 + 5 * z1.length = kx at HMX hkx
    generalize nxs 1 z0 = kz at HM HMX
    generalize nxs 1 P = kP at HMP HH hkP
    simp only [lgV] at HS HI HT HE HEP HM HMP HH
    have HL := hide (fun w v (h : RdA w v P) => h.shape)
    have HLT := hide (fun w v (h : RdT w v z1) => h.shape)
    generalize P.length = pn at HL
    clear hfit hl hl4 hlv hnl3 Hsm Hz hnz hP4 hPlv hPn Hst hkz0 hrm
    have c0 := k2.cell 0
    have c1 := k2.cell 1
    simp only [List.getElem?_cons_zero, List.getElem?_cons_succ] at c0 c1
    go_wp2_with fail
    refine (HT.out _ _ (Hr.out.below hB2 (Nat.le_refl _))).mono ?_
    rintro e wT5 ⟨vT5, rfl, oT5, hbT5⟩
    have hBT5 : Below w.heap.size w wT5 := hB2.trans (hbT5.mono hB2.size)
    obtain ⟨aT5, cT5, rfl⟩ := oT5.rd.shape
    clear c0 c1
    go_wp2_with fail
    refine (HX.out _ _ (Hrt.out.below hBT5 (Nat.le_refl _))).mono ?_
    rintro e wX5 ⟨vX5, rfl, oX5, hbX5⟩
    have hBX5 : Below w.heap.size w wX5 := hBT5.trans (hbX5.mono hBT5.size)
    have oT5 := oT5.below hbX5 (Nat.le_refl _)
    obtain ⟨aX5, cX5, rfl⟩ := oX5.rd.shape
    have hbWX5 : Below w2.heap.size w2 wX5 := hbT5.trans (hbX5.mono hbT5.size)
    go_wp2_with fail
    refine (HS.out _ _ _ oT5.rd oX5.rd).mono ?_
    rintro e wA5 ⟨vA5, rfl, oA5, hbA5⟩
    have x5 := oA5.ox
    obtain ⟨a5, c5, hv5⟩ := HL.out _ _ x5.rd
    subst hv5
    obtain ⟨w5, hw5⟩ : ∃ x, wA5.alloc (.cells #[.int .i64 a0, .slice a5 pn c5] 26) = x := ⟨_, rfl⟩
    have hbz5 : Below wA5.heap.size wA5 w5 := by rw [← hw5]; exact (Below.refl _ wA5).alloc (Nat.le_refl _) _
    have b5 : Blk w5 wA5.heap.size 26 [.int .i64 a0, .slice a5 pn c5] := by rw [← hw5]; exact Blk.new wA5 _ _
    replace x5 := x5.below hbz5 (Nat.le_refl _)
    have hba5 := hbA5.trans (hbz5.mono hbA5.size)
    have hzA5 := hbA5.size
    have hb5 : Below w2.heap.size w2 w5 := hbWX5.trans (hba5.mono hbWX5.size)
    clear oA5
    clear oT5 oX5
    have hB5 : Below w.heap.size w w5 := hB2.trans (hb5.mono hB2.size)
    have hb5lt := b5.lt
    replace k2 := k2.below hb5 k2.lt
    have c0 := k2.cell 0
    have c1 := k2.cell 1
    simp only [List.getElem?_cons_zero, List.getElem?_cons_succ] at c0 c1
    go_wp2_with fail
    refine (HT.out _ _ (Hr.out.below hB5 (Nat.le_refl _))).mono ?_
    rintro e w6 ⟨v6, rfl, o6, hb6⟩
    have hB6 : Below w.heap.size w w6 := hB5.trans (hb6.mono hB5.size)
    replace k2 := k2.below hb6 k2.lt
    replace b5 := b5.below hb6 b5.lt
    replace x5 := x5.below hb6 (Nat.le_refl _)
    have x6 := o6.ox
    clear o6 c0 c1
    obtain ⟨a6, cv6, rfl⟩ := x6.rd.shape
    obtain ⟨w7, hw7⟩ : ∃ w7, w6.alloc (.cells #[.int .i64 a0, .slice a6 z0.length cv6] 26) = w7 := ⟨_, rfl⟩
    have hb7 : Below w6.heap.size w6 w7 := by rw [← hw7]; exact (Below.refl _ w6).alloc (Nat.le_refl _) _
    have b7 : Blk w7 w6.heap.size 26 [.int .i64 a0, .slice a6 z0.length cv6] := by rw [← hw7]; exact Blk.new w6 _ _
    have l7 : w7.heap.size = w6.heap.size + 1 := by rw [← hw7]; simp
    have hB7 : Below w.heap.size w w7 := hB6.trans (hb7.mono hB6.size)
    replace k2 := k2.below hb7 k2.lt
    replace b5 := b5.below hb7 b5.lt
    replace x5 := x5.below hb7 (Nat.le_refl _)
    replace x6 := x6.below hb7 (Nat.le_refl _)
    have L7 := hide l7
    clear l7
    go_wp2_with fail
    refine (HX.out _ _ (Hrt.out.below hB7 (Nat.le_refl _))).mono ?_
    rintro e w8 ⟨v8, rfl, o8, hb8⟩
    have hB8 : Below w.heap.size w w8 := hB7.trans (hb8.mono hB7.size)
    replace k2 := k2.below hb8 k2.lt
    replace b5 := b5.below hb8 b5.lt
    replace b7 := b7.below hb8 b7.lt
    replace x5 := x5.below hb8 (Nat.le_refl _)
    replace x6 := x6.below hb8 (Nat.le_refl _)
    obtain ⟨a8, cv8, rfl⟩ := o8.rd.shape
    have Hlt8 : Hid (∀ g, (Value.slice a8 z1.length cv8).ownBlock = some g → g < w8.heap.size) := hide (fun g hg => (o8.lt g hg).2)
    have c0 := b7.cell 0
    have c1 := b7.cell 1
    simp only [List.getElem?_cons_zero, List.getElem?_cons_succ] at c0 c1
    go_wp2_with fail
    refine (HI.out _ _ _ (Hgh.out.below hB8) x6.rd o8.rd).mono ?_
    rintro e wA9 ⟨vA9, rfl, oA9, hbA9⟩
    have x9 := oA9.ox
    obtain ⟨a9, c9, hv9⟩ := HL.out _ _ x9.rd
    subst hv9
    obtain ⟨w9, hw9⟩ : ∃ x, wA9.alloc (.cells #[.int .i64 a0, .slice a9 pn c9] 26) = x := ⟨_, rfl⟩
    have hbz9 : Below wA9.heap.size wA9 w9 := by rw [← hw9]; exact (Below.refl _ wA9).alloc (Nat.le_refl _) _
    have b9 : Blk w9 wA9.heap.size 26 [.int .i64 a0, .slice a9 pn c9] := by rw [← hw9]; exact Blk.new wA9 _ _
    replace x9 := x9.below hbz9 (Nat.le_refl _)
    have hba9 := hbA9.trans (hbz9.mono hbA9.size)
    have hzA9 := hbA9.size
    have hb9 : Below w8.heap.size w8 w9 := hba9
    clear oA9
    clear c0 c1
    have l7 := L7.out
    have hB9 : Below w.heap.size w w9 := hB8.trans (hb9.mono hB8.size)
    replace k2 := k2.below hb9 k2.lt
    replace b5 := b5.below hb9 b5.lt
    replace b7 := b7.below hb9 b7.lt
    replace x5 := x5.below hb9 (Nat.le_refl _)
    replace x6 := x6.below hb9 (Nat.le_refl _)
    replace o8 := o8.below hb9 (Nat.le_refl _)
    have c0 := b9.cell 0
    have c1 := b9.cell 1
    simp only [List.getElem?_cons_zero, List.getElem?_cons_succ] at c0 c1
    have d0 := b5.cell 0
    have d1 := b5.cell 1
    simp only [List.getElem?_cons_zero, List.getElem?_cons_succ] at d0 d1
    go_wp2_with fail
    refine (HEP.out _ _ _ x9.rd x5.rd).mono ?_
    rintro e w10 ⟨rfl, hb10⟩
    have hB10 : Below w.heap.size w w10 := hB9.trans (hb10.mono hB9.size)
    replace k2 := k2.below hb10 k2.lt
    replace b5 := b5.below hb10 b5.lt
    replace b7 := b7.below hb10 b7.lt
    replace b9 := b9.below hb10 b9.lt
    replace x5 := x5.below hb10 (Nat.le_refl _)
    replace x6 := x6.below hb10 (Nat.le_refl _)
    replace o8 := o8.below hb10 (Nat.le_refl _)
    replace x9 := x9.below hb10 (Nat.le_refl _)
    clear c0 c1 d0 d1
    have hd10 : Below w10.heap.size w10 w10.drew := (Below.refl _ w10).drew
    have hB10d : Below w.heap.size w w10.drew := hB10.drew
    replace k2 := k2.below hd10 k2.lt
    replace b5 := b5.below hd10 b5.lt
    replace b7 := b7.below hd10 b7.lt
    replace b9 := b9.below hd10 b9.lt
    replace x5 := x5.below hd10 (Nat.le_refl _)
    replace x6 := x6.below hd10 (Nat.le_refl _)
    replace o8 := o8.below hd10 (Nat.le_refl _)
    replace x9 := x9.below hd10 (Nat.le_refl _)
    have HSx : Hid (∀ W, Blk W w.heap.size 41 [.int .i64 a0, .slice av z0.length cv] → Blk W w6.heap.size 26 [.int .i64 a0, .slice a6 z0.length cv6] → (W.cell? ⟨w.heap.size, 0, none⟩ = some (.int .i64 a0) ∧ W.cell? ⟨w.heap.size, 1, none⟩ = some (.slice av z0.length cv) ∧ W.cell? ⟨w6.heap.size, 0, none⟩ = some (.int .i64 a0) ∧ W.cell? ⟨w6.heap.size, 1, none⟩ = some (.slice a6 z0.length cv6))) := hide (fun W h1 h2 => ⟨h1.cell 0, h1.cell 1, h2.cell 0, h2.cell 1⟩)
    have hS10 := HSx.out _ k2 b7
    have Kk := hide k2
    have Kb := hide b7
    have Kx := hide x6
    clear k2 b7 x6
    go_wp2
    go_region_held_law (fun w' => w'.cell? ⟨w.heap.size, 0, none⟩ = some (.int .i64 a0) ∧ w'.cell? ⟨w.heap.size, 1, none⟩ = some (.slice av z0.length cv) ∧ w'.cell? ⟨w6.heap.size, 0, none⟩ = some (.int .i64 a0) ∧ w'.cell? ⟨w6.heap.size, 1, none⟩ = some (.slice a6 z0.length cv6)) (first | with_reducible exact hS10 | with_reducible exact hS11 | with_reducible exact hS12) ((first
      | (go_at_call 18; refine (HE.out _ _ _ (Kx.out.below hb11 (Nat.le_refl _)).rd o11.rd).mono ?_; rintro e w12 ⟨rfl, hb12⟩; have hS12 := HSx.out _ ((Kk.out.below hb11 Kk.out.lt).below hb12 (Kk.out.below hb11 Kk.out.lt).lt) ((Kb.out.below hb11 Kb.out.lt).below hb12 (Kb.out.below hb11 Kb.out.lt).lt))
      | (go_at_call 16; refine (HT.out _ _ (Hr.out.below hB10d (Nat.le_refl _))).mono ?_; rintro e w11 ⟨v11, rfl, o11, hb11⟩; have hsh := o11.rd.shape; obtain ⟨a11, cv11, hv11⟩ := hsh; subst hv11; have hS11 := HSx.out _ (Kk.out.below hb11 Kk.out.lt) (Kb.out.below hb11 Kb.out.lt))))
    have k2 := Kk.out
    have b7 := Kb.out
    have x6 := Kx.out
    have hB11 : Below w.heap.size w w11 := hB10d.trans (hb11.mono hB10.size)
    replace k2 := k2.below hb11 k2.lt
    replace b5 := b5.below hb11 b5.lt
    replace b7 := b7.below hb11 b7.lt
    replace b9 := b9.below hb11 b9.lt
    replace x5 := x5.below hb11 (Nat.le_refl _)
    replace x6 := x6.below hb11 (Nat.le_refl _)
    replace o8 := o8.below hb11 (Nat.le_refl _)
    replace x9 := x9.below hb11 (Nat.le_refl _)
    have hB12 : Below w.heap.size w w12 := hB11.trans (hb12.mono hB11.size)
    replace k2 := k2.below hb12 k2.lt
    replace b5 := b5.below hb12 b5.lt
    replace b7 := b7.below hb12 b7.lt
    replace b9 := b9.below hb12 b9.lt
    replace x5 := x5.below hb12 (Nat.le_refl _)
    replace x6 := x6.below hb12 (Nat.le_refl _)
    replace o8 := o8.below hb12 (Nat.le_refl _)
    replace x9 := x9.below hb12 (Nat.le_refl _)
    clear hS10 hS11 hS12 o11 HSx Kk Kb Kx
    go_wp2_with fail
    refine (HX.out _ _ (Hrt.out.below hB12 (Nat.le_refl _))).mono ?_
    rintro e w12a ⟨v12a, rfl, o12a, hb12a⟩
    have hB12a : Below w.heap.size w w12a := hB12.trans (hb12a.mono hB12.size)
    replace k2 := k2.below hb12a k2.lt
    replace b5 := b5.below hb12a b5.lt
    replace b7 := b7.below hb12a b7.lt
    replace b9 := b9.below hb12a b9.lt
    replace x5 := x5.below hb12a (Nat.le_refl _)
    replace x6 := x6.below hb12a (Nat.le_refl _)
    replace o8 := o8.below hb12a (Nat.le_refl _)
    replace x9 := x9.below hb12a (Nat.le_refl _)
    obtain ⟨a12a, cv12a, rfl⟩ := o12a.rd.shape
    go_wp2_with fail
    refine (HEX.out _ _ _ o8.rd o12a.rd).mono ?_
    rintro e w12b ⟨rfl, hb12b⟩
    have hB12b : Below w.heap.size w w12b := hB12a.trans (hb12b.mono hB12a.size)
    replace k2 := k2.below hb12b k2.lt
    replace b5 := b5.below hb12b b5.lt
    replace b7 := b7.below hb12b b7.lt
    replace b9 := b9.below hb12b b9.lt
    replace x5 := x5.below hb12b (Nat.le_refl _)
    replace x6 := x6.below hb12b (Nat.le_refl _)
    replace o8 := o8.below hb12b (Nat.le_refl _)
    replace x9 := x9.below hb12b (Nat.le_refl _)
    clear o12a
    have c0 := b7.cell 0
    have c1 := b7.cell 1
    simp only [List.getElem?_cons_zero, List.getElem?_cons_succ] at c0 c1
    have hz2 := hB2.size
    have hz5 := hB5.size
    have hz6 := hb6.size
    have hz8 := hb8.size
    have hk2 : w.heap.size < w2.heap.size := by have := hb2.size; have := hb2a.size; omega
    have hz25 := hb5.size
    go_wp2_with fail
    refine (HM.out _ _ _ _ x6).mono ?_
    rintro e w13 ⟨rfl, -, ht13⟩
    have hB13 : Below w.heap.size w w13 := hB12b.trans (ht13.below (by omega) hB12b.size)
    clear c0 c1 x6
    replace k2 := k2.btw ht13 (.inl (by omega))
    replace b5 := b5.btw ht13 (.inl (by omega))
    replace b9 := b9.btw ht13 (.inr (by omega))
    replace x5 := x5.btw ht13 (.inl (by omega))
    replace x9 := x9.btw ht13 (.inr (by omega))
    replace o8 := o8.btw ht13 (.inl (by omega))
    clear b7
    go_wp2_with fail
    refine (HMX.out _ w7.heap.size w8.heap.size _ o8 Hlt8.out).mono ?_
    rintro e w13a ⟨rfl, ht13a⟩
    have hB13a : Below w.heap.size w w13a := hB13.trans (ht13a.below (by omega) hB13.size)
    clear o8
    replace k2 := k2.btw ht13a (.inl (by omega))
    replace b5 := b5.btw ht13a (.inl (by omega))
    replace b9 := b9.btw ht13a (.inr (by omega))
    replace x5 := x5.btw ht13a (.inl (by omega))
    replace x9 := x9.btw ht13a (.inr (by omega))
    have c0 := b9.cell 0
    have c1 := b9.cell 1
    simp only [List.getElem?_cons_zero, List.getElem?_cons_succ] at c0 c1
    have d0 := b5.cell 0
    have d1 := b5.cell 1
    simp only [List.getElem?_cons_zero, List.getElem?_cons_succ] at d0 d1
    go_wp2_with fail
    refine (HEP.out _ _ _ x9.rd x5.rd).mono ?_
    rintro e w14 ⟨rfl, hb14⟩
    have hB14 : Below w.heap.size w w14 := hB13a.trans (hb14.mono hB13a.size)
    replace k2 := k2.below hb14 k2.lt
    replace b5 := b5.below hb14 b5.lt
    replace b9 := b9.below hb14 b9.lt
    replace x5 := x5.below hb14 (Nat.le_refl _)
    replace x9 := x9.below hb14 (Nat.le_refl _)
    clear c0 c1 d0 d1
    have c0 := b9.cell 0
    have c1 := b9.cell 1
    simp only [List.getElem?_cons_zero, List.getElem?_cons_succ] at c0 c1
    go_wp2_with fail
    refine (HMP.out _ _ _ _ x9).mono ?_
    rintro e w15 ⟨rfl, y9, ht15⟩
    have hB15 : Below w.heap.size w w15 := hB14.trans (ht15.below (by omega) hB14.size)
    clear c0 c1 x9
    replace k2 := k2.btw ht15 (.inl (by omega))
    replace b5 := b5.btw ht15 (.inl (by omega))
    replace b9 := b9.btw ht15 (.inr (Nat.le_refl _))
    replace x5 := x5.btw ht15 (.inl (by omega))
    have c0 := b9.cell 0
    have c1 := b9.cell 1
    simp only [List.getElem?_cons_zero, List.getElem?_cons_succ] at c0 c1
    go_wp2_with fail
    refine (HH.out _ _ y9.rd).mono ?_
    rintro e w16 ⟨rfl, hb16⟩
    have hB16 : Below w.heap.size w w16 := hB15.trans (hb16.mono hB15.size)
    replace k2 := k2.below hb16 k2.lt
    replace b5 := b5.below hb16 b5.lt
    replace b9 := b9.below hb16 b9.lt
    replace x5 := x5.below hb16 (Nat.le_refl _)
    replace y9 := y9.below hb16 (Nat.le_refl _)
    clear c0 c1
    have c0 := k2.cell 0
    have c1 := k2.cell 1
    simp only [List.getElem?_cons_zero, List.getElem?_cons_succ] at c0 c1
    go_wp2_with fail
    refine (HT.out _ _ (Hr.out.below hB16 (Nat.le_refl _))).mono ?_
    rintro e wT19 ⟨vT19, rfl, oT19, hbT19⟩
    have hBT19 : Below w.heap.size w wT19 := hB16.trans (hbT19.mono hB16.size)
    obtain ⟨aT19, cT19, rfl⟩ := oT19.rd.shape
    clear c0 c1
    go_wp2_with fail
    refine (HX.out _ _ (Hrt.out.below hBT19 (Nat.le_refl _))).mono ?_
    rintro e wX19 ⟨vX19, rfl, oX19, hbX19⟩
    have hBX19 : Below w.heap.size w wX19 := hBT19.trans (hbX19.mono hBT19.size)
    have oT19 := oT19.below hbX19 (Nat.le_refl _)
    obtain ⟨aX19, cX19, rfl⟩ := oX19.rd.shape
    have hbWX19 : Below w16.heap.size w16 wX19 := hbT19.trans (hbX19.mono hbT19.size)
    go_wp2_with fail
    refine (HI.out _ _ _ (Hgh.out.below hBX19) oT19.rd oX19.rd).mono ?_
    rintro e wA19 ⟨vA19, rfl, oA19, hbA19⟩
    have x19 := oA19.ox
    obtain ⟨a19, c19, hv19⟩ := HL.out _ _ x19.rd
    subst hv19
    obtain ⟨w19, hw19⟩ : ∃ x, wA19.alloc (.cells #[.int .i64 a0, .slice a19 pn c19] 26) = x := ⟨_, rfl⟩
    have hbz19 : Below wA19.heap.size wA19 w19 := by rw [← hw19]; exact (Below.refl _ wA19).alloc (Nat.le_refl _) _
    have b19 : Blk w19 wA19.heap.size 26 [.int .i64 a0, .slice a19 pn c19] := by rw [← hw19]; exact Blk.new wA19 _ _
    replace x19 := x19.below hbz19 (Nat.le_refl _)
    have hba19 := hbA19.trans (hbz19.mono hbA19.size)
    have hzA19 := hbA19.size
    have hb19 : Below w16.heap.size w16 w19 := hbWX19.trans (hba19.mono hbWX19.size)
    clear oA19
    clear oT19 oX19
    have hB19 : Below w.heap.size w w19 := hB16.trans (hb19.mono hB16.size)
    replace b5 := b5.below hb19 b5.lt
    replace b9 := b9.below hb19 b9.lt
    replace x5 := x5.below hb19 (Nat.le_refl _)
    replace y9 := y9.below hb19 (Nat.le_refl _)
    have c0 := b19.cell 0
    have c1 := b19.cell 1
    simp only [List.getElem?_cons_zero, List.getElem?_cons_succ] at c0 c1
    have d0 := b5.cell 0
    have d1 := b5.cell 1
    simp only [List.getElem?_cons_zero, List.getElem?_cons_succ] at d0 d1
    go_wp2_with fail
    refine (HEP.out _ _ _ x19.rd x5.rd).mono ?_
    rintro e w20 ⟨rfl, hb20⟩
    have hB20 : Below w.heap.size w w20 := hB19.trans (hb20.mono hB19.size)
    replace b5 := b5.below hb20 b5.lt
    replace b9 := b9.below hb20 b9.lt
    replace x5 := x5.below hb20 (Nat.le_refl _)
    replace y9 := y9.below hb20 (Nat.le_refl _)
    clear c0 c1 d0 d1
    have c0 := b9.cell 0
    have c1 := b9.cell 1
    simp only [List.getElem?_cons_zero, List.getElem?_cons_succ] at c0 c1
    go_wp2_with fail
    refine (HH.out _ _ y9.rd).mono ?_
    rintro e w21 ⟨rfl, hb21⟩
    have hB21 : Below w.heap.size w w21 := hB20.trans (hb21.mono hB20.size)
    go_wp2
    go_ret
    exact ⟨rfl, hB21⟩

theorem fnExactApplyAll_met (os : Os) (args : Array Value) : laidMetH Tryz.prog Rows.fnExactApplyAllRow.laid ((laidOn (World.holding Tryz.prog os ⟨#[], #[], []⟩)).forCall (fun _ _ => 0) ⟨#[], args, []⟩).memory :=
  laidMetH_of_parts (laidMet_nil _ _) (by kernel_rfl)
theorem fnExactApplyAll_gh {W : World} (h : laidMetH Tryz.prog Rows.fnExactApplyAllRow.laid W) : Gh W := by
  have h' : laidMet Tryz.prog [] W ∧ handlesMet Tryz.prog Rows.fnExactApplyAllRow.laid W := h
  exact gh_of_handles h'.2

set_option maxRecDepth 100000 in
theorem fnExactApplyAll_lifted (os : Os) (started : os.Started) (H : Type) (enc : TypeId × Value → H) :
    ReturnsInHanded {} Tryz.checked os 5 .any (fun w args => (Rows.fnExactApplyAllSpec.pre enc Tryz.prog Tryz.f5 [] false w args ∧ laidMetH Tryz.prog Rows.fnExactApplyAllRow.laid w) ∧ sizedMet enc Tryz.prog Tryz.f5 (OpenSpec.ofChange Rows.fnExactApplyAllSpec) false w args)
      (Rows.fnExactApplyAllSpec.post enc Tryz.prog Tryz.f5 false true false false) := by
  refine returnsInHanded_of_change_and (C := Tryz.checked) (X := fun w _ => laidMetH Tryz.prog Rows.fnExactApplyAllRow.laid w) (fun _ _ _ hh h => h.of_heap hh) fnExactApplyAll_own started (by kernel_rfl) Tryz.func5
    (ChangeSpec.witness_at (enc := enc) (C := Tryz.checked) (os := os) (X := fun w _ => laidMetH Tryz.prog Rows.fnExactApplyAllRow.laid w) false (laidOn (World.holding Tryz.prog os ⟨#[], #[], []⟩)) #[.agg #[.int .i64 0, .slice none 0 0], .slice none 0 0] 8 rfl (by kernel_rfl) (by kernel_rfl) (by kernel_rfl) (by kernel_rfl) (by kernel_rfl) (fnExactApplyAll_met os _)) ?_
  intro W base args ds gs before hval0 hW _ _ hL _
  have hval : ∀ (j : Nat) t v, Tryz.f5.params[j]? = some t → args[j]? = some v → Value.okWide Tryz.prog W .any base t v := hval0
  have hW' := hW
  obtain ⟨p, q, hA0, hV0, rfl, hfz, hnd⟩ := hW
  have hV : DataW.TrodVars enc Tryz.prog W (fun _ => true) [] gs q := hV0
  obtain ⟨rfl, rfl⟩ : gs = [] ∧ q = [] := by
    cases gs with
    | nil => exact ⟨rfl, hV⟩
    | cons g r => exact absurd hV (by intro h; cases h)
  have hA : DataW.TrodAll enc Tryz.prog W 0 (fun _ => true) true Tryz.f5.params.toList args.toList ds p := hA0
  rw [Tryz.params5] at hA hval
  obtain ⟨v0, vs0, d0, ds0, p0, q0, hargs, rfl, rfl, h0, r0⟩ := trodAll_cons hA
  obtain ⟨v1, vs1, d1, ds1, p1, q1, rfl, rfl, rfl, h1, r1⟩ := trodAll_cons r0
  obtain ⟨rfl, rfl, rfl⟩ := trodAll_nil r1
  obtain rfl : args = #[v0, v1] := by cases args; simp_all
  have k0 := h0
  have lt0 : ∀ x ∈ p0, x.block < W.heap.size := by obtain ⟨m, hm⟩ := k0; exact DataW.trod_lt m _ _ _ hm
  obtain ⟨a0, y0, z0, rfl, w0⟩ : ∃ (e : Int) (v : Value) (l : List Ac), v0 = lgV e v ∧ RdA W v l ∧ l.length ≤ maxLen ∧ ∀ q ∈ l, q.1.size ≤ maxLen ∧ q.2.2.2.2.length ≤ maxLen := by
    obtain ⟨cs, rfl, hsz⟩ := okWide_struct Tryz.underlying41 (hval 0 41 _ rfl rfl)
    obtain ⟨fuel, hf⟩ := h0
    obtain ⟨e, v, l, q, r⟩ := open_ledger (by simpa [Value.cells] using hf)
    exact ⟨e, v, l, by cases cs; simp at q; subst q; rfl, r⟩
  have k1 := h1
  have lt1 : ∀ x ∈ p1, x.block < W.heap.size := by obtain ⟨m, hm⟩ := k1; exact DataW.trod_lt m _ _ _ hm
  obtain ⟨a1, len1, cap1, rfl⟩ := okWide_slice Tryz.underlying50 (hval 1 50 v1 rfl rfl)
  obtain ⟨z1, w1⟩ : ∃ l : List Tx5, len1 = l.length ∧ RdT W (.slice a1 len1 cap1) l ∧ l.length ≤ maxLen ∧ ∀ q ∈ l, q.2.1.size ≤ maxLen ∧ q.2.2.1.size ≤ maxLen := by
    obtain ⟨fuel, hf⟩ := h1
    exact open_txS (by simpa [Value.cells] using hf)
  clear hA0 hval0
  refine (fnExactApplyAll_walk a0 y0 z0 a1 len1 cap1 z1 W (fnExactApplyAll_gh hL) w0 w1).mono fun e W' ⟨he, bel⟩ => ?_
  subst he
  exact ⟨_, rfl, _, _, _, [], _, [], hW', trodAll_mk1 (shut_bool Tryz.underlying4 _), (trodAll_cons_mk (Below.trod fnExactApplyAll_laidOut (by kernel_rfl) (of_decide_eq_true (by kernel_rfl)) k0 bel lt0) (trodAll_cons_mk (Below.trod fnExactApplyAll_laidOut (by kernel_rfl) (of_decide_eq_true (by kernel_rfl)) k1 bel lt1) trodAll_mk0)), rfl, bel.frame _, fun h => by cases h⟩

theorem fnExactApplyAll_holds : Rows.FnExactApplyAllSaid :=
  OpenClaim.holds_of_wide 5 Tryz.f5 rfl rfl rfl rfl rfl rfl rfl ⟨rfl, rfl, rfl, rfl, rfl⟩ rfl rfl rfl rfl rfl (by kernel_rfl) Tryz.func5 (by kernel_rfl)
    (of_decide_eq_true (by kernel_rfl)) (by unfold Func.isWrapper; first | (rw [if_pos (by decide +kernel)]; kernel_rfl) | (rw [if_neg (by decide +kernel)]; exact ⟨rfl, rfl⟩))
    (fun os started H enc _ => fnExactApplyAll_lifted os started H enc)

/-- The card: the variable is tied to the program's text by the given tie. -/
theorem fnExactApplyAll_card : Rows.FnExactApplyAllCardSaid :=
  Claim7.holds_tied_plain_at .later [] [.handle] true Rows.fnExactApplyAllCard.stood.harness true
    fnExactApplyAll_holds (fun _ h => by cases h) (by kernel_rfl) (fun _ h => by cases h) fnExactApplyAll_row_tie rfl ⟨rfl, rfl⟩ (by kernel_rfl) rfl
    (fun f fn hf hfn => by
      obtain rfl : f = 5 := Option.some.inj ((show Tryz.prog.funcNamed Rows.fnExactApplyAllRow.func = some 5 by kernel_rfl).symm.trans hf) |>.symm
      obtain rfl : fn = Tryz.f5 := (Option.some.inj (Tryz.func5.symm.trans hfn)).symm
      exact ⟨by kernel_rfl, fun j t ht => by
        rw [Tryz.params5] at ht
        have hm : t ∈ [41, 50] := by simpa using Array.mem_of_getElem? ht
        have hall : ([41, 50].all fun u => !Tryz.prog.wantsStandIn u) = true := by kernel_rfl
        exact (show Tryz.prog.wantsStandIn t = false by simpa using List.all_eq_true.1 hall t hm)⟩)
    (by kernel_rfl)

end Go.Proofs.YtocaednkhcjkcaaGreatDoor
