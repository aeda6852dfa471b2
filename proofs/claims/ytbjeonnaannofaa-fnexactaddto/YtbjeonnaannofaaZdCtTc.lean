/- The model's certificates: what is right. The model's certificates of leavings: what is right. -/
import Derived.Test.YtbjeonnaannofaaZdCtVal
import Derived.Test.YtbjeonnaannofaaZdCtMem
import Derived.Test.YtbjeonnaannofaaZdIn
import Derived.Test.YtbjeonnaannofaaZdNamesOk
import Derived.Lib.QuietBelow
import Derived.BigQuiet
namespace Go.Proofs.Ytbjeonnaannofaa
open Go.RowKit
set_option linter.unusedVariables false

/-- All that is weighed is not great. -/
def ModV (l : List Vl) : Prop := (0 ≤ totalV l ∧ totalV l ≤ 1000000000) ∧ ∀ ns, 0 ≤ weightV l ns ∧ weightV l ns ≤ 1000000000
/-- A certificate's value: its round, its block, its names being vw. -/
def qcV (r b : Int) (vw : Value) : Value := .agg #[.int .i64 r, .int .i64 b, vw]
def rootB (r b : Int) (ns : List ByteArray) : Bool := decide (r = 0) && (decide (b = -1) && decide (ns.length = 0))
def allV (l : List Vl) (ns : List ByteArray) : Bool := ns.all (fun s => hasN (l.map (·.1)) s) && nmsB ns
def quoB (l : List Vl) (ns : List ByteArray) : Bool := decide (2 * totalV l < 3 * weightV l ns)
/-- Whether a certificate is right. -/
def qcB (l : List Vl) (r b : Int) (ns : List ByteArray) : Bool := rootB r b ns || (inB r 1 10000 && (inB b 0 100000 && (allV l ns && quoB l ns)))
set_option maxRecDepth 20000 in
set_option maxHeartbeats 1000000 in
theorem specL8Root_any (r b : Int) (vw : Value) (ws : List ByteArray) (w : World) (hrw : RdS w vw ws) (hlw : ws.length ≤ 4000000) :
    Calls Try.prog 55 #[qcV r b vw] w fun e w' => e = .returned (.bool (rootB r b ws)) ∧ Below w.heap.size w w' := by
  obtain ⟨a, c, rfl⟩ := hrw.shape
  clear hrw
  simp only [qcV]
  have HB := hide ((Below.refl _ w).alloc (Nat.le_refl _) (.cells #[.int .i64 r, .int .i64 b, .slice a ws.length c] 31))
  by_cases h1 : r = 0
  · by_cases h2 : b = -1
    · by_cases h3 : ws.length = 0
      · have Hf : Hid (rootB r b ws = true) := hide (by unfold rootB; rw [decide_eq_true h1, decide_eq_true h2, decide_eq_true h3]; rfl)
        have h3i : ((ws.length : Int) == 0) = true := by rw [beq_iff_eq]; omega
        subst h1 h2
        generalize rootB 0 (-1) ws = X at Hf ⊢
        clear h3
        go_enter Try.func55, Try.ntmps55
        go_wp2
        go_ret
        exact ⟨ret_bool Hf.out.symm, HB.out⟩
      · have Hf : Hid (rootB r b ws = false) := hide (by unfold rootB; rw [decide_eq_false h3, Bool.and_false, Bool.and_false])
        have h3i : ((ws.length : Int) == 0) = false := by rw [beq_eq_false_iff_ne]; omega
        subst h1 h2
        generalize rootB 0 (-1) ws = X at Hf ⊢
        go_enter Try.func55, Try.ntmps55
        go_wp2
        go_ret
        exact ⟨ret_bool Hf.out.symm, HB.out⟩
    · have Hf : Hid (rootB r b ws = false) := hide (by unfold rootB; rw [decide_eq_false h2, Bool.false_and, Bool.and_false])
      have h2i : (b == -1) = false := by rw [beq_eq_false_iff_ne]; exact h2
      subst h1
      generalize rootB 0 b ws = X at Hf ⊢
      clear h2
      go_enter Try.func55, Try.ntmps55
      go_wp2
      go_ret
      exact ⟨ret_bool Hf.out.symm, HB.out⟩
  · have Hf : Hid (rootB r b ws = false) := hide (by unfold rootB; rw [decide_eq_false h1, Bool.false_and])
    have h1i : (r == 0) = false := by rw [beq_eq_false_iff_ne]; exact h1
    generalize rootB r b ws = X at Hf ⊢
    clear h1
    go_enter Try.func55, Try.ntmps55
    go_wp2
    go_ret
    exact ⟨ret_bool Hf.out.symm, HB.out⟩
end Go.Proofs.Ytbjeonnaannofaa

namespace Go.Proofs.Ytbjeonnaannofaa
open Go.RowKit Go.Sort
set_option linter.unusedVariables false

def noneB (r : Int) (ws : List ByteArray) (hs : List Int) : Bool := decide (r = 0) && (decide (ws.length = 0) && decide (hs.length = 0))
def hisB (r : Int) (hs : List Int) : Bool := hs.all (fun h => inB h 0 (r - 1))
/-- Whether a certificate of leavings is right. -/
def tcB (l : List Vl) (r : Int) (ws : List ByteArray) (hs : List Int) : Bool := noneB r ws hs || (inB r 1 10000 && (allV l ws && (quoB l ws && (decide (hs.length = ws.length) && hisB r hs))))
set_option maxRecDepth 20000 in
set_option maxHeartbeats 1000000 in
theorem specL8None_any (r : Int) (vw vh : Value) (ws : List ByteArray) (hs : List Int) (w : World) (hrw : RdS w vw ws) (hrh : RdI w vh hs) (hlw : ws.length ≤ 4000000) (hlh : hs.length ≤ 4000000) :
    Calls Try.prog 143 #[tcV r vw vh] w fun e w' => e = .returned (.bool (noneB r ws hs)) ∧ Below w.heap.size w w' := by
  obtain ⟨a, c, rfl⟩ := hrw.shape
  obtain ⟨a2, c2, rfl⟩ := hrh.shape
  clear hrw hrh
  simp only [tcV]
  have HB := hide ((Below.refl _ w).alloc (Nat.le_refl _) (.cells #[.int .i64 r, .slice a ws.length c, .slice a2 hs.length c2] 33))
  by_cases h1 : r = 0
  · by_cases h2 : ws.length = 0
    · by_cases h3 : hs.length = 0
      · have Hf : Hid (noneB r ws hs = true) := hide (by unfold noneB; rw [decide_eq_true h1, decide_eq_true h2, decide_eq_true h3]; rfl)
        have h2i : ((ws.length : Int) == 0) = true := by rw [beq_iff_eq]; omega
        have h3i : ((hs.length : Int) == 0) = true := by rw [beq_iff_eq]; omega
        subst h1
        generalize noneB 0 ws hs = X at Hf ⊢
        clear h2 h3
        go_enter Try.func143, Try.ntmps143
        go_wp2
        go_ret
        exact ⟨ret_bool Hf.out.symm, HB.out⟩
      · have Hf : Hid (noneB r ws hs = false) := hide (by unfold noneB; rw [decide_eq_false h3, Bool.and_false, Bool.and_false])
        have h2i : ((ws.length : Int) == 0) = true := by rw [beq_iff_eq]; omega
        have h3i : ((hs.length : Int) == 0) = false := by rw [beq_eq_false_iff_ne]; omega
        subst h1
        generalize noneB 0 ws hs = X at Hf ⊢
        clear h2 h3
        go_enter Try.func143, Try.ntmps143
        go_wp2
        go_ret
        exact ⟨ret_bool Hf.out.symm, HB.out⟩
    · have Hf : Hid (noneB r ws hs = false) := hide (by unfold noneB; rw [decide_eq_false h2, Bool.false_and, Bool.and_false])
      have h2i : ((ws.length : Int) == 0) = false := by rw [beq_eq_false_iff_ne]; omega
      subst h1
      generalize noneB 0 ws hs = X at Hf ⊢
      clear h2
      go_enter Try.func143, Try.ntmps143
      go_wp2
      go_ret
      exact ⟨ret_bool Hf.out.symm, HB.out⟩
  · have Hf : Hid (noneB r ws hs = false) := hide (by unfold noneB; rw [decide_eq_false h1, Bool.false_and])
    have h1i : (r == 0) = false := by rw [beq_eq_false_iff_ne]; exact h1
    generalize noneB r ws hs = X at Hf ⊢
    clear h1
    go_enter Try.func143, Try.ntmps143
    go_wp2
    go_ret
    exact ⟨ret_bool Hf.out.symm, HB.out⟩
theorem his_no (r : Int) (hs : List Int) (k : Nat) (h : k < hs.length) (hk : inB hs[k] 0 (r - 1) = false) : hisB r hs = false := by
  unfold hisB
  rw [List.all_eq_false]
  exact ⟨hs[k], List.getElem_mem _, by simp [hk]⟩
theorem his_yes (r : Int) (hs : List Int) (h : ∀ j (hj : j < hs.length), inB hs[j] 0 (r - 1) = true) : hisB r hs = true := by
  unfold hisB
  rw [List.all_eq_true]
  intro x hx
  obtain ⟨j, hj, rfl⟩ := List.mem_iff_getElem.1 hx
  exact h j hj
theorem RdI.at {w : World} {a : Option Addr} {cap k : Nat} {l : List Int} (h : RdI w (.slice a l.length cap) l) (hk : k < l.length) :
    ∃ b off, a = some ⟨b, off, none⟩ ∧ l.length ≤ cap ∧ cap ≤ maxLen ∧ b < w.heap.size ∧ w.cell? ⟨b, off + k, none⟩ = some (.int .i64 l[k]) := by
  rcases h with ⟨a', cap', e, rfl, -⟩ | ⟨b, off, cap', h0, e, h1, h2, h3, h4⟩
  · simp at hk
  · simp only [Value.slice.injEq] at e
    obtain ⟨rfl, -, rfl⟩ := e
    exact ⟨b, off, rfl, h1, h2, h3, h4 k hk⟩
theorem sameC_regrown {P : Program} {f : FuncId} {args : Array Value} {w : World} {d : Nat} {os : Array Obj} {v : Value}
    (h : Calls P f args (grow (redrawn w d) os) fun e w' => e = .returned v ∧ w' = grow (redrawn w d) os) : Calls P f args (grow (redrawn w d) os) fun e w'' => e = .returned v ∧ ∃ p : Regrown, w'' = grow (redrawn w p.d) p.os :=
  h.mono fun _ _ ⟨he, hw⟩ => ⟨he, ⟨⟨d, os⟩, hw⟩⟩
end Go.Proofs.Ytbjeonnaannofaa
