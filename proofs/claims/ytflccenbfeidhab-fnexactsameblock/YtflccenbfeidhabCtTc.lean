/- The model's certificates of leavings: what is right. -/
import Derived.Test.YtflccenbfeidhabCtSpec
import Derived.Lib.QuietBelow
import Derived.BigQuiet
namespace Go.Proofs.Ytflccenbfeidhab
open Go.RowKit Go.Sort
set_option linter.unusedVariables false

def noneB (r : Int) (ws : List ByteArray) (hs : List Int) : Bool := decide (r = 0) && (decide (ws.length = 0) && decide (hs.length = 0))
def hisB (r : Int) (hs : List Int) : Bool := hs.all (fun h => inB h 0 (r - 1))
/-- Whether a certificate of leavings is right. -/
def tcB (l : List Vl) (r : Int) (ws : List ByteArray) (hs : List Int) : Bool := noneB r ws hs || (inB r 1 10000 && (allV l ws && (quoB l ws && (decide (hs.length = ws.length) && hisB r hs))))
theorem his_no (r : Int) (hs : List Int) (k : Nat) (h : k < hs.length) (hk : inB hs[k] 0 (r - 1) = false) : hisB r hs = false := by
  unfold hisB
  rw [List.all_eq_false]
  exact ⟨hs[k], List.getElem_mem _, by simp [hk]⟩
theorem his_yes (r : Int) (hs : List Int) (h : ∀ j (hj : j < hs.length), inB hs[j] 0 (r - 1) = true) : hisB r hs = true := by
  unfold hisB
  rw [List.all_eq_true]
  intro x hx
  obtain ⟨j, hj, rfl⟩ := List.mem_iff_getElem.1 hx
  exact h j hj
theorem RdI.at {w : World} {a : Option Addr} {cap k : Nat} {l : List Int} (h : RdI w (.slice a l.length cap) l) (hk : k < l.length) :
    ∃ b off, a = some ⟨b, off, none⟩ ∧ l.length ≤ cap ∧ cap ≤ maxLen ∧ b < w.heap.size ∧ w.cell? ⟨b, off + k, none⟩ = some (.int .i64 l[k]) := by
  rcases h with ⟨a', cap', e, rfl, -⟩ | ⟨b, off, cap', h0, e, h1, h2, h3, h4⟩
  · simp at hk
  · simp only [Value.slice.injEq] at e
    obtain ⟨rfl, -, rfl⟩ := e
    exact ⟨b, off, rfl, h1, h2, h3, h4 k hk⟩
theorem sameC_regrown {P : Program} {f : FuncId} {args : Array Value} {w : World} {d : Nat} {os : Array Obj} {v : Value}
    (h : Calls P f args (grow (redrawn w d) os) fun e w' => e = .returned v ∧ w' = grow (redrawn w d) os) : Calls P f args (grow (redrawn w d) os) fun e w'' => e = .returned v ∧ ∃ p : Regrown, w'' = grow (redrawn w p.d) p.os :=
  h.mono fun _ _ ⟨he, hw⟩ => ⟨he, ⟨⟨d, os⟩, hw⟩⟩
end Go.Proofs.Ytflccenbfeidhab
