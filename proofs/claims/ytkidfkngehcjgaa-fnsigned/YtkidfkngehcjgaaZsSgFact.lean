/- Of a drawn word both sides count the same, and what they count may be a key (plain). -/
import Derived.Test.YtkidfkngehcjgaaZsDrawMg
import Derived.Test.YtkidfkngehcjgaaZsSgSgn
namespace Go.Proofs.Ytkidfkngehcjgaa
open Go.RowKit
set_option linter.unusedVariables false

theorem svB_is {m : Mg} (h : FcM m) : svB m = true ↔ m.vw ≠ { data := #[] } := by
  unfold svB z3S
  rcases h.v with ⟨h1, h2, h3, h4⟩ | ⟨h1, -⟩
  · simp [h1, h2, h3, h4]
  · simp [h1]
theorem sgB_is {m : Mg} (h : FcM m) : sgB m = true ↔ m.gw ≠ { data := #[] } := by
  unfold sgB z3S
  rcases h.g with ⟨h1, h2, h3, h4⟩ | ⟨h1, -⟩
  · simp [h1, h2, h3, h4]
  · simp [h1]
theorem siS_same {m : Mg} (h : FcM m) : siS m = sgS m := by
  unfold siS sgS hdS
  have e1 : (if svB m = true then [(1, m.ep, m.vr, m.vb, m.vw)] else ([] : List Sg)) = (if m.vw = { data := #[] } then [] else [(1, m.ep, m.vr, m.vb, m.vw)]) := by
    by_cases hv : m.vw = { data := #[] }
    · rw [if_pos hv, if_neg (fun k => (svB_is h).1 k hv)]
    · rw [if_neg hv, if_pos ((svB_is h).2 hv)]
  have e2 : (if sgB m = true then [(2, m.ep, m.gr, m.gh, m.gw)] else ([] : List Sg)) = (if m.gw = { data := #[] } then [] else [(2, m.ep, m.gr, m.gh, m.gw)]) := by
    by_cases hv : m.gw = { data := #[] }
    · rw [if_pos hv, if_neg (fun k => (sgB_is h).1 k hv)]
    · rw [if_neg hv, if_pos ((sgB_is h).2 hv)]
  rw [e1, e2]
  simp only [List.append_assoc]
theorem wfq {ep r k : Int} {ws : List ByteArray} (he : (Lit.int .i64 ep).wf = true) (hr : (Lit.int .i64 r).wf = true) (hk : (Lit.int .i64 k).wf = true) (hw : ∀ s ∈ ws, s.size ≤ maxLen) : ∀ s ∈ qcS ep r k ws, WfS s := by
  intro s hs
  obtain ⟨n, hn, rfl⟩ := List.mem_map.1 hs
  exact ⟨wfS_mk (by simp) (by simp), he, hr, hk, hw n hn⟩
theorem wft {ep r : Int} {ws : List ByteArray} {hs : List Int} (he : (Lit.int .i64 ep).wf = true) (hr : (Lit.int .i64 r).wf = true) (hh : ∀ x ∈ hs, (Lit.int .i64 x).wf = true) (hw : ∀ s ∈ ws, s.size ≤ maxLen) : ∀ s ∈ tcS ep r ws hs, WfS s := by
  intro s hs
  obtain ⟨p, hp, rfl⟩ := List.mem_map.1 hs
  have := List.of_mem_zip hp
  exact ⟨wfS_mk (by simp) (by simp), he, hr, hh _ this.2, hw _ this.1⟩
theorem sgS_wf {m : Mg} (h : FcM m) : ∀ s ∈ sgS m, WfS s := by
  intro s hs
  unfold sgS hdS at hs
  simp only [List.mem_append] at hs
  rcases hs with ((h1 | h1) | (h1 | h1)) | h1
  · rcases h.v with ⟨-, -, -, h4⟩ | ⟨h4, h5, h6, h7⟩
    · rw [if_pos h4] at h1; simp at h1
    · rw [if_neg h4] at h1
      rw [List.mem_singleton.1 h1]
      exact ⟨wfS_mk (by simp) (by simp), h.n.2.2.2, h6, h7, h5⟩
  · rcases h.g with ⟨-, -, -, h4⟩ | ⟨h4, h5, h6, h7⟩
    · rw [if_pos h4] at h1; simp at h1
    · rw [if_neg h4] at h1
      rw [List.mem_singleton.1 h1]
      exact ⟨wfS_mk (by simp) (by simp), h.n.2.2.2, h6, h7, h5⟩
  · exact wfq h.n.2.2.2 h.n.1 h.n.2.1 h.q.2 s h1
  · exact wft h.n.2.2.2 h.n.2.2.1 h.h h.t.2 s h1
  · unfold bksS at h1
    obtain ⟨L, hL, hs⟩ := List.mem_flatten.1 h1
    obtain ⟨b, hb, rfl⟩ := List.mem_map.1 hL
    have fb := h.bk b hb
    unfold bkS at hs
    rcases List.mem_append.1 hs with h2 | h2
    · exact wfq h.n.2.2.2 fb.n.1 fb.n.2.1 fb.q.2 s h2
    · exact wft h.n.2.2.2 fb.n.2.2 fb.h fb.t.2 s h2
theorem fc_two {m : Mg} (h : FcM m) : ∀ b ∈ m.bs, b.qw.length + b.tw.length ≤ 2000 := fun b hb => by
  have h1 := (h.bk b hb).q.1
  have h2 := (h.bk b hb).t.1
  omega
end Go.Proofs.Ytkidfkngehcjgaa
