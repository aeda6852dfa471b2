/- Plain facts on what the ledger's functions answer: how many marks they take. -/
import Derived.Test.YtaidhenkijjcfaaLgNext
import Derived.Test.YtaidhenkijjcfaaLgRow
namespace Go.Proofs.Ytaidhenkijjcfaa
open Go.RowKit
set_option linter.unusedVariables false

theorem nxs_tot : ∀ (k : Nat) (l : List Ac), nxs k l ≤ k + 4 * l.length + 2 * totA l
  | k, [] => by simp [nxs]
  | k, a :: t => by
    have h := nxs_tot (nx k a) t
    have e : totA (a :: t) = wgA a + totA t := by simp [totA]
    have e2 : a.2.2.2.2.length ≤ wgA a := by unfold wgA; omega
    unfold nx at h
    simp only [nxs, nx, List.length_cons]
    rw [e]
    omega
theorem nxs_four : ∀ (k : Nat) (l : List Ac), (∀ a ∈ l, a.2.2.2.2.length ≤ 4) → nxs k l ≤ k + 12 * l.length
  | k, [], _ => by simp [nxs]
  | k, a :: t, h => by
    have h' := nxs_four (nx k a) t (fun b hb => h b (List.mem_cons_of_mem _ hb))
    have e := h a List.mem_cons_self
    unfold nx at h'
    simp only [nxs, nx, List.length_cons]
    omega
theorem acs_four {l : List Ac} (h : acsB l = true) : ∀ a ∈ l, a.2.2.2.2.length ≤ 4 := by
  intro a ha
  obtain ⟨j, hj, rfl⟩ := List.mem_iff_getElem.1 ha
  unfold acsB at h
  rw [Bool.and_eq_true, List.all_eq_true] at h
  have := h.1 j (List.mem_range.2 hj)
  rw [acAt_eq l j l[j] hj rfl, Bool.and_eq_true] at this
  have h2 := this.1
  unfold acB at h2
  simp only [Bool.and_eq_true, decide_eq_true_eq] at h2
  exact h2.2.2.2.2.1
theorem acs_len' {l : List Ac} (h : acsB l = true) : l.length ≤ 12 := by
  unfold acsB at h
  simp only [Bool.and_eq_true, decide_eq_true_eq] at h
  exact h.2.1
theorem lg_acs {e : Int} {l : List Ac} (h : lgB e l = true) : acsB l = true := by unfold lgB at h; rw [Bool.and_eq_true] at h; exact h.2
theorem neA_is (e : Int) (l : List Ac) : (neA e l).2 = l ∨ acsB (neA e l).2 = true := by
  unfold neA
  split
  · rename_i h
    rw [Bool.and_eq_true] at h
    exact .inr (lg_acs h.2)
  · exact .inl rfl
theorem Blk.btw {W V : World} {B lo hi : Nat} {t : TypeId} {cs : List Value} (h : Blk W B t cs) (hb : Btw lo hi W V) (hd : B < lo ∨ hi ≤ B) : Blk V B t cs := (hb.block B h.lt hd).trans h
theorem RdA.len {w : World} {v : Value} {l : List Ac} {n : Nat} (h : RdA w v l) (hn : l.length = n) : ∃ a cap, v = .slice a n cap := by subst hn; exact h.shape
end Go.Proofs.Ytaidhenkijjcfaa
