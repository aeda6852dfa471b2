/- Slices of numbers: what they read as, what a call owns of them; made anew, held against each other, their size. -/
import Derived.Test.YtljkmoffpgpeoaaToStr
namespace Go.Proofs.Ytljkmoffpgpeoaa
open Go.RowKit
set_option linter.unusedVariables false

theorem int_ne {a b : Int} (h : a ≠ b) : (a != b) = true := by rw [bne_iff_ne]; exact h
/-- The value v is a slice that reads as the numbers l. -/
def RdI (w : World) (v : Value) (l : List Int) : Prop :=
  (∃ a cap, v = .slice a 0 cap ∧ l = [] ∧ (a = none → cap = 0)) ∨
  ∃ b off cap, l ≠ [] ∧ v = .slice (some ⟨b, off, none⟩) l.length cap ∧ l.length ≤ cap ∧ cap ≤ maxLen ∧ b < w.heap.size ∧ ∀ i (h : i < l.length), w.cell? ⟨b, off + i, none⟩ = some (.int .i64 l[i])

theorem RdI.shape {w : World} {v : Value} {l : List Int} (h : RdI w v l) : ∃ a cap, v = .slice a l.length cap := by
  rcases h with ⟨a, cap, rfl, rfl, -⟩ | ⟨b, off, cap, h0, rfl, _⟩
  · exact ⟨a, cap, rfl⟩
  · exact ⟨_, cap, rfl⟩
theorem RdI.below {B : Nat} {w w' : World} {v : Value} {l : List Int} (h : RdI w v l) (hb : Below B w w') (hB : w.heap.size ≤ B) : RdI w' v l := by
  rcases h with h | ⟨b, off, cap, h0, hv, h1, h2, h3, h4⟩
  · exact .inl h
  · exact .inr ⟨b, off, cap, h0, hv, h1, h2, by have := hb.size; omega, fun i hi => (hb.cell (p := ⟨b, off + i, none⟩) (by show b < B; omega)).trans (h4 i hi)⟩
/-- The value v is a slice of the call's own, from block 'base' on, that reads as the numbers l. -/
def OwnI (base : Nat) (w : World) (v : Value) (l : List Int) : Prop := w.ownsRow base 3 1 v l.length (l.map (Value.int .i64))

theorem OwnI.rd {base : Nat} {w : World} {v : Value} {l : List Int} (h : OwnI base w v l) : RdI w v l := by
  rcases h.2 with ⟨hv, hn⟩ | ⟨g, cap, cur, hv, hb, hg, hnc, hcm, hcs, ht⟩
  · exact .inl ⟨none, 0, hv, List.length_eq_zero_iff.1 hn, fun _ => rfl⟩
  · by_cases hl : l = []
    · subst hl; exact .inl ⟨_, _, hv, rfl, fun h => by cases h⟩
    · refine .inr ⟨g, 0, cap, hl, hv, hnc, hcm, ?_, ?_⟩
      · exact (Array.getElem?_eq_some_iff.1 hg).1
      · intro i hi
        have h' : w.ownsRow base 3 1 (.slice (some ⟨g, 0, none⟩) l.length cap) l.length (l.map (Value.int .i64)) := hv ▸ h
        rw [show 0 + i = i from by omega, h'.cellAt i (by omega)]
        simp [hi]
theorem OwnI.below {B base : Nat} {w w' : World} {v : Value} {l : List Int} (h : OwnI base w v l) (hb : Below B w w') (hB : w.heap.size ≤ B) : OwnI base w' v l := by
  refine ⟨h.1, ?_⟩
  rcases h.2 with h' | ⟨g, cap, cur, hv, hbb, hg, r⟩
  · exact .inl h'
  · refine .inr ⟨g, cap, cur, hv, hbb, ?_, r⟩
    have hlt : g < w.heap.size := (Array.getElem?_eq_some_iff.1 hg).1
    rw [hb.block g (by omega)]; exact hg
theorem OwnI.mono {base base' : Nat} {w : World} {v : Value} {l : List Int} (h : OwnI base w v l) (hB : base' ≤ base) : OwnI base' w v l := by
  refine ⟨h.1, ?_⟩
  rcases h.2 with h' | ⟨g, cap, cur, hv, hbb, r⟩
  · exact .inl h'
  · exact .inr ⟨g, cap, cur, hv, by omega, r⟩
theorem OwnI.kept {base : Nat} {w w' : World} {v : Value} {l : List Int} {row : Option Nat} (h : OwnI base w v l) (hg : w.grownBy w' row) (hne : v.ownBlock = none ∨ v.ownBlock ≠ row) : OwnI base w' v l := World.ownsRow.kept h hg hne
theorem OwnI.ge {base : Nat} {w : World} {v : Value} {l : List Int} (h : OwnI base w v l) : ∀ k, v.ownBlock = some k → base ≤ k := fun k hk => (World.ownsRow.lt h k hk).1
theorem OwnI.lt {base : Nat} {w : World} {v : Value} {l : List Int} (h : OwnI base w v l) : ∀ k, v.ownBlock = some k → k < w.heap.size := fun k hk => (World.ownsRow.lt h k hk).2

theorem Try.infoI : (Try.prog.info? 3).map (fun i => (i.zero, i.size, i.bytes)) = some (some (.int .i64 0), 1, 8) := by kernel_rfl
set_option maxRecDepth 20000 in
set_option maxHeartbeats 400000 in
theorem eqIntS_any (v1 v2 : Value) (l1 l2 : List Int) (w : World) (hr1 : RdI w v1 l1) (hr2 : RdI w v2 l2) (hl1 : l1.length ≤ 4000000) (hl2 : l2.length ≤ 4000000) :
    Calls Try.prog 30 #[v1, v2] w fun e w' => e = .returned (.bool (decide (l1 = l2))) ∧ Sm w w' := by
  by_cases hne : l1.length = l2.length
  · rcases hr1 with ⟨a, cap, rfl, rfl, -⟩ | ⟨b, off, cap, h0, rfl, h1, h2, h3, h4⟩
    · have e2 : l2 = [] := List.length_eq_zero_iff.1 (by simpa using hne.symm)
      subst e2
      obtain ⟨a2, cap2, rfl⟩ := hr2.shape
      clear hr2
      go_enter Try.func30, Try.ntmps30
      go_wp2
      refine wp_loop_rounds 1 ?_
      rw [rounds_succ]
      go_wp2
      go_ret
      exact ⟨rfl, Sm.refl _⟩
    · rcases hr2 with ⟨a2, cap2, rfl, rfl, -⟩ | ⟨b2, off2, cap2, g0, rfl, g1, g2, g3, g4⟩
      · exact absurd (List.length_eq_zero_iff.1 (by simpa using hne)) h0
      · have Hne := hide hne
        have hlen : ((l1.length : Int) != (l2.length : Int)) = false := by rw [hne]; simp
        have hle : l1.length ≤ l2.length := by omega
        have hge : l2.length ≤ l1.length := by omega
        have H4 := hide h4
        have G4 := hide g4
        clear hne h4 g4
        go_enter Try.func30, Try.ntmps30
        go_wp2
        go_loopw [5] (fun i wr => ∃ k : Nat, k ≤ l1.length ∧ i = .int .i64 k ∧ l1.take k = l2.take k ∧ Sm w wr) (fun i _ => l1.length - (intOf i).toNat)
        case atStart => exact ⟨0, Nat.zero_le _, rfl, rfl, Sm.refl _⟩
        case round =>
          obtain ⟨k, hk, rfl, ht, hs⟩ := hrel
          have Ht := hide ht
          clear ht
          by_cases hlt : k < l1.length
          · have hlt2 : k < l2.length := by omega
            have hc1 : wr.cell? ⟨b, off + k, none⟩ = some (.int .i64 l1[k]) := (hs.cell _).trans (H4.out k hlt)
            have hc2 : wr.cell? ⟨b2, off2 + k, none⟩ = some (.int .i64 l2[k]) := (hs.cell _).trans (G4.out k hlt2)
            have hli : (k : Int) < (l1.length : Int) := by omega
            have hli2 : (k : Int) < (l2.length : Int) := by omega
            by_cases he : l1[k] = l2[k]
            · have Hnx := hide (take_eq_snoc hlt hlt2 Ht.out he)
              rw [← he] at hc2
              clear he
              generalize l1[k] = s1 at hc1 hc2
              go_wp2
              go_quiet (fail)
              go_wp2
              go_roundw
              case rel => exact ⟨k + 1, by omega, by go_num, Hnx.out, hs.drewN _⟩
              case measure => simp [intOf]; omega
            · have hf : Hid (decide (l1 = l2) = false) := hide (by rw [decide_eq_false]; intro e; subst e; exact he rfl)
              have hq := int_ne he
              clear he
              generalize l1[k] = s1 at hc1 hq
              generalize l2[k] = s2 at hc2 hq
              go_wp2
              go_quiet (fail)
              go_wp2
              go_ret
              exact ⟨ret_bool hf.out.symm, hs.drewN _⟩
          · have hf : Hid (decide (l1 = l2) = true) := hide (by
              rw [decide_eq_true]
              have := Ht.out
              rwa [List.take_of_length_le (by omega), List.take_of_length_le (by omega)] at this)
            go_wp2
            go_ret
            exact ⟨ret_bool hf.out.symm, hs⟩
  · obtain ⟨a, cap, rfl⟩ := hr1.shape
    obtain ⟨a2, cap2, rfl⟩ := hr2.shape
    clear hr1 hr2
    have hlen : ((l1.length : Int) != (l2.length : Int)) = true := by rw [bne_iff_ne]; omega
    have hf : Hid (decide (l1 = l2) = false) := hide (by rw [decide_eq_false]; intro e; subst e; exact hne rfl)
    clear hne
    go_enter Try.func30, Try.ntmps30
    go_wp2
    go_ret
    exact ⟨ret_bool hf.out.symm, Sm.refl _⟩
end Go.Proofs.Ytljkmoffpgpeoaa
