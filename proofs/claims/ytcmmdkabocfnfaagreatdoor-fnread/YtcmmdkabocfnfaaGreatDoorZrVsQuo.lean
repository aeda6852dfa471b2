/- The laws' own helpers over texts: how much there is of them, a copy, and whether two are the same. Slices of numbers: what they read as, what a call owns of them; made anew, held against each other, their size. A certificate of leavings by value: made, held against another, its size; the greatest High. Votes and leavings in memory: two numbers and a name each. What those who vote weigh, on both sides: WeightOf, TotalOf, LeaderOf. What those who vote weigh, by the landed code: WeightOf, TotalOf, LeaderOf. Quorums, on both sides, where the weights are small. -/
import Derived.Test.YtcmmdkabocfnfaaGreatDoorZrDrawTx
import Derived.Test.YtcmmdkabocfnfaaGreatDoorZrTxBlk
import Derived.Maps.AppendAt
import Derived.Laws.AppendOwnNone
import Derived.Test.YtcmmdkabocfnfaaGreatDoorZrDrawVs
namespace Go.Proofs.YtcmmdkabocfnfaaGreatDoor
open Go.RowKit
set_option linter.unusedVariables false

def szR (ls : List ByteArray) (m : Nat) : Int := if ls.length + tot ls ≤ m then (m : Int) - ls.length - tot ls else -1

theorem tot_snoc (ls : List ByteArray) (k : Nat) (h : k < ls.length) : tot (ls.take (k + 1)) = tot (ls.take k) + ls[k].size := by
  rw [List.take_succ_eq_append_getElem h]; simp only [tot, List.map_append, List.map_cons, List.map_nil, List.sum_append, List.sum_cons, List.sum_nil]; omega
theorem tot_two (ls : List ByteArray) (k : Nat) (h : k < ls.length) : tot (ls.take k) + ls[k].size ≤ tot ls := by
  rw [← tot_snoc ls k h]; exact tot_take ls _



set_option maxRecDepth 20000 in
set_option maxHeartbeats 400000 in
theorem eqStringS_any (v1 v2 : Value) (l1 l2 : List ByteArray) (w : World) (hr1 : RdS w v1 l1) (hr2 : RdS w v2 l2) (hl1 : l1.length ≤ 4000000) (hl2 : l2.length ≤ 4000000) :
    Calls Tryz.prog 84 #[v1, v2] w fun e w' => e = .returned (.bool (decide (l1 = l2))) ∧ Sm w w' := by
  by_cases hne : l1.length = l2.length
  · rcases hr1 with ⟨a, cap, rfl, rfl, -⟩ | ⟨b, off, cap, h0, rfl, h1, h2, h3, h4⟩
    · have e2 : l2 = [] := List.length_eq_zero_iff.1 (by simpa using hne.symm)
      subst e2
      obtain ⟨a2, cap2, rfl⟩ := hr2.shape
      clear hr2
      go_enter Tryz.func84, Tryz.ntmps84
      go_wp2
      refine wp_loop_rounds 1 ?_
      rw [rounds_succ]
      go_wp2
      go_ret
      exact ⟨rfl, Sm.refl _⟩
    · rcases hr2 with ⟨a2, cap2, rfl, rfl, -⟩ | ⟨b2, off2, cap2, g0, rfl, g1, g2, g3, g4⟩
      · exact absurd (List.length_eq_zero_iff.1 (by simpa using hne)) h0
      · have Hne := hide hne
        have hlen : ((l1.length : Int) != (l2.length : Int)) = false := by rw [hne]; simp
        have hle : l1.length ≤ l2.length := by omega
        have hge : l2.length ≤ l1.length := by omega
        have H4 := hide h4
        have G4 := hide g4
        clear hne h4 g4
        go_enter Tryz.func84, Tryz.ntmps84
        go_wp2
        go_loopw [5] (fun i wr => ∃ k : Nat, k ≤ l1.length ∧ i = .int .i64 k ∧ l1.take k = l2.take k ∧ Sm w wr) (fun i _ => l1.length - (intOf i).toNat)
        case atStart => exact ⟨0, Nat.zero_le _, rfl, rfl, Sm.refl _⟩
        case round =>
          obtain ⟨k, hk, rfl, ht, hs⟩ := hrel
          have Ht := hide ht
          clear ht
          by_cases hlt : k < l1.length
          · have hlt2 : k < l2.length := by omega
            have hc1 : wr.cell? ⟨b, off + k, none⟩ = some (.string l1[k]) := (hs.cell _).trans (H4.out k hlt)
            have hc2 : wr.cell? ⟨b2, off2 + k, none⟩ = some (.string l2[k]) := (hs.cell _).trans (G4.out k hlt2)
            have hli : (k : Int) < (l1.length : Int) := by omega
            have hli2 : (k : Int) < (l2.length : Int) := by omega
            by_cases he : l1[k] = l2[k]
            · have Hnx := hide (take_eq_snoc hlt hlt2 Ht.out he)
              rw [← he] at hc2
              clear he
              generalize l1[k] = s1 at hc1 hc2
              go_wp2
              go_quiet (fail)
              go_wp2
              go_roundw
              case rel => exact ⟨k + 1, by omega, by go_num, Hnx.out, hs.drewN _⟩
              case measure => simp [intOf]; omega
            · have hf : Hid (decide (l1 = l2) = false) := hide (by rw [decide_eq_false]; intro e; subst e; exact he rfl)
              have hq := bytes_ne he
              clear he
              generalize l1[k] = s1 at hc1 hq
              generalize l2[k] = s2 at hc2 hq
              go_wp2
              go_quiet (fail)
              go_wp2
              go_ret
              exact ⟨ret_bool hf.out.symm, hs.drewN _⟩
          · have hf : Hid (decide (l1 = l2) = true) := hide (by
              rw [decide_eq_true]
              have := Ht.out
              rwa [List.take_of_length_le (by omega), List.take_of_length_le (by omega)] at this)
            go_wp2
            go_ret
            exact ⟨ret_bool hf.out.symm, hs⟩
  · obtain ⟨a, cap, rfl⟩ := hr1.shape
    obtain ⟨a2, cap2, rfl⟩ := hr2.shape
    clear hr1 hr2
    have hlen : ((l1.length : Int) != (l2.length : Int)) = true := by rw [bne_iff_ne]; omega
    have hf : Hid (decide (l1 = l2) = false) := hide (by rw [decide_eq_false]; intro e; subst e; exact hne rfl)
    clear hne
    go_enter Tryz.func84, Tryz.ntmps84
    go_wp2
    go_ret
    exact ⟨ret_bool hf.out.symm, Sm.refl _⟩
end Go.Proofs.YtcmmdkabocfnfaaGreatDoor

namespace Go.Proofs.YtcmmdkabocfnfaaGreatDoor
open Go.RowKit
set_option linter.unusedVariables false

theorem int_ne {a b : Int} (h : a ≠ b) : (a != b) = true := by rw [bne_iff_ne]; exact h
/-- The value v is a slice that reads as the numbers l. -/
def RdI (w : World) (v : Value) (l : List Int) : Prop :=
  (∃ a cap, v = .slice a 0 cap ∧ l = [] ∧ (a = none → cap = 0)) ∨
  ∃ b off cap, l ≠ [] ∧ v = .slice (some ⟨b, off, none⟩) l.length cap ∧ l.length ≤ cap ∧ cap ≤ maxLen ∧ b < w.heap.size ∧ ∀ i (h : i < l.length), w.cell? ⟨b, off + i, none⟩ = some (.int .i64 l[i])

theorem RdI.shape {w : World} {v : Value} {l : List Int} (h : RdI w v l) : ∃ a cap, v = .slice a l.length cap := by
  rcases h with ⟨a, cap, rfl, rfl, -⟩ | ⟨b, off, cap, h0, rfl, _⟩
  · exact ⟨a, cap, rfl⟩
  · exact ⟨_, cap, rfl⟩
theorem RdI.below {B : Nat} {w w' : World} {v : Value} {l : List Int} (h : RdI w v l) (hb : Below B w w') (hB : w.heap.size ≤ B) : RdI w' v l := by
  rcases h with h | ⟨b, off, cap, h0, hv, h1, h2, h3, h4⟩
  · exact .inl h
  · exact .inr ⟨b, off, cap, h0, hv, h1, h2, by have := hb.size; omega, fun i hi => (hb.cell (p := ⟨b, off + i, none⟩) (by show b < B; omega)).trans (h4 i hi)⟩
/-- The value v is a slice of the call's own, from block 'base' on, that reads as the numbers l. -/
def OwnI (base : Nat) (w : World) (v : Value) (l : List Int) : Prop := w.ownsRow base 3 1 v l.length (l.map (Value.int .i64))

theorem OwnI.rd {base : Nat} {w : World} {v : Value} {l : List Int} (h : OwnI base w v l) : RdI w v l := by
  rcases h.2 with ⟨hv, hn⟩ | ⟨g, cap, cur, hv, hb, hg, hnc, hcm, hcs, ht⟩
  · exact .inl ⟨none, 0, hv, List.length_eq_zero_iff.1 hn, fun _ => rfl⟩
  · by_cases hl : l = []
    · subst hl; exact .inl ⟨_, _, hv, rfl, fun h => by cases h⟩
    · refine .inr ⟨g, 0, cap, hl, hv, hnc, hcm, ?_, ?_⟩
      · exact (Array.getElem?_eq_some_iff.1 hg).1
      · intro i hi
        have h' : w.ownsRow base 3 1 (.slice (some ⟨g, 0, none⟩) l.length cap) l.length (l.map (Value.int .i64)) := hv ▸ h
        rw [show 0 + i = i from by omega, h'.cellAt i (by omega)]
        simp [hi]
theorem OwnI.below {B base : Nat} {w w' : World} {v : Value} {l : List Int} (h : OwnI base w v l) (hb : Below B w w') (hB : w.heap.size ≤ B) : OwnI base w' v l := by
  refine ⟨h.1, ?_⟩
  rcases h.2 with h' | ⟨g, cap, cur, hv, hbb, hg, r⟩
  · exact .inl h'
  · refine .inr ⟨g, cap, cur, hv, hbb, ?_, r⟩
    have hlt : g < w.heap.size := (Array.getElem?_eq_some_iff.1 hg).1
    rw [hb.block g (by omega)]; exact hg
theorem OwnI.mono {base base' : Nat} {w : World} {v : Value} {l : List Int} (h : OwnI base w v l) (hB : base' ≤ base) : OwnI base' w v l := by
  refine ⟨h.1, ?_⟩
  rcases h.2 with h' | ⟨g, cap, cur, hv, hbb, r⟩
  · exact .inl h'
  · exact .inr ⟨g, cap, cur, hv, by omega, r⟩
theorem OwnI.kept {base : Nat} {w w' : World} {v : Value} {l : List Int} {row : Option Nat} (h : OwnI base w v l) (hg : w.grownBy w' row) (hne : v.ownBlock = none ∨ v.ownBlock ≠ row) : OwnI base w' v l := World.ownsRow.kept h hg hne
theorem OwnI.ge {base : Nat} {w : World} {v : Value} {l : List Int} (h : OwnI base w v l) : ∀ k, v.ownBlock = some k → base ≤ k := fun k hk => (World.ownsRow.lt h k hk).1
theorem OwnI.lt {base : Nat} {w : World} {v : Value} {l : List Int} (h : OwnI base w v l) : ∀ k, v.ownBlock = some k → k < w.heap.size := fun k hk => (World.ownsRow.lt h k hk).2

theorem Tryz.infoI : (Tryz.prog.info? 3).map (fun i => (i.zero, i.size, i.bytes)) = some (some (.int .i64 0), 1, 8) := by kernel_rfl
set_option maxRecDepth 20000 in
set_option maxHeartbeats 400000 in
theorem eqIntS_any (v1 v2 : Value) (l1 l2 : List Int) (w : World) (hr1 : RdI w v1 l1) (hr2 : RdI w v2 l2) (hl1 : l1.length ≤ 4000000) (hl2 : l2.length ≤ 4000000) :
    Calls Tryz.prog 85 #[v1, v2] w fun e w' => e = .returned (.bool (decide (l1 = l2))) ∧ Sm w w' := by
  by_cases hne : l1.length = l2.length
  · rcases hr1 with ⟨a, cap, rfl, rfl, -⟩ | ⟨b, off, cap, h0, rfl, h1, h2, h3, h4⟩
    · have e2 : l2 = [] := List.length_eq_zero_iff.1 (by simpa using hne.symm)
      subst e2
      obtain ⟨a2, cap2, rfl⟩ := hr2.shape
      clear hr2
      go_enter Tryz.func85, Tryz.ntmps85
      go_wp2
      refine wp_loop_rounds 1 ?_
      rw [rounds_succ]
      go_wp2
      go_ret
      exact ⟨rfl, Sm.refl _⟩
    · rcases hr2 with ⟨a2, cap2, rfl, rfl, -⟩ | ⟨b2, off2, cap2, g0, rfl, g1, g2, g3, g4⟩
      · exact absurd (List.length_eq_zero_iff.1 (by simpa using hne)) h0
      · have Hne := hide hne
        have hlen : ((l1.length : Int) != (l2.length : Int)) = false := by rw [hne]; simp
        have hle : l1.length ≤ l2.length := by omega
        have hge : l2.length ≤ l1.length := by omega
        have H4 := hide h4
        have G4 := hide g4
        clear hne h4 g4
        go_enter Tryz.func85, Tryz.ntmps85
        go_wp2
        go_loopw [5] (fun i wr => ∃ k : Nat, k ≤ l1.length ∧ i = .int .i64 k ∧ l1.take k = l2.take k ∧ Sm w wr) (fun i _ => l1.length - (intOf i).toNat)
        case atStart => exact ⟨0, Nat.zero_le _, rfl, rfl, Sm.refl _⟩
        case round =>
          obtain ⟨k, hk, rfl, ht, hs⟩ := hrel
          have Ht := hide ht
          clear ht
          by_cases hlt : k < l1.length
          · have hlt2 : k < l2.length := by omega
            have hc1 : wr.cell? ⟨b, off + k, none⟩ = some (.int .i64 l1[k]) := (hs.cell _).trans (H4.out k hlt)
            have hc2 : wr.cell? ⟨b2, off2 + k, none⟩ = some (.int .i64 l2[k]) := (hs.cell _).trans (G4.out k hlt2)
            have hli : (k : Int) < (l1.length : Int) := by omega
            have hli2 : (k : Int) < (l2.length : Int) := by omega
            by_cases he : l1[k] = l2[k]
            · have Hnx := hide (take_eq_snoc hlt hlt2 Ht.out he)
              rw [← he] at hc2
              clear he
              generalize l1[k] = s1 at hc1 hc2
              go_wp2
              go_quiet (fail)
              go_wp2
              go_roundw
              case rel => exact ⟨k + 1, by omega, by go_num, Hnx.out, hs.drewN _⟩
              case measure => simp [intOf]; omega
            · have hf : Hid (decide (l1 = l2) = false) := hide (by rw [decide_eq_false]; intro e; subst e; exact he rfl)
              have hq := int_ne he
              clear he
              generalize l1[k] = s1 at hc1 hq
              generalize l2[k] = s2 at hc2 hq
              go_wp2
              go_quiet (fail)
              go_wp2
              go_ret
              exact ⟨ret_bool hf.out.symm, hs.drewN _⟩
          · have hf : Hid (decide (l1 = l2) = true) := hide (by
              rw [decide_eq_true]
              have := Ht.out
              rwa [List.take_of_length_le (by omega), List.take_of_length_le (by omega)] at this)
            go_wp2
            go_ret
            exact ⟨ret_bool hf.out.symm, hs⟩
  · obtain ⟨a, cap, rfl⟩ := hr1.shape
    obtain ⟨a2, cap2, rfl⟩ := hr2.shape
    clear hr1 hr2
    have hlen : ((l1.length : Int) != (l2.length : Int)) = true := by rw [bne_iff_ne]; omega
    have hf : Hid (decide (l1 = l2) = false) := hide (by rw [decide_eq_false]; intro e; subst e; exact hne rfl)
    clear hne
    go_enter Tryz.func85, Tryz.ntmps85
    go_wp2
    go_ret
    exact ⟨ret_bool hf.out.symm, Sm.refl _⟩
end Go.Proofs.YtcmmdkabocfnfaaGreatDoor

namespace Go.Proofs.YtcmmdkabocfnfaaGreatDoor
open Go.RowKit
set_option linter.unusedVariables false

/-- Its value: its round, its names being vw, its Highs vh. -/
def tcV (r : Int) (vw vh : Value) : Value := .agg #[.int .i64 r, vw, vh]
theorem OwnS.olderC {base : Nat} {w : World} {v : Value} {l : List ByteArray} (h : OwnS base w v l) {g : Nat} (hg : g < base) (j : Nat) (u : Value) : OwnS base (w.setCell ⟨g, j, none⟩ u) v l :=
  row_set h g j u (fun k hk => by have := h.ge k hk; omega)
theorem OwnI.olderC {base : Nat} {w : World} {v : Value} {l : List Int} (h : OwnI base w v l) {g : Nat} (hg : g < base) (j : Nat) (u : Value) : OwnI base (w.setCell ⟨g, j, none⟩ u) v l :=
  row_set h g j u (fun k hk => by have := h.ge k hk; omega)
theorem Blk.setC {W : World} {B : Nat} {t : TypeId} {cs : List Value} (h : Blk W B t cs) (j : Nat) (u : Value) : Blk (W.setCell ⟨B, j, none⟩ u) B t (cs.set j u) := by
  have e := heap_setCell_same W B j cs.toArray t u h
  simpa [Blk] using e
theorem Blk.otherC {W : World} {B : Nat} {t : TypeId} {cs : List Value} (h : Blk W B t cs) (g j : Nat) (u : Value) (hne : B ≠ g) : Blk (W.setCell ⟨g, j, none⟩ u) B t cs := (heap_setCell_other W ⟨g, j, none⟩ B u hne).trans h
set_option maxRecDepth 20000 in
set_option maxHeartbeats 1000000 in
theorem eqTc_any (r : Int) (vw1 vh1 vw2 vh2 : Value) (ws : List ByteArray) (hs : List Int) (w : World) (h1 : RdS w vw1 ws) (h2 : RdI w vh1 hs) (h3 : RdS w vw2 ws) (h4 : RdI w vh2 hs) (hlw : ws.length ≤ 4000000) (hlh : hs.length ≤ 4000000) :
    Calls Tryz.prog 31 #[tcV r vw1 vh1, tcV r vw2 vh2] w fun en w' => en = .returned (.bool true) ∧ Below w.heap.size w w' := by
  obtain ⟨a1, c1, rfl⟩ := h1.shape
  obtain ⟨a2, c2, rfl⟩ := h2.shape
  obtain ⟨a3, c3, rfl⟩ := h3.shape
  obtain ⟨a4, c4, rfl⟩ := h4.shape
  simp only [tcV] at *
  obtain ⟨w2, hw2⟩ : ∃ w2, (w.alloc (.cells #[.int .i64 r, .slice a1 ws.length c1, .slice a2 hs.length c2] 28)).alloc (.cells #[.int .i64 r, .slice a3 ws.length c3, .slice a4 hs.length c4] 28) = w2 := ⟨_, rfl⟩
  have hb2 : Below w.heap.size w w2 := by rw [← hw2]; exact ((Below.refl _ w).alloc (Nat.le_refl _) _).alloc (by simp) _
  have kA : Blk w2 w.heap.size 28 [.int .i64 r, .slice a1 ws.length c1, .slice a2 hs.length c2] := by
    rw [← hw2]
    exact (Blk.new w 28 [.int .i64 r, .slice a1 ws.length c1, .slice a2 hs.length c2]).below ((Below.refl (w.heap.size + 1) _).alloc (by simp) _) (by omega)
  have kB : Blk w2 (w.heap.size + 1) 28 [.int .i64 r, .slice a3 ws.length c3, .slice a4 hs.length c4] := by
    rw [← hw2]
    have h := Blk.new (w.alloc (.cells #[.int .i64 r, .slice a1 ws.length c1, .slice a2 hs.length c2] 28)) 28 [.int .i64 r, .slice a3 ws.length c3, .slice a4 hs.length c4]
    simp only [World.size_alloc] at h
    exact h
  have HE := hide (eqStringS_any _ _ ws ws w2 (h1.below hb2 (Nat.le_refl _)) (h3.below hb2 (Nat.le_refl _)) hlw hlw)
  rw [decide_eq_true rfl] at HE
  have HF := hide (fun V (hb : Below w.heap.size w V) => eqIntS_any (.slice a2 hs.length c2) (.slice a4 hs.length c4) hs hs V (h2.below hb (Nat.le_refl _)) (h4.below hb (Nat.le_refl _)) hlh hlh)
  rw [decide_eq_true rfl] at HF
  have x0 := kA.cell 0
  have x1 := kA.cell 1
  have x2 := kA.cell 2
  have y0 := kB.cell 0
  have y1 := kB.cell 1
  have y2 := kB.cell 2
  simp only [List.getElem?_cons_zero, List.getElem?_cons_succ] at x0 x1 x2 y0 y1 y2
  clear h1 h2 h3 h4
  go_enter Tryz.func31, Tryz.ntmps31
  go_wp2_with fail
  refine HE.out.mono ?_
  rintro en w3 ⟨rfl, hb3⟩
  have kA3 := kA.below (hb3 w2.heap.size) kA.lt
  have kB3 := kB.below (hb3 w2.heap.size) kB.lt
  have hB3 := hb2.trans (hb3 w.heap.size)
  have u2 := kA3.cell 2
  have z2 := kB3.cell 2
  simp only [List.getElem?_cons_zero, List.getElem?_cons_succ] at u2 z2
  clear x0 x1 x2 y0 y1 y2 kA kB kA3 kB3 hb3
  go_wp2_with fail
  refine (HF.out _ hB3).mono ?_
  rintro en w4 ⟨rfl, hb4⟩
  have hB4 := hB3.trans (hb4 w.heap.size)
  go_wp2
  go_ret
  exact ⟨rfl, hB4⟩
/-- The greatest of the numbers; 0. -/
def highI (hs : List Int) : Int := hs.foldl (fun n x => if n < x then x else n) 0
theorem high_snoc (hs : List Int) (k : Nat) (h : k < hs.length) : (hs.take (k + 1)).foldl (fun (n x : Int) => if n < x then x else n) 0 = (if (hs.take k).foldl (fun (n x : Int) => if n < x then x else n) 0 < hs[k] then hs[k] else (hs.take k).foldl (fun (n x : Int) => if n < x then x else n) 0) := by
  rw [List.take_succ_eq_append_getElem h, List.foldl_append]; rfl
end Go.Proofs.YtcmmdkabocfnfaaGreatDoor

namespace Go.Proofs.YtcmmdkabocfnfaaGreatDoor
open Go.RowKit
set_option linter.unusedVariables false

/-- Two numbers and a name. -/
abbrev Tr := Int × Int × ByteArray
def trV (p : Tr) : Value := .agg #[.int .i64 p.1, .int .i64 p.2.1, .string p.2.2]
def trC (p : Tr) : List Value := [.int .i64 p.1, .int .i64 p.2.1, .string p.2.2]
structure TrAt (w : World) (b o : Nat) (p : Tr) : Prop where
  c0 : w.cell? ⟨b, o, none⟩ = some (.int .i64 p.1)
  c1 : w.cell? ⟨b, o + 1, none⟩ = some (.int .i64 p.2.1)
  c2 : w.cell? ⟨b, o + 2, none⟩ = some (.string p.2.2)
theorem TrAt.below {w w' : World} {B b o : Nat} {p : Tr} (h : TrAt w b o p) (hb : Below B w w') (hB : b < B) : TrAt w' b o p :=
  ⟨(hb.cell (p := ⟨b, o, none⟩) hB).trans h.c0, (hb.cell (p := ⟨b, o + 1, none⟩) hB).trans h.c1, (hb.cell (p := ⟨b, o + 2, none⟩) hB).trans h.c2⟩
def RdR (w : World) (v : Value) (l : List Tr) : Prop :=
  (∃ a cap, v = .slice a 0 cap ∧ l = [] ∧ (a = none → cap = 0)) ∨
  ∃ b off cap, l ≠ [] ∧ v = .slice (some ⟨b, off, none⟩) l.length cap ∧ l.length ≤ cap ∧ cap ≤ maxLen ∧ b < w.heap.size ∧ ∀ i (h : i < l.length), TrAt w b (off + i * 3) l[i]
theorem RdR.shape {w : World} {v : Value} {l : List Tr} (h : RdR w v l) : ∃ a cap, v = .slice a l.length cap := by
  rcases h with ⟨a, cap, rfl, rfl, -⟩ | ⟨b, off, cap, h0, rfl, _⟩
  · exact ⟨a, cap, rfl⟩
  · exact ⟨_, cap, rfl⟩
theorem RdR.below {B : Nat} {w w' : World} {v : Value} {l : List Tr} (h : RdR w v l) (hb : Below B w w') (hB : w.heap.size ≤ B) : RdR w' v l := by
  rcases h with h | ⟨b, off, cap, h0, hv, h1, h2, h3, h4⟩
  · exact .inl h
  · exact .inr ⟨b, off, cap, h0, hv, h1, h2, by have := hb.size; omega, fun i hi => (h4 i hi).below hb (by omega)⟩
theorem RdR.at {w : World} {a : Option Addr} {cap k : Nat} {l : List Tr} (h : RdR w (.slice a l.length cap) l) (hk : k < l.length) :
    ∃ b off, a = some ⟨b, off, none⟩ ∧ l.length ≤ cap ∧ cap ≤ maxLen ∧ b < w.heap.size ∧ TrAt w b (off + k * 3) l[k] := by
  rcases h with ⟨a', cap', e, rfl, -⟩ | ⟨b, off, cap', h0, e, h1, h2, h3, h4⟩
  · simp at hk
  · simp only [Value.slice.injEq] at e
    obtain ⟨rfl, -, rfl⟩ := e
    exact ⟨b, off, rfl, h1, h2, h3, h4 k hk⟩
theorem trM_sz (l : List Tr) : ∀ x ∈ l.map trC, x.length = 3 := fun x hx => by obtain ⟨p, _, rfl⟩ := List.mem_map.1 hx; rfl
/-- The slice v, of the call's own from block 'base' on, reads as the triples l (t: their type). -/
def OwnR (t : TypeId) (base : Nat) (w : World) (v : Value) (l : List Tr) : Prop := w.ownsRow base t 3 v l.length (l.map trC).flatten
theorem OwnR.rd {t : TypeId} {base : Nat} {w : World} {v : Value} {l : List Tr} (h : OwnR t base w v l) : RdR w v l := by
  rcases h.2 with ⟨rfl, hn⟩ | ⟨g, cap, cur, rfl, hb, hg, hnc, hcm, hcs, ht⟩
  · have : l = [] := List.length_eq_zero_iff.1 hn
    subst this
    exact .inl ⟨_, _, rfl, rfl, fun _ => rfl⟩
  · by_cases hn : l = []
    · subst hn; exact .inl ⟨_, _, rfl, rfl, fun h => by cases h⟩
    · refine .inr ⟨g, 0, cap, hn, rfl, hnc, hcm, (Array.getElem?_eq_some_iff.1 hg).1, fun i hi => ?_⟩
      have cell : ∀ j, j < 3 → w.cell? ⟨g, 0 + i * 3 + j, none⟩ = (trC l[i])[j]? := fun j hj => by
        rw [Nat.zero_add, World.ownsRow.cellAt h (i * 3 + j) (by omega), flat_get 3 (l.map trC) i j (by simpa using hi) (trM_sz l) hj]
        simp
      exact ⟨by have := cell 0 (by omega); simpa [trC] using this, by have := cell 1 (by omega); simpa [trC] using this, by have := cell 2 (by omega); simpa [trC] using this⟩
theorem OwnR.below {t : TypeId} {B base : Nat} {w w' : World} {v : Value} {l : List Tr} (h : OwnR t base w v l) (hb : Below B w w') (hB : w.heap.size ≤ B) : OwnR t base w' v l := row_below h hb hB
theorem OwnR.ge {t : TypeId} {base : Nat} {w : World} {v : Value} {l : List Tr} (h : OwnR t base w v l) : ∀ k, v.ownBlock = some k → base ≤ k := fun k hk => (World.ownsRow.lt h k hk).1
theorem OwnR.lt {t : TypeId} {base : Nat} {w : World} {v : Value} {l : List Tr} (h : OwnR t base w v l) : ∀ k, v.ownBlock = some k → k < w.heap.size := fun k hk => (World.ownsRow.lt h k hk).2
theorem OwnR.alloc {t : TypeId} {base : Nat} {w : World} {v : Value} {l : List Tr} (h : OwnR t base w v l) (o : Obj) : OwnR t base (w.alloc o) v l := World.ownsRow.alloc h o
theorem OwnR.drew {t : TypeId} {base : Nat} {w : World} {v : Value} {l : List Tr} (h : OwnR t base w v l) : OwnR t base w.drew v l := h.below (Below.refl _ w).drew (Nat.le_refl _)
theorem OwnR.notg {t : TypeId} {base : Nat} {w w' : World} {v : Value} {l : List Tr} {g : Nat} (h : OwnR t base w v l) (hg : w.grownBy w' (some g)) (hb : g < base) : OwnR t base w' v l :=
  World.ownsRow.kept h hg (.inr fun e => by have := h.ge g e; omega)
theorem OwnR.kept {t : TypeId} {base : Nat} {w w' : World} {v : Value} {l : List Tr} {row : Option Nat} (h : OwnR t base w v l) (hg : w.grownBy w' row) (hne : v.ownBlock = none ∨ v.ownBlock ≠ row) : OwnR t base w' v l := World.ownsRow.kept h hg hne
theorem own_nilR (t : TypeId) (w : World) (base : Nat) (h : base ≤ w.heap.size) : OwnR t base (w.alloc (.cells #[] t)) (.slice (some ⟨w.heap.size, 0, none⟩) 0 0) [] :=
  World.ownsRow_lit w #[] 0 h (by unfold maxLen; omega) (by simp)
theorem add_flatR (b off i : Nat) : (⟨b, off, none⟩ : Addr).add i = ⟨b, off + i, none⟩ := by
  by_cases hz : i = 0
  · subst hz; simp [Addr.add]
  · simp [Addr.add, hz]
theorem Blk.newR (W : World) (t : TypeId) (cs : List Value) (n : Nat) (h : n = W.heap.size) : Blk (W.alloc (.cells cs.toArray t)) n t cs := by subst h; exact Blk.new W t cs
end Go.Proofs.YtcmmdkabocfnfaaGreatDoor

namespace Go.Proofs.YtcmmdkabocfnfaaGreatDoor
open Go.RowKit
set_option linter.unusedVariables false

theorem foldV_snoc {α β : Type} (f : β → α → β) (z : β) (l : List α) (k : Nat) (h : k < l.length) : (l.take (k + 1)).foldl f z = f ((l.take k).foldl f z) l[k] := by
  rw [List.take_succ_eq_append_getElem h, List.foldl_append]; rfl
/-- What all of them come to, each by f. -/
def sumV (f : Vl → Int) (l : List Vl) : Int := l.foldl (fun s p => wrap64 (s + f p)) 0
theorem sumV_snoc (f : Vl → Int) (l : List Vl) (k : Nat) (h : k < l.length) : sumV f (l.take (k + 1)) = wrap64 (sumV f (l.take k) + f l[k]) := foldV_snoc _ _ l k h
theorem wrap64_twice (x : Int) : wrap64 (wrap64 x + 0) = wrap64 x := by rw [Int.add_zero]; unfold wrap64; omega
theorem sumV_same (f : Vl → Int) : ∀ (l : List Vl) (s : Int), wrap64 (s + 0) = s → wrap64 (l.foldl (fun s p => wrap64 (s + f p)) s + 0) = l.foldl (fun s p => wrap64 (s + f p)) s
  | [], s, h => h
  | p :: l, s, h => by rw [List.foldl_cons]; exact sumV_same f l _ (wrap64_twice _)
theorem sumV_zero (f : Vl → Int) (l : List Vl) : wrap64 (sumV f l + 0) = sumV f l := sumV_same f l 0 (by unfold wrap64; omega)
/-- Whether a name is among these. -/
def hasN (ns : List ByteArray) (s : ByteArray) : Bool := ns.any (fun t => decide (t = s))
theorem hasN_yes {ns : List ByteArray} {s : ByteArray} (h : s ∈ ns) : hasN ns s = true := List.any_eq_true.2 ⟨s, h, by simp⟩
theorem hasN_no {ns : List ByteArray} {s : ByteArray} (h : s ∉ ns) : hasN ns s = false := by
  cases e : hasN ns s with
  | false => rfl
  | true =>
    obtain ⟨t, ht, e'⟩ := List.any_eq_true.1 e
    have : t = s := by simpa using e'
    exact absurd (this ▸ ht) h
/-- What one weighs among these names. -/
def wtN (ns : List ByteArray) (p : Vl) : Int := if hasN ns p.1 = true then p.2 else 0
def weightV (l : List Vl) (ns : List ByteArray) : Int := sumV (wtN ns) l
def totalV (l : List Vl) : Int := sumV (·.2) l
/-- Who leads in a round. -/
def leadV (l : List Vl) (r : Int) : ByteArray := if l.length = 0 ∨ r < 0 then ByteArray.empty else (l.getD (r.toNat % l.length) (ByteArray.empty, 0)).1
theorem mem_next {ns : List ByteArray} {s : ByteArray} {k : Nat} (h : k < ns.length) (hn : s ∉ ns.take k) (he : ns[k] ≠ s) : s ∉ ns.take (k + 1) := by
  rw [List.take_succ_eq_append_getElem h]
  intro hm
  rcases List.mem_append.1 hm with h' | h'
  · exact hn h'
  · exact he (by simpa using (List.mem_singleton.1 h').symm)

end Go.Proofs.YtcmmdkabocfnfaaGreatDoor

namespace Go.Proofs.YtcmmdkabocfnfaaGreatDoor
open Go.RowKit
set_option linter.unusedVariables false

end Go.Proofs.YtcmmdkabocfnfaaGreatDoor

namespace Go.Proofs.YtcmmdkabocfnfaaGreatDoor
open Go.RowKit
set_option linter.unusedVariables false

end Go.Proofs.YtcmmdkabocfnfaaGreatDoor
