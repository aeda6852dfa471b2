/- The steps from a text to the root, as the landed code's iterator hands them out one by one. -/
import Derived.Test.YtknnecmfebnfbakDoorMerkRound
import Derived.Test.YtknnecmfebnfbakDoorMerkImpl
import Derived.Test.YtknnecmfebnfbakDoorMerkSides
namespace Go.Proofs.YtknnecmfebnfbakDoor
open Go.RowKit Go.Shelf
set_option linter.unusedVariables false
attribute [local go_sem] Oper.semAt_some

def encSide {n : Nat} (x : Side n) : Value := .agg #[.int .i64 (x.1.1 : Int), .int .i64 (x.1.2.1 : Int), .bool x.1.2.2]
theorem rm_wide (k : Nat) : Fence.wide.room k := fun d h => by cases h
theorem RoundIn.anyD {m m' : Nat} {P : Program} {l : Nat} {f : FuncId} {tmps : Array Value} {assign body : Code} {w : World} {R : Ending → World → Prop}
    (h : RoundIn Fence.wide m P l f tmps assign body w R) : RoundIn Fence.wide m' P l f tmps assign body w R := ⟨h.1, fun c cs _ => h.2 c cs (rm_wide _)⟩
theorem YieldAt.anyD {m : Nat} (m' : Nat) {P : Program} {l : Nat} {args : Array Value} {W : World} {R : Ending → World → Prop} (h : YieldAt Fence.wide m P l args W R) : YieldAt Fence.wide m' P l args W R := by
  obtain ⟨fn, tmps, assign, body, hy, hR⟩ := h
  exact ⟨fn, tmps, assign, body, hy, RoundIn.anyD hR⟩

set_option maxRecDepth 100000 in
set_option maxHeartbeats 2000000 in
theorem climb_in (l N n : Nat) (hn64 : n ≤ 64) (J Jx : List (Side n) → World → Prop)
    (hY : ∀ m pre x W, J pre W → pre.length < N → YieldAt Fence.wide m Tryd.prog l #[encSide x] W fun e W' =>
      (e = .returned (.bool true) ∧ J (pre ++ [x]) W') ∨ (e = .returned (.bool false) ∧ Jx (pre ++ [x]) W')) :
    ∀ (f d i a m : Nat) (h : a + m ≤ n) (fr t : Int) (pre : List (Side n)) (W : World), m ≤ f → i ≤ 64 → fr = (a : Int) → t = (a : Int) + (m : Int) → J pre W → pre.length + (sidesS n i a m h).length ≤ N →
      CallsIn Fence.wide d Tryd.prog 44 #[.int .i64 (i : Int), .int .i64 fr, .int .i64 t, .func (.yield l) #[] #[]] W fun e W' =>
        (e = .returned (.bool true) ∧ J (pre ++ sidesS n i a m h) W') ∨ (e = .returned (.bool false) ∧ ∃ q, q <+: sidesS n i a m h ∧ Jx (pre ++ q) W') := by
  intro f
  induction f with
  | zero =>
    intro d i a m h fr t pre W hf hi hfr ht hJ hN
    have Hs := hide (sidesS_few n i a m h (by omega))
    have hlt : t - fr < 2 := by omega
    have b1 : 0 ≤ fr := by omega
    have b2 : fr ≤ 64 := by omega
    have b3 : 0 ≤ t := by omega
    have b4 : t ≤ 64 := by omega
    clear hfr ht hN
    refine callsIn_of_wp Tryd.func44 rfl trivial ?_ rfl
    simp only [Tryd.ntmps44, List.size_toArray, List.length_cons, List.length_nil, Nat.reduceAdd, Nat.reduceSub, Array.replicate_succ, Array.replicate_zero, List.push_toArray, List.append_toArray, List.nil_append, List.cons_append]
    gi_wp2
    go_ret
    exact .inl ⟨rfl, by rw [Hs.out]; simpa using hJ⟩
  | succ f ih =>
    intro d i a m h fr t pre W hf hi hfr ht hJ hN
    by_cases h0 : m ≤ f
    · exact ih d i a m h fr t pre W h0 hi hfr ht hJ hN
    · by_cases h2 : m < 2
      · have Hs := hide (sidesS_few n i a m h (by omega))
        have hlt : t - fr < 2 := by omega
        have b1 : 0 ≤ fr := by omega
        have b2 : fr ≤ 64 := by omega
        have b3 : 0 ≤ t := by omega
        have b4 : t ≤ 64 := by omega
        clear hfr ht hN ih
        refine callsIn_of_wp Tryd.func44 rfl trivial ?_ rfl
        simp only [Tryd.ntmps44, List.size_toArray, List.length_cons, List.length_nil, Nat.reduceAdd, Nat.reduceSub, Array.replicate_succ, Array.replicate_zero, List.push_toArray, List.append_toArray, List.nil_append, List.cons_append]
        gi_wp2
        go_ret
        exact .inl ⟨rfl, by rw [Hs.out]; simpa using hJ⟩
      · have hh := half_lt m (by omega)
        have hge : 2 ≤ t - fr := by omega
        have b1 : 0 ≤ fr := by omega
        have b2 : fr ≤ 64 := by omega
        have b3 : 0 ≤ t := by omega
        have b4 : t ≤ 64 := by omega
        have Hfp := hide (callsIn_wide (n := d - 1).2 (firstPart_any m W (by omega) (by omega)))
        rw [show (m : Int) = t - fr from by omega] at Hfp
        have hdd : ∀ k : Nat, (Fence.wide.depth.isSome = true → 1 ≤ k) := fun k h => by cases h
        by_cases hlt : i < a + half m
        · have hle : a + half m ≤ n := by omega
          obtain ⟨X, hX, hs⟩ : ∃ X : Side n, X.1 = (a + half m, a + m, false) ∧ sidesS n i a m h = sidesS n i a (half m) hle ++ [X] := ⟨_, rfl, sidesS_left n i a m h (by omega) hlt⟩
          have Hs := hide hs
          rw [hs] at hN
          simp only [List.length_append, List.length_cons, List.length_nil] at hN
          clear hs
          have hih := fun (fr' t' : Int) (e1 : fr' = a) (e2 : t' = a + half m) => ih (d - 1) i a (half m) hle fr' t' pre W (by omega) hi e1 (by omega) hJ (by omega)
          generalize hS : sidesS n i a (half m) hle = SS at Hs hN hih
          have hXe : encSide X = .agg #[.int .i64 (fr + (half m : Int)), .int .i64 t, .bool false] := by unfold encSide; rw [hX]; simp only; rw [show ((a + half m : Nat) : Int) = fr + (half m : Int) from by omega, show ((a + m : Nat) : Int) = t from by omega]
          obtain ⟨K, hK⟩ : ∃ K, half m = K := ⟨_, rfl⟩
          rw [hK] at hXe Hfp hh
          have iK : (i : Int) < fr + (K : Int) := by omega
          have kk : fr + (K : Int) ≤ 64 := by omega
          have ih1 := (hih fr (fr + (K : Int)) hfr (by omega)).mono (R' := fun e W1 =>
              (e = .returned (.bool true) ∧ YieldAt Fence.wide (d - 1) Tryd.prog l #[.agg #[.int .i64 (fr + (K : Int)), .int .i64 t, .bool false]] W1 fun e W2 =>
                (e = .returned (.bool true) ∧ J (pre ++ SS ++ [X]) W2) ∨ (e = .returned (.bool false) ∧ Jx (pre ++ SS ++ [X]) W2)) ∨
              (e = .returned (.bool false) ∧ ∃ q, q <+: SS ∧ Jx (pre ++ q) W1))
            (fun e W1 hh1 => hh1.elim (fun ⟨he, hj⟩ => .inl ⟨he, by have := hY (d - 1) _ X W1 hj (by simp; omega); rwa [hXe] at this⟩) .inr)
          clear hih hY ih hfr ht hX hXe hS hJ hK
          refine callsIn_of_wp Tryd.func44 rfl trivial ?_ rfl
          simp only [Tryd.ntmps44, List.size_toArray, List.length_cons, List.length_nil, Nat.reduceAdd, Nat.reduceSub, Array.replicate_succ, Array.replicate_zero, List.push_toArray, List.append_toArray, List.nil_append, List.cons_append]
          gi_wp2_with (first
            | ((first | refine ⟨trivial, hdd _, ?_⟩ | refine ⟨hdd _, ?_⟩ | skip); gi_at_call 26; refine Hfp.out.mono ?_; rintro e W ⟨rfl, rfl⟩)
            | ((first | refine ⟨trivial, hdd _, ?_⟩ | refine ⟨hdd _, ?_⟩ | skip); gi_at_call 44; refine ih1.mono ?_; clear ih1; rintro e W1 (⟨rfl, fn, tmps, assign, body, hy, hR⟩ | ⟨rfl, q, hq, hx1⟩))
            | ((first | refine ⟨trivial, hdd _, ?_⟩ | refine ⟨hdd _, ?_⟩ | skip); refine hR.mono ?_; clear hR; rintro e W2 (⟨rfl, hJ2⟩ | ⟨rfl, hx2⟩)))
          · go_ret
            exact .inl ⟨rfl, by rw [Hs.out, ← List.append_assoc]; exact hJ2⟩
          · go_ret
            exact .inr ⟨rfl, SS ++ [X], by rw [Hs.out]; exact List.prefix_rfl, by rw [← List.append_assoc]; exact hx2⟩
          · refine ⟨fun _ h => (by cases h), ?_⟩
            gi_wp2
            go_ret
            exact .inr ⟨rfl, q, by rw [Hs.out]; exact hq.trans (List.prefix_append _ _), hx1⟩
        · have hle : (a + half m) + (m - half m) ≤ n := by omega
          obtain ⟨X, hX, hs⟩ : ∃ X : Side n, X.1 = (a, a + half m, true) ∧ sidesS n i a m h = sidesS n i (a + half m) (m - half m) hle ++ [X] := ⟨_, rfl, sidesS_right n i a m h (by omega) hlt⟩
          have Hs := hide hs
          rw [hs] at hN
          simp only [List.length_append, List.length_cons, List.length_nil] at hN
          clear hs
          have hih := fun (fr' t' : Int) (e1 : fr' = a + half m) (e2 : t' = a + m) => ih (d - 1) i (a + half m) (m - half m) hle fr' t' pre W (by omega) hi (by omega) (by omega) hJ (by omega)
          generalize hS : sidesS n i (a + half m) (m - half m) hle = SS at Hs hN hih
          have hXe : encSide X = .agg #[.int .i64 fr, .int .i64 (fr + (half m : Int)), .bool true] := by unfold encSide; rw [hX]; simp only; rw [show ((a + half m : Nat) : Int) = fr + (half m : Int) from by omega, show (a : Int) = fr from by omega]
          obtain ⟨K, hK⟩ : ∃ K, half m = K := ⟨_, rfl⟩
          rw [hK] at hXe Hfp hh
          have iK : ¬ (i : Int) < fr + (K : Int) := by omega
          have kk : fr + (K : Int) ≤ 64 := by omega
          have ih1 := (hih (fr + (K : Int)) t (by omega) (by omega)).mono (R' := fun e W1 =>
              (e = .returned (.bool true) ∧ YieldAt Fence.wide (d - 1) Tryd.prog l #[.agg #[.int .i64 fr, .int .i64 (fr + (K : Int)), .bool true]] W1 fun e W2 =>
                (e = .returned (.bool true) ∧ J (pre ++ SS ++ [X]) W2) ∨ (e = .returned (.bool false) ∧ Jx (pre ++ SS ++ [X]) W2)) ∨
              (e = .returned (.bool false) ∧ ∃ q, q <+: SS ∧ Jx (pre ++ q) W1))
            (fun e W1 hh1 => hh1.elim (fun ⟨he, hj⟩ => .inl ⟨he, by have := hY (d - 1) _ X W1 hj (by simp; omega); rwa [hXe] at this⟩) .inr)
          clear hih hY ih hfr ht hX hXe hS hJ hK
          refine callsIn_of_wp Tryd.func44 rfl trivial ?_ rfl
          simp only [Tryd.ntmps44, List.size_toArray, List.length_cons, List.length_nil, Nat.reduceAdd, Nat.reduceSub, Array.replicate_succ, Array.replicate_zero, List.push_toArray, List.append_toArray, List.nil_append, List.cons_append]
          gi_wp2_with (first
            | ((first | refine ⟨trivial, hdd _, ?_⟩ | refine ⟨hdd _, ?_⟩ | skip); gi_at_call 26; refine Hfp.out.mono ?_; rintro e W ⟨rfl, rfl⟩)
            | ((first | refine ⟨trivial, hdd _, ?_⟩ | refine ⟨hdd _, ?_⟩ | skip); gi_at_call 44; refine ih1.mono ?_; clear ih1; rintro e W1 (⟨rfl, fn, tmps, assign, body, hy, hR⟩ | ⟨rfl, q, hq, hx1⟩))
            | ((first | refine ⟨trivial, hdd _, ?_⟩ | refine ⟨hdd _, ?_⟩ | skip); refine hR.mono ?_; clear hR; rintro e W2 (⟨rfl, hJ2⟩ | ⟨rfl, hx2⟩)))
          · go_ret
            exact .inl ⟨rfl, by rw [Hs.out, ← List.append_assoc]; exact hJ2⟩
          · go_ret
            exact .inr ⟨rfl, SS ++ [X], by rw [Hs.out]; exact List.prefix_rfl, by rw [← List.append_assoc]; exact hx2⟩
          · refine ⟨fun _ h => (by cases h), ?_⟩
            gi_wp2
            go_ret
            exact .inr ⟨rfl, q, by rw [Hs.out]; exact hq.trans (List.prefix_append _ _), hx1⟩

set_option maxRecDepth 20000 in
set_option maxHeartbeats 1000000 in
theorem sides1_in (d : Nat) (l N n i : Nat) (hn64 : n ≤ 64) (hi : i ≤ 64) (b0 b1 : Nat) (J Jx : List (Side n) → World → Prop)
    (hY : ∀ pre x W, J pre W → pre.length < N → YieldAt Fence.wide (d - 1) Tryd.prog l #[encSide x] W fun e W' =>
      (e = .returned (.bool true) ∧ J (pre ++ [x]) W' ∧ True) ∨ (e = .returned (.bool false) ∧ Jx (pre ++ [x]) W'))
    (W : World) (hc0 : W.cell? ⟨b0, 0, none⟩ = some (.int .i64 (i : Int))) (hc1 : W.cell? ⟨b1, 0, none⟩ = some (.int .i64 (n : Int))) (h0 : J [] W) (hN : (sidesS n i 0 n (by omega)).length ≤ N) :
    CallsIn Fence.wide d Tryd.prog 43 #[.func (.yield l) #[] #[], .pointer (some ⟨b0, 0, none⟩), .pointer (some ⟨b1, 0, none⟩)] W fun e W' => (∃ v, e = .returned v) ∧
      ((∃ ys, ys = sidesS n i 0 n (by omega) ∧ J ys W') ∨ (∃ pre, pre <+: sidesS n i 0 n (by omega) ∧ Jx pre W')) := by
  have hdd : ∀ k : Nat, (Fence.wide.depth.isSome = true → 1 ≤ k) := fun k h => by cases h
  have hp := climb_in l N n hn64 J Jx (fun m pre x W hj hl => YieldAt.anyD m (YieldAt.mono (hY pre x W hj hl) (fun e W' h => h.elim (fun ⟨a, b, _⟩ => .inl ⟨a, b⟩) .inr))) n (d - 1) i 0 n (by omega) 0 (n : Int) [] W (Nat.le_refl _) hi rfl (by omega) h0 (by simpa using hN)
  clear hY
  refine callsIn_of_wp Tryd.func43 rfl trivial ?_ rfl
  simp only [Tryd.ntmps43, List.size_toArray, List.length_cons, List.length_nil, Nat.reduceAdd, Nat.reduceSub, Array.replicate_succ, Array.replicate_zero, List.push_toArray, List.append_toArray, List.nil_append, List.cons_append]
  gi_wp2_with ((first | refine ⟨trivial, hdd _, ?_⟩ | refine ⟨hdd _, ?_⟩ | skip); gi_at_call 44; refine hp.mono ?_; clear hp; rintro e W1 (⟨rfl, hJ1⟩ | ⟨rfl, q, hq, hx⟩))
  · go_end0
    exact ⟨⟨_, rfl⟩, .inl ⟨_, rfl, by simpa using hJ1⟩⟩
  · go_end0
    exact ⟨⟨_, rfl⟩, .inr ⟨q, hq, by simpa using hx⟩⟩

set_option maxRecDepth 20000 in
theorem sides_any (i n : Int) (w : World) :
    Calls Tryd.prog 30 #[.int .i64 i, .int .i64 n] w fun e w' => e = .returned (.func (.func 43) #[] #[.pointer (some ⟨w.heap.size, 0, none⟩), .pointer (some ⟨w.heap.size + 1, 0, none⟩)]) ∧ w' = (w.alloc (.cells #[.int .i64 i] 3)).alloc (.cells #[.int .i64 n] 3) := by
  go_enter Tryd.func30, Tryd.ntmps30
  go_wp2
  go_ret
  exact ⟨rfl, rfl⟩

theorem sides_stops (d n i : Nat) (hn64 : n ≤ 64) (hi : i ≤ 64) (b0 b1 : Nat) (w : World) (hb0 : b0 < w.heap.size) (hb1 : b1 < w.heap.size) (hc0 : w.cell? ⟨b0, 0, none⟩ = some (.int .i64 (i : Int))) (hc1 : w.cell? ⟨b1, 0, none⟩ = some (.int .i64 (n : Int))) :
    SeqStopsK Fence.wide d Tryd.prog 43 #[.pointer (some ⟨b0, 0, none⟩), .pointer (some ⟨b1, 0, none⟩)] (fun x : Side n => #[encSide x]) (fun _ _ => True) (fun ys => ys = sidesS n i 0 n (by omega)) (fun pre => pre <+: sidesS n i 0 n (by omega)) (sidesS n i 0 n (by omega)).length w := fun l J Jx W hW _ _ hY h0 =>
  sides1_in d l _ n i hn64 hi b0 b1 J Jx hY W ((hW.cell (p := ⟨b0, 0, none⟩) hb0).trans hc0) ((hW.cell (p := ⟨b1, 0, none⟩) hb1).trans hc1) h0 (Nat.le_refl _)
/-- A block that holds a step. -/
def SideAt {n : Nat} (W : World) (B : Nat) (x : Side n) : Prop := W.heap[B]? = some (.cells #[.int .i64 (x.1.1 : Int), .int .i64 (x.1.2.1 : Int), .bool x.1.2.2] 44 (0, 0))
theorem SideAt.lt {n : Nat} {W : World} {B : Nat} {x : Side n} (h : SideAt W B x) : B < W.heap.size := (Array.getElem?_eq_some_iff.1 h).1
theorem SideAt.cells {n : Nat} {W : World} {B : Nat} {x : Side n} (h : SideAt W B x) : W.cell? ⟨B, 0, none⟩ = some (.int .i64 (x.1.1 : Int)) ∧ W.cell? ⟨B, 1, none⟩ = some (.int .i64 (x.1.2.1 : Int)) ∧ W.cell? ⟨B, 2, none⟩ = some (.bool x.1.2.2) := by
  refine ⟨?_, ?_, ?_⟩ <;> simp [World.cell?, show W.heap[B]? = _ from h]
theorem SideAt.not_row {n : Nat} {W : World} {B : Nat} {x : Side n} (h : SideAt W B x) {base size k : Nat} {v : Value} {xs : List Value} (hr : W.ownsRow base 9 size v k xs) : some B ≠ v.ownBlock := by
  rcases hr.2 with ⟨rfl, _⟩ | ⟨g, cap, cur, rfl, _, hgb, _⟩
  · simp [Value.ownBlock]
  · intro e'
    obtain rfl : B = g := by simpa [Value.ownBlock] using e'
    have := (show W.heap[B]? = _ from h).symm.trans hgb
    simp at this
theorem keepsOthers_below {W V : World} (h : Below W.heap.size W V) : KeepsOthers W V := ⟨h.size, fun k o hk _ => (h.block k (Array.getElem?_eq_some_iff.1 hk).1).trans hk⟩
theorem sideAt_own {n : Nat} (B : Nat) (x : Side n) : Own (fun (_ : Unit) W => SideAt W B x) := fun s X Y row hs hg hrow =>
  (hg.block B (SideAt.lt hs) (fun e' => by obtain ⟨o, ho, hc⟩ := hrow B e'.symm; rw [show X.heap[B]? = _ from hs] at ho; cases ho; cases hc)).trans hs
end Go.Proofs.YtknnecmfebnfbakDoor
