/- The steps from a text to the root, as the landed code's iterator hands them out one by one. Slices of int that hold no number below 0: what a block reads as, what a call owns, append. Append onto numbers of the call's own: what was there can still be read where it was. -/
import Derived.Test.YtdelegamcebflaaDoorMerkRound
import Derived.Test.YtdelegamcebflaaDoorJoin10
import Derived.Test.YtdelegamcebflaaDoorMerkSides
import Derived.Test.YtdelegamcebflaaDoorJoin5
import Derived.Deep.RegionLaw
namespace Go.Proofs.YtdelegamcebflaaDoor
open Go.RowKit Go.Shelf
set_option linter.unusedVariables false
attribute [local go_sem] Oper.semAt_some

def encSide {n : Nat} (x : Side n) : Value := .agg #[.int .i64 (x.1.1 : Int), .int .i64 (x.1.2.1 : Int), .bool x.1.2.2]
theorem rm_wide (k : Nat) : Fence.wide.room k := fun d h => by cases h
theorem RoundIn.anyD {m m' : Nat} {P : Program} {l : Nat} {f : FuncId} {tmps : Array Value} {assign body : Code} {w : World} {R : Ending → World → Prop}
    (h : RoundIn Fence.wide m P l f tmps assign body w R) : RoundIn Fence.wide m' P l f tmps assign body w R := ⟨h.1, fun c cs _ => h.2 c cs (rm_wide _)⟩
theorem YieldAt.anyD {m : Nat} (m' : Nat) {P : Program} {l : Nat} {args : Array Value} {W : World} {R : Ending → World → Prop} (h : YieldAt Fence.wide m P l args W R) : YieldAt Fence.wide m' P l args W R := by
  obtain ⟨fn, tmps, assign, body, hy, hR⟩ := h
  exact ⟨fn, tmps, assign, body, hy, RoundIn.anyD hR⟩

set_option maxRecDepth 100000 in
set_option maxHeartbeats 2000000 in
theorem climb_in (l N n : Nat) (hn64 : n ≤ 64) (J Jx : List (Side n) → World → Prop)
    (hY : ∀ m pre x W, J pre W → pre.length < N → YieldAt Fence.wide m Tryd.prog l #[encSide x] W fun e W' =>
      (e = .returned (.bool true) ∧ J (pre ++ [x]) W') ∨ (e = .returned (.bool false) ∧ Jx (pre ++ [x]) W')) :
    ∀ (f d i a m : Nat) (h : a + m ≤ n) (fr t : Int) (pre : List (Side n)) (W : World), m ≤ f → i ≤ 64 → fr = (a : Int) → t = (a : Int) + (m : Int) → J pre W → pre.length + (sidesS n i a m h).length ≤ N →
      CallsIn Fence.wide d Tryd.prog 41 #[.int .i64 (i : Int), .int .i64 fr, .int .i64 t, .func (.yield l) #[] #[]] W fun e W' =>
        (e = .returned (.bool true) ∧ J (pre ++ sidesS n i a m h) W') ∨ (e = .returned (.bool false) ∧ ∃ q, q <+: sidesS n i a m h ∧ Jx (pre ++ q) W') := by
  intro f
  induction f with
  | zero =>
    intro d i a m h fr t pre W hf hi hfr ht hJ hN
    have Hs := hide (sidesS_few n i a m h (by omega))
    have hlt : t - fr < 2 := by omega
    have b1 : 0 ≤ fr := by omega
    have b2 : fr ≤ 64 := by omega
    have b3 : 0 ≤ t := by omega
    have b4 : t ≤ 64 := by omega
    clear hfr ht hN
    refine callsIn_of_wp Tryd.func41 rfl trivial ?_ rfl
    simp only [Tryd.ntmps41, List.size_toArray, List.length_cons, List.length_nil, Nat.reduceAdd, Nat.reduceSub, Array.replicate_succ, Array.replicate_zero, List.push_toArray, List.append_toArray, List.nil_append, List.cons_append]
    gi_wp2
    go_ret
    exact .inl ⟨rfl, by rw [Hs.out]; simpa using hJ⟩
  | succ f ih =>
    intro d i a m h fr t pre W hf hi hfr ht hJ hN
    by_cases h0 : m ≤ f
    · exact ih d i a m h fr t pre W h0 hi hfr ht hJ hN
    · by_cases h2 : m < 2
      · have Hs := hide (sidesS_few n i a m h (by omega))
        have hlt : t - fr < 2 := by omega
        have b1 : 0 ≤ fr := by omega
        have b2 : fr ≤ 64 := by omega
        have b3 : 0 ≤ t := by omega
        have b4 : t ≤ 64 := by omega
        clear hfr ht hN ih
        refine callsIn_of_wp Tryd.func41 rfl trivial ?_ rfl
        simp only [Tryd.ntmps41, List.size_toArray, List.length_cons, List.length_nil, Nat.reduceAdd, Nat.reduceSub, Array.replicate_succ, Array.replicate_zero, List.push_toArray, List.append_toArray, List.nil_append, List.cons_append]
        gi_wp2
        go_ret
        exact .inl ⟨rfl, by rw [Hs.out]; simpa using hJ⟩
      · have hh := half_lt m (by omega)
        have hge : 2 ≤ t - fr := by omega
        have b1 : 0 ≤ fr := by omega
        have b2 : fr ≤ 64 := by omega
        have b3 : 0 ≤ t := by omega
        have b4 : t ≤ 64 := by omega
        have Hfp := hide (callsIn_wide (n := d - 1).2 (firstPart_any m W (by omega) (by omega)))
        rw [show (m : Int) = t - fr from by omega] at Hfp
        have hdd : ∀ k : Nat, (Fence.wide.depth.isSome = true → 1 ≤ k) := fun k h => by cases h
        by_cases hlt : i < a + half m
        · have hle : a + half m ≤ n := by omega
          obtain ⟨X, hX, hs⟩ : ∃ X : Side n, X.1 = (a + half m, a + m, false) ∧ sidesS n i a m h = sidesS n i a (half m) hle ++ [X] := ⟨_, rfl, sidesS_left n i a m h (by omega) hlt⟩
          have Hs := hide hs
          rw [hs] at hN
          simp only [List.length_append, List.length_cons, List.length_nil] at hN
          clear hs
          have hih := fun (fr' t' : Int) (e1 : fr' = a) (e2 : t' = a + half m) => ih (d - 1) i a (half m) hle fr' t' pre W (by omega) hi e1 (by omega) hJ (by omega)
          generalize hS : sidesS n i a (half m) hle = SS at Hs hN hih
          have hXe : encSide X = .agg #[.int .i64 (fr + (half m : Int)), .int .i64 t, .bool false] := by unfold encSide; rw [hX]; simp only; rw [show ((a + half m : Nat) : Int) = fr + (half m : Int) from by omega, show ((a + m : Nat) : Int) = t from by omega]
          obtain ⟨K, hK⟩ : ∃ K, half m = K := ⟨_, rfl⟩
          rw [hK] at hXe Hfp hh
          have iK : (i : Int) < fr + (K : Int) := by omega
          have kk : fr + (K : Int) ≤ 64 := by omega
          have ih1 := (hih fr (fr + (K : Int)) hfr (by omega)).mono (R' := fun e W1 =>
              (e = .returned (.bool true) ∧ YieldAt Fence.wide (d - 1) Tryd.prog l #[.agg #[.int .i64 (fr + (K : Int)), .int .i64 t, .bool false]] W1 fun e W2 =>
                (e = .returned (.bool true) ∧ J (pre ++ SS ++ [X]) W2) ∨ (e = .returned (.bool false) ∧ Jx (pre ++ SS ++ [X]) W2)) ∨
              (e = .returned (.bool false) ∧ ∃ q, q <+: SS ∧ Jx (pre ++ q) W1))
            (fun e W1 hh1 => hh1.elim (fun ⟨he, hj⟩ => .inl ⟨he, by have := hY (d - 1) _ X W1 hj (by simp; omega); rwa [hXe] at this⟩) .inr)
          clear hih hY ih hfr ht hX hXe hS hJ hK
          refine callsIn_of_wp Tryd.func41 rfl trivial ?_ rfl
          simp only [Tryd.ntmps41, List.size_toArray, List.length_cons, List.length_nil, Nat.reduceAdd, Nat.reduceSub, Array.replicate_succ, Array.replicate_zero, List.push_toArray, List.append_toArray, List.nil_append, List.cons_append]
          gi_wp2_with (first
            | ((first | refine ⟨trivial, hdd _, ?_⟩ | refine ⟨hdd _, ?_⟩ | skip); gi_at_call 32; refine Hfp.out.mono ?_; rintro e W ⟨rfl, rfl⟩)
            | ((first | refine ⟨trivial, hdd _, ?_⟩ | refine ⟨hdd _, ?_⟩ | skip); gi_at_call 41; refine ih1.mono ?_; clear ih1; rintro e W1 (⟨rfl, fn, tmps, assign, body, hy, hR⟩ | ⟨rfl, q, hq, hx1⟩))
            | ((first | refine ⟨trivial, hdd _, ?_⟩ | refine ⟨hdd _, ?_⟩ | skip); refine hR.mono ?_; clear hR; rintro e W2 (⟨rfl, hJ2⟩ | ⟨rfl, hx2⟩)))
          · go_ret
            exact .inl ⟨rfl, by rw [Hs.out, ← List.append_assoc]; exact hJ2⟩
          · go_ret
            exact .inr ⟨rfl, SS ++ [X], by rw [Hs.out]; exact List.prefix_rfl, by rw [← List.append_assoc]; exact hx2⟩
          · refine ⟨fun _ h => (by cases h), ?_⟩
            gi_wp2
            go_ret
            exact .inr ⟨rfl, q, by rw [Hs.out]; exact hq.trans (List.prefix_append _ _), hx1⟩
        · have hle : (a + half m) + (m - half m) ≤ n := by omega
          obtain ⟨X, hX, hs⟩ : ∃ X : Side n, X.1 = (a, a + half m, true) ∧ sidesS n i a m h = sidesS n i (a + half m) (m - half m) hle ++ [X] := ⟨_, rfl, sidesS_right n i a m h (by omega) hlt⟩
          have Hs := hide hs
          rw [hs] at hN
          simp only [List.length_append, List.length_cons, List.length_nil] at hN
          clear hs
          have hih := fun (fr' t' : Int) (e1 : fr' = a + half m) (e2 : t' = a + m) => ih (d - 1) i (a + half m) (m - half m) hle fr' t' pre W (by omega) hi (by omega) (by omega) hJ (by omega)
          generalize hS : sidesS n i (a + half m) (m - half m) hle = SS at Hs hN hih
          have hXe : encSide X = .agg #[.int .i64 fr, .int .i64 (fr + (half m : Int)), .bool true] := by unfold encSide; rw [hX]; simp only; rw [show ((a + half m : Nat) : Int) = fr + (half m : Int) from by omega, show (a : Int) = fr from by omega]
          obtain ⟨K, hK⟩ : ∃ K, half m = K := ⟨_, rfl⟩
          rw [hK] at hXe Hfp hh
          have iK : ¬ (i : Int) < fr + (K : Int) := by omega
          have kk : fr + (K : Int) ≤ 64 := by omega
          have ih1 := (hih (fr + (K : Int)) t (by omega) (by omega)).mono (R' := fun e W1 =>
              (e = .returned (.bool true) ∧ YieldAt Fence.wide (d - 1) Tryd.prog l #[.agg #[.int .i64 fr, .int .i64 (fr + (K : Int)), .bool true]] W1 fun e W2 =>
                (e = .returned (.bool true) ∧ J (pre ++ SS ++ [X]) W2) ∨ (e = .returned (.bool false) ∧ Jx (pre ++ SS ++ [X]) W2)) ∨
              (e = .returned (.bool false) ∧ ∃ q, q <+: SS ∧ Jx (pre ++ q) W1))
            (fun e W1 hh1 => hh1.elim (fun ⟨he, hj⟩ => .inl ⟨he, by have := hY (d - 1) _ X W1 hj (by simp; omega); rwa [hXe] at this⟩) .inr)
          clear hih hY ih hfr ht hX hXe hS hJ hK
          refine callsIn_of_wp Tryd.func41 rfl trivial ?_ rfl
          simp only [Tryd.ntmps41, List.size_toArray, List.length_cons, List.length_nil, Nat.reduceAdd, Nat.reduceSub, Array.replicate_succ, Array.replicate_zero, List.push_toArray, List.append_toArray, List.nil_append, List.cons_append]
          gi_wp2_with (first
            | ((first | refine ⟨trivial, hdd _, ?_⟩ | refine ⟨hdd _, ?_⟩ | skip); gi_at_call 32; refine Hfp.out.mono ?_; rintro e W ⟨rfl, rfl⟩)
            | ((first | refine ⟨trivial, hdd _, ?_⟩ | refine ⟨hdd _, ?_⟩ | skip); gi_at_call 41; refine ih1.mono ?_; clear ih1; rintro e W1 (⟨rfl, fn, tmps, assign, body, hy, hR⟩ | ⟨rfl, q, hq, hx1⟩))
            | ((first | refine ⟨trivial, hdd _, ?_⟩ | refine ⟨hdd _, ?_⟩ | skip); refine hR.mono ?_; clear hR; rintro e W2 (⟨rfl, hJ2⟩ | ⟨rfl, hx2⟩)))
          · go_ret
            exact .inl ⟨rfl, by rw [Hs.out, ← List.append_assoc]; exact hJ2⟩
          · go_ret
            exact .inr ⟨rfl, SS ++ [X], by rw [Hs.out]; exact List.prefix_rfl, by rw [← List.append_assoc]; exact hx2⟩
          · refine ⟨fun _ h => (by cases h), ?_⟩
            gi_wp2
            go_ret
            exact .inr ⟨rfl, q, by rw [Hs.out]; exact hq.trans (List.prefix_append _ _), hx1⟩

set_option maxRecDepth 20000 in
set_option maxHeartbeats 1000000 in
theorem sides1_in (d : Nat) (l N n i : Nat) (hn64 : n ≤ 64) (hi : i ≤ 64) (b0 b1 : Nat) (J Jx : List (Side n) → World → Prop)
    (hY : ∀ pre x W, J pre W → pre.length < N → YieldAt Fence.wide (d - 1) Tryd.prog l #[encSide x] W fun e W' =>
      (e = .returned (.bool true) ∧ J (pre ++ [x]) W' ∧ True) ∨ (e = .returned (.bool false) ∧ Jx (pre ++ [x]) W'))
    (W : World) (hc0 : W.cell? ⟨b0, 0, none⟩ = some (.int .i64 (i : Int))) (hc1 : W.cell? ⟨b1, 0, none⟩ = some (.int .i64 (n : Int))) (h0 : J [] W) (hN : (sidesS n i 0 n (by omega)).length ≤ N) :
    CallsIn Fence.wide d Tryd.prog 40 #[.func (.yield l) #[] #[], .pointer (some ⟨b0, 0, none⟩), .pointer (some ⟨b1, 0, none⟩)] W fun e W' => (∃ v, e = .returned v) ∧
      ((∃ ys, ys = sidesS n i 0 n (by omega) ∧ J ys W') ∨ (∃ pre, pre <+: sidesS n i 0 n (by omega) ∧ Jx pre W')) := by
  have hdd : ∀ k : Nat, (Fence.wide.depth.isSome = true → 1 ≤ k) := fun k h => by cases h
  have hp := climb_in l N n hn64 J Jx (fun m pre x W hj hl => YieldAt.anyD m (YieldAt.mono (hY pre x W hj hl) (fun e W' h => h.elim (fun ⟨a, b, _⟩ => .inl ⟨a, b⟩) .inr))) n (d - 1) i 0 n (by omega) 0 (n : Int) [] W (Nat.le_refl _) hi rfl (by omega) h0 (by simpa using hN)
  clear hY
  refine callsIn_of_wp Tryd.func40 rfl trivial ?_ rfl
  simp only [Tryd.ntmps40, List.size_toArray, List.length_cons, List.length_nil, Nat.reduceAdd, Nat.reduceSub, Array.replicate_succ, Array.replicate_zero, List.push_toArray, List.append_toArray, List.nil_append, List.cons_append]
  gi_wp2_with ((first | refine ⟨trivial, hdd _, ?_⟩ | refine ⟨hdd _, ?_⟩ | skip); gi_at_call 41; refine hp.mono ?_; clear hp; rintro e W1 (⟨rfl, hJ1⟩ | ⟨rfl, q, hq, hx⟩))
  · go_end0
    exact ⟨⟨_, rfl⟩, .inl ⟨_, rfl, by simpa using hJ1⟩⟩
  · go_end0
    exact ⟨⟨_, rfl⟩, .inr ⟨q, hq, by simpa using hx⟩⟩

set_option maxRecDepth 20000 in
theorem sides_any (i n : Int) (w : World) :
    Calls Tryd.prog 25 #[.int .i64 i, .int .i64 n] w fun e w' => e = .returned (.func (.func 40) #[] #[.pointer (some ⟨w.heap.size, 0, none⟩), .pointer (some ⟨w.heap.size + 1, 0, none⟩)]) ∧ w' = (w.alloc (.cells #[.int .i64 i] 3)).alloc (.cells #[.int .i64 n] 3) := by
  go_enter Tryd.func25, Tryd.ntmps25
  go_wp2
  go_ret
  exact ⟨rfl, rfl⟩

theorem sides_stops (d n i : Nat) (hn64 : n ≤ 64) (hi : i ≤ 64) (b0 b1 : Nat) (w : World) (hb0 : b0 < w.heap.size) (hb1 : b1 < w.heap.size) (hc0 : w.cell? ⟨b0, 0, none⟩ = some (.int .i64 (i : Int))) (hc1 : w.cell? ⟨b1, 0, none⟩ = some (.int .i64 (n : Int))) :
    SeqStopsK Fence.wide d Tryd.prog 40 #[.pointer (some ⟨b0, 0, none⟩), .pointer (some ⟨b1, 0, none⟩)] (fun x : Side n => #[encSide x]) (fun _ _ => True) (fun ys => ys = sidesS n i 0 n (by omega)) (fun pre => pre <+: sidesS n i 0 n (by omega)) (sidesS n i 0 n (by omega)).length w := fun l J Jx W hW _ _ hY h0 =>
  sides1_in d l _ n i hn64 hi b0 b1 J Jx hY W ((hW.cell (p := ⟨b0, 0, none⟩) hb0).trans hc0) ((hW.cell (p := ⟨b1, 0, none⟩) hb1).trans hc1) h0 (Nat.le_refl _)
/-- A block that holds a step. -/
def SideAt {n : Nat} (W : World) (B : Nat) (x : Side n) : Prop := W.heap[B]? = some (.cells #[.int .i64 (x.1.1 : Int), .int .i64 (x.1.2.1 : Int), .bool x.1.2.2] 55 (0, 0))
theorem SideAt.lt {n : Nat} {W : World} {B : Nat} {x : Side n} (h : SideAt W B x) : B < W.heap.size := (Array.getElem?_eq_some_iff.1 h).1
theorem SideAt.cells {n : Nat} {W : World} {B : Nat} {x : Side n} (h : SideAt W B x) : W.cell? ⟨B, 0, none⟩ = some (.int .i64 (x.1.1 : Int)) ∧ W.cell? ⟨B, 1, none⟩ = some (.int .i64 (x.1.2.1 : Int)) ∧ W.cell? ⟨B, 2, none⟩ = some (.bool x.1.2.2) := by
  refine ⟨?_, ?_, ?_⟩ <;> simp [World.cell?, show W.heap[B]? = _ from h]
theorem SideAt.not_row {n : Nat} {W : World} {B : Nat} {x : Side n} (h : SideAt W B x) {base size k : Nat} {v : Value} {xs : List Value} (hr : W.ownsRow base 9 size v k xs) : some B ≠ v.ownBlock := by
  rcases hr.2 with ⟨rfl, _⟩ | ⟨g, cap, cur, rfl, _, hgb, _⟩
  · simp [Value.ownBlock]
  · intro e'
    obtain rfl : B = g := by simpa [Value.ownBlock] using e'
    have := (show W.heap[B]? = _ from h).symm.trans hgb
    simp at this
theorem keepsOthers_below {W V : World} (h : Below W.heap.size W V) : KeepsOthers W V := ⟨h.size, fun k o hk _ => (h.block k (Array.getElem?_eq_some_iff.1 hk).1).trans hk⟩
theorem sideAt_own {n : Nat} (B : Nat) (x : Side n) : Own (fun (_ : Unit) W => SideAt W B x) := fun s X Y row hs hg hrow =>
  (hg.block B (SideAt.lt hs) (fun e' => by obtain ⟨o, ho, hc⟩ := hrow B e'.symm; rw [show X.heap[B]? = _ from hs] at ho; cases ho; cases hc)).trans hs
end Go.Proofs.YtdelegamcebflaaDoor

namespace Go.Proofs.YtdelegamcebflaaDoor
open Go.RowKit
set_option linter.unusedVariables false

def iv (n : Nat) : Value := .int .i64 (n : Int)

/-- The block g can be read as the numbers l from its head on. -/
def An (w : World) (g : Nat) (l : List Nat) : Prop := g < w.heap.size ∧ ∀ i (h : i < l.length), w.cell? ⟨g, i, none⟩ = some (.int .i64 (l[i] : Int))
def OwnN (base : Nat) (w : World) (v : Value) (l : List Nat) : Prop := w.ownsRow base 3 1 v l.length (l.map iv)

theorem Tryd.infoInt : (Tryd.prog.info? 3).map (fun i => (i.zero, i.size, i.bytes)) = some (some (.int .i64 0), 1, 8) := by kernel_rfl

theorem An.below {B : Nat} {w w' : World} {g : Nat} {l : List Nat} (h : An w g l) (hb : Below B w w') (hg : g < B) : An w' g l :=
  ⟨by have := hb.size; have := h.1; omega, fun i hi => (hb.cell (p := ⟨g, i, none⟩) hg).trans (h.2 i hi)⟩
theorem An.alloc {w : World} {g : Nat} {l : List Nat} (h : An w g l) (o : Obj) : An (w.alloc o) g l := h.below ((Below.refl _ _).alloc (Nat.le_refl _) o) h.1
theorem An.drew {w : World} {g : Nat} {l : List Nat} (h : An w g l) : An w.drew g l := h.below (Below.refl _ _).drew h.1
theorem An.new (w : World) (g : Nat) (l : List Nat) (t : TypeId) (a : Array Value) (ha : a = (l.map iv).toArray) (hg : g = w.heap.size) : An (w.alloc (.cells a t)) g l := by
  subst ha; subst hg
  refine ⟨by simp, fun i hi => ?_⟩
  rw [World.cell?_alloc_at _ _ _ _ rfl]
  simp [hi, iv]

theorem OwnN.below {B base : Nat} {w w' : World} {v : Value} {l : List Nat} (h : OwnN base w v l) (hb : Below B w w') (hB : w.heap.size ≤ B) : OwnN base w' v l := by
  refine ⟨h.1, ?_⟩
  rcases h.2 with h' | ⟨g, cap, cur, hv, hbb, hg, r⟩
  · exact .inl h'
  · refine .inr ⟨g, cap, cur, hv, hbb, ?_, r⟩
    have hlt : g < w.heap.size := (Array.getElem?_eq_some_iff.1 hg).1
    rw [hb.block g (by omega)]; exact hg
theorem OwnN.mono {base base' : Nat} {w : World} {v : Value} {l : List Nat} (h : OwnN base w v l) (hB : base' ≤ base) : OwnN base' w v l := by
  refine ⟨h.1, ?_⟩
  rcases h.2 with h' | ⟨g, cap, cur, hv, hbb, r⟩
  · exact .inl h'
  · exact .inr ⟨g, cap, cur, hv, by omega, r⟩
theorem OwnN.alloc {base : Nat} {w : World} {v : Value} {l : List Nat} (h : OwnN base w v l) (o : Obj) : OwnN base (w.alloc o) v l := World.ownsRow.alloc h o
theorem OwnN.drew {base : Nat} {w : World} {v : Value} {l : List Nat} (h : OwnN base w v l) : OwnN base w.drew v l := h
theorem own_nilN (w : World) (base : Nat) (h : base ≤ w.heap.size) : OwnN base (w.alloc (.cells #[] 3)) (.slice (some ⟨w.heap.size, 0, none⟩) 0 0) [] :=
  World.ownsRow_lit w #[] 0 h (by unfold maxLen; omega) (by simp)
theorem OwnN.open {base : Nat} {w : World} {v : Value} {l : List Nat} (h : OwnN base w v l) (hl : l ≠ []) : ∃ g cap, v = .slice (some ⟨g, 0, none⟩) l.length cap ∧ l.length ≤ cap ∧ cap ≤ maxLen ∧ base ≤ g ∧ An w g l ∧ ∀ i, w.frozen? ⟨g, i, none⟩ = false := by
  rcases h.2 with ⟨hv, hn⟩ | ⟨g, cap, cur, hv, hb, hg, hnc, hcm, hcs, ht⟩
  · exact absurd (List.length_eq_zero_iff.1 hn) hl
  · have h' : w.ownsRow base 3 1 (.slice (some ⟨g, 0, none⟩) l.length cap) l.length (l.map iv) := hv ▸ h
    refine ⟨g, cap, hv, hnc, hcm, hb, ⟨(Array.getElem?_eq_some_iff.1 hg).1, fun i hi => ?_⟩, fun i => h'.frozenAt i⟩
    rw [h'.cellAt i (by omega)]
    simp [hi, iv]
theorem OwnN.someOf {base : Nat} {w : World} {v : Value} {l : List Nat} (h : OwnN base w v l) : (v = .slice none 0 0 ∧ l = []) ∨ ∃ g cap, v = .slice (some ⟨g, 0, none⟩) l.length cap ∧ base ≤ g ∧ An w g l := by
  rcases h.2 with ⟨hv, hn⟩ | ⟨g, cap, cur, hv, hb, hg, hnc, hcm, hcs, ht⟩
  · exact .inl ⟨hv, List.length_eq_zero_iff.1 hn⟩
  · have h' : w.ownsRow base 3 1 (.slice (some ⟨g, 0, none⟩) l.length cap) l.length (l.map iv) := hv ▸ h
    refine .inr ⟨g, cap, hv, hb, ⟨(Array.getElem?_eq_some_iff.1 hg).1, fun i hi => ?_⟩⟩
    rw [h'.cellAt i (by omega)]
    simp [hi, iv]

theorem an_src {w : World} {g : Nat} {k : List Nat} (hrd : An w g k) (j : Nat) (u : Value) (hj : (k.map iv)[j]? = some u) : w.cell? ((⟨g, 0, none⟩ : Addr).add j) = some u := by
  have hj' : j < k.length := by have := (List.getElem?_eq_some_iff.1 hj).1; simpa using this
  have ea : (⟨g, 0, none⟩ : Addr).add j = ⟨g, j, none⟩ := by
    by_cases hz : j = 0
    · subst hz; simp [Addr.add]
    · simp [Addr.add, hz]
  rw [ea, hrd.2 j hj']
  simp [hj', iv] at hj
  rw [← hj]

theorem step_app_ownN {ops : Array Oper} {o : Oper} {a : Act} {w : World} {K : Act → World → Prop} {Q : Exit → Act → World → Prop} {E : Prop} (hgd : o.guard = none) (s x : Operand)
    (ho : o.op = .call { callee := .builtin .append, args := #[s, x], argTypes := #[61, 61] })
    (base g n cap : Nat) (v : Value) (l k : List Nat) (hs : a.eval s = v) (hx : a.eval x = .slice (some ⟨g, 0, none⟩) n cap) (hn : k.length = n) (hown : OwnN base w v l) (hrd : An w g k)
    (hlen : l.length + k.length ≤ 100000000) (hbase : base ≤ w.heap.size)
    (h : ∀ v' w', OwnN base w' v' (l ++ k) → Below base w w' → K (a.put o.dst v') w') : if Region.wanted o (yielded ops a.tmps) = true then Oper.wp Tryd.prog o a w K Q else E := by
  have hw : Region.wanted o (yielded ops a.tmps) = true := by simp [Region.wanted, hgd]
  rw [if_pos hw]
  subst hn
  obtain ⟨i0, hi, hz0, hz1, hz2⟩ := info_parts Tryd.infoInt
  have hbel : ∀ w', w.grownBy w' v.ownBlock → Below base w w' := fun w' hg => (Below.refl _ _).grown hg hbase (fun k hk => (World.ownsRow.lt hown k hk).1)
  refine wp_append_own w s x 61 ho base 3 i0 (.int .i64 0) 1 8 Tryd.underlying61 hi hz0 hz1 hz2 rfl (by decide) v l.length (l.map iv) hs hown ⟨g, 0, none⟩ k.length cap (k.map iv) hx (by simp) (fun j u hj => an_src hrd j u hj) ?_ (by unfold maxLen; omega) (by omega) hbase ?_
  · intro u hu
    obtain ⟨c, _, rfl⟩ := List.mem_map.1 hu
    rfl
  · intro v' w' ho' hg _
    exact h v' w' (by simpa [OwnN] using ho') (hbel w' hg)

theorem app_ownN {ops : Array Oper} {rest : List Oper} {o : Oper} {a : Act} {Q : Exit → Act → World → Prop} (w : World) (hgd : o.guard = none) (s x : Operand)
    (ho : o.op = .call { callee := .builtin .append, args := #[s, x], argTypes := #[61, 61] })
    (base g n cap : Nat) (v : Value) (l k : List Nat) (hs : a.eval s = v) (hx : a.eval x = .slice (some ⟨g, 0, none⟩) n cap) (hn : k.length = n) (hown : OwnN base w v l) (hrd : An w g k)
    (hlen : l.length + k.length ≤ 100000000) (hbase : base ≤ w.heap.size)
    (h : ∀ v' w', OwnN base w' v' (l ++ k) → Below base w w' → wpList Tryd.prog ops Q rest (a.put o.dst v') w') : wpList Tryd.prog ops Q (o :: rest) a w := by
  subst hn
  obtain ⟨i0, hi, hz0, hz1, hz2⟩ := info_parts Tryd.infoInt
  have hbel : ∀ w', w.grownBy w' v.ownBlock → Below base w w' := fun w' hg => (Below.refl _ _).grown hg hbase (fun k hk => (World.ownsRow.lt hown k hk).1)
  refine wpList_append_own w hgd s x 61 ho base 3 i0 (.int .i64 0) 1 8 Tryd.underlying61 hi hz0 hz1 hz2 rfl (by decide) v l.length (l.map iv) hs hown ⟨g, 0, none⟩ k.length cap (k.map iv) hx (by simp) (fun j u hj => an_src hrd j u hj) ?_ (by unfold maxLen; omega) (by omega) hbase ?_
  · intro u hu
    obtain ⟨c, _, rfl⟩ := List.mem_map.1 hu
    rfl
  · intro v' w' ho' hg _
    exact h v' w' (by simpa [OwnN] using ho') (hbel w' hg)
end Go.Proofs.YtdelegamcebflaaDoor

namespace Go.Proofs.YtdelegamcebflaaDoor
open Go.RowKit
set_option linter.unusedVariables false

theorem run_app_keepN (w : World) (ty : TypeId) (base g gx n cx cap : Nat) (l k : List Nat) (hn : k.length = n) (hown : OwnN base w (.slice (some ⟨g, 0, none⟩) l.length cap) l) (hrd : An w gx k)
    (hlen : l.length + k.length ≤ 100000000) (hbase : base ≤ w.heap.size) :
    ∃ v' w', (Builtin.append_ #[61, 61] ty #[.slice (some ⟨g, 0, none⟩) l.length cap, .slice (some ⟨gx, 0, none⟩) n cx]).run Tryd.prog w = .ok v' w' ∧ OwnN base w' v' (l ++ k) ∧ Below base w w' ∧ An w' g l := by
  subst hn
  obtain ⟨i0, hi, hz0, hz1, hz2⟩ := info_parts Tryd.infoInt
  have hone : ∀ u ∈ k.map iv, u.oneCell' = true := by
    intro u hu
    obtain ⟨c, _, rfl⟩ := List.mem_map.1 hu
    rfl
  obtain ⟨v', w', hr, ho, hg, _⟩ := run_append_own (P := Tryd.prog) w base 61 ty 3 i0 (.int .i64 0) 1 8 Tryd.underlying61 hi hz0 hz1 hz2 rfl (by decide) _ l.length (l.map iv) hown ⟨gx, 0, none⟩ k.length cx (k.map iv) (by simp) (fun j u hj => an_src hrd j u hj) hone (by unfold maxLen; omega) (by omega) hbase
  have ho' : OwnN base w' v' (l ++ k) := by simpa [OwnN] using ho
  refine ⟨v', w', hr, ho', (Below.refl _ _).grown hg hbase (fun k hk => (World.ownsRow.lt hown k hk).1), ?_⟩
  rcases hown.2 with ⟨hv, _⟩ | ⟨g', cap', cur, hv, hbg, hgc, hnc, hcm, hcs, htake⟩
  · simp at hv
  · simp only [Value.slice.injEq, Option.some.injEq, Addr.mk.injEq, and_true, true_and] at hv
    obtain ⟨rfl, rfl⟩ := hv
    have hgl : g < w.heap.size := (Array.getElem?_eq_some_iff.1 hgc).1
    by_cases hroom : l.length + k.length ≤ cap
    · have hr2 := run_append_room (P := Tryd.prog) w 61 ty 3 i0 Tryd.underlying61 hi g l.length cap cur hgc ⟨gx, 0, none⟩ k.length cx (k.map iv) (by simp [hz1]) (fun j u hj => an_src hrd j u hj) hone hroom (by simp [hz1, hcs]; omega)
      rw [hr] at hr2
      injection hr2 with e1 e2
      subst e1
      refine ⟨by have := hg.size; omega, fun i hi' => ?_⟩
      have h' : w'.ownsRow base 3 1 (.slice (some ⟨g, 0, none⟩) (l.length + k.length) cap) (l.length + k.length) ((l ++ k).map iv) := by simpa using ho
      rw [h'.cellAt i (by omega)]
      simp [iv, List.getElem?_append_left, hi']
    · have holds : ∀ j u, (l.map iv)[j]? = some u → w.cell? ((⟨g, 0, none⟩ : Addr).add j) = some u := World.ownsRow.cells hown (g := g) rfl
      have hr2 := run_append_grow (P := Tryd.prog) w 61 ty 3 i0 (.int .i64 0) Tryd.underlying61 hi hz0 ⟨g, 0, none⟩ l.length cap (l.map iv) (by simp [hz1]) holds ⟨gx, 0, none⟩ k.length cx (k.map iv) (by simp [hz1]) (fun j u hj => an_src hrd j u hj) (by omega) (by omega) (growslice_fits (by omega) (by rw [hz2]; omega))
      rw [hr] at hr2
      injection hr2 with e1 e2
      subst e2
      refine An.below (B := w.heap.size) ⟨hgl, fun i hi' => ?_⟩ ((Below.refl _ _).drew.alloc (Nat.le_refl _) _) hgl
      rw [World.ownsRow.cellAt hown i (by omega)]
      simp [hi', iv]

theorem step_app_keepN {ops : Array Oper} {o : Oper} {a : Act} {w : World} {K : Act → World → Prop} {Q : Exit → Act → World → Prop} {E : Prop} (hgd : o.guard = none) (s x : Operand)
    (ho : o.op = .call { callee := .builtin .append, args := #[s, x], argTypes := #[61, 61] })
    (base g m cap gx n cx : Nat) (l k : List Nat) (hs : a.eval s = .slice (some ⟨g, 0, none⟩) m cap) (hm : l.length = m) (hx : a.eval x = .slice (some ⟨gx, 0, none⟩) n cx) (hn : k.length = n) (hown : OwnN base w (.slice (some ⟨g, 0, none⟩) m cap) l) (hrd : An w gx k)
    (hlen : l.length + k.length ≤ 100000000) (hbase : base ≤ w.heap.size)
    (h : ∀ v' w', OwnN base w' v' (l ++ k) → Below base w w' → An w' g l → K (a.put o.dst v') w') : if Region.wanted o (yielded ops a.tmps) = true then Oper.wp Tryd.prog o a w K Q else E := by
  have hw : Region.wanted o (yielded ops a.tmps) = true := by simp [Region.wanted, hgd]
  rw [if_pos hw]
  subst hm
  obtain ⟨v', w', hr, h1, h2, h3⟩ := run_app_keepN w o.type base g gx n cx cap l k hn hown hrd hlen hbase
  unfold Oper.wp execOp
  simp only [ho, resolve, invoke, builtin, Sem.run_bind, Sem.run_pure, Result.andThen_ok, List.map_toArray, List.map_cons, List.map_nil, hs, hx, hr]
  exact h v' w' h1 h2 h3
end Go.Proofs.YtdelegamcebflaaDoor
