/- The landed code's set of signatures. -/
import Derived.Test.YtkidfkngehcjgaaZsSgBook
import Derived.Test.YtkidfkngehcjgaaZsSgImplC
namespace Go.Proofs.Ytkidfkngehcjgaa
open Go.RowKit Go.Maps
set_option linter.unusedVariables false
set_option linter.unusedSimpArgs false

theorem turned_belowS {w w' : World} {b B : Nat} (h : w.mapTurned w' b) (hB : B ≤ b) (hs : B ≤ w.heap.size) : Below B w w' := (Below.refl _ _).grown h.grown hs (fun j hj => by cases hj; exact hB)
theorem run_makeS (n : Int) (w : World) : (Instr.makeMap 58 (some (.int .i64 n))).run Try.prog w = .ok (.map (some w.heap.size)) (w.alloc (.map #[] 0)) := by
  simp [Instr.makeMap, run_underlying Try.underlying58, asInt, asIntOf, Result.andThen]
/-- The set of the signatures l. -/
def setS (l : List Sg) : DataW Value := setOf (.agg []) (l.map kyS)
theorem setS_snoc (l : List Sg) (i : Nat) (h : i < l.length) : setS (l.take (i + 1)) = (setS (l.take i)).put (kyS l[i]) (.agg []) := by
  unfold setS
  rw [List.take_succ_eq_append_getElem h, List.map_append]
  exact setOf_snoc _ _ _
/-- It is among them. -/
def inS (l : List Sg) (s : Sg) : Bool := l.any (fun x => decide (x = s))
theorem inS_mem {l : List Sg} {s : Sg} : inS l s = true ↔ s ∈ l := by
  unfold inS
  rw [List.any_eq_true]
  constructor
  · rintro ⟨x, hx, h⟩
    rw [← of_decide_eq_true h]
    exact hx
  · exact fun h => ⟨s, h, decide_eq_true rfl⟩
theorem setS_has {l : List Sg} {s : Sg} (hl : ∀ x ∈ l, WfS x) (hs : WfS s) : has (setS l) (kyS s) = inS l s := by
  unfold setS
  rw [has_setOf _ _ _ (fun x hx => by obtain ⟨y, hy, rfl⟩ := List.mem_map.1 hx; exact ky_key (hl y hy))]
  by_cases h : s ∈ l
  · rw [inS_mem.2 h, List.any_eq_true]
    exact ⟨kyS s, List.mem_map.2 ⟨s, h, rfl⟩, by unfold kyS; simp [Lit.sameKey]⟩
  · rw [show inS l s = false by cases hb : inS l s with | false => rfl | true => exact absurd (inS_mem.1 hb) h, List.any_eq_false]
    intro x hx
    obtain ⟨y, hy, rfl⟩ := List.mem_map.1 hx
    have hne : kyS y ≠ kyS s := fun e => h (by rw [← ky_inj (hl y hy) hs e]; exact hy)
    rw [sameKey_ne hne]
    simp
theorem bookS_below {B : Nat} {w w' : World} {b n : Nat} {D : DataW Value} (h : w.ownsMap Try.prog 44 unitElem b n D) (hb : Below B w w') (hB : b < B) : w'.ownsMap Try.prog 44 unitElem b n D := by
  obtain ⟨es, clock, h1, r⟩ := h
  exact ⟨es, clock, (hb.block b hB).trans h1, r⟩
set_option maxRecDepth 20000 in
set_option maxHeartbeats 2000000 in
theorem implBook_any (v : Value) (l : List Sg) (w : World) (hr : RdSg w v l) (hl : l.length ≤ 50000000) (hwf : ∀ s ∈ l, WfS s) :
    Calls Try.prog 20 #[v] w fun e w' => e = .returned (.map (some w.heap.size)) ∧ w'.ownsMap Try.prog 44 (unitElem (H := Value)) w.heap.size l.length (setS l) ∧ Below w.heap.size w w' := by
  have hmm := run_makeS
  obtain ⟨a, cap, rfl⟩ := hr.shape
  have hB0 : Hid (Below w.heap.size w (w.alloc (.map #[] 0))) := hide ((Below.refl _ w).alloc (Nat.le_refl _) _)
  have hm0 : Hid ((w.alloc (.map #[] 0)).ownsMap Try.prog 44 (unitElem (H := Value)) w.heap.size 0 (setS [])) := hide (World.ownsMap_made _ _ _ _)
  have Hr := hide hr
  have Hwf := hide hwf
  clear hr hwf
  go_enter Try.func20, Try.ntmps20
  go_wp2
  go_loopw [11] (fun iv wr => ∃ (i : Nat), i ≤ l.length ∧ iv = .int .i64 (i : Int) ∧ wr.ownsMap Try.prog 44 (unitElem (H := Value)) w.heap.size i (setS (l.take i)) ∧ Below w.heap.size w wr) (fun iv _ => l.length - (intOf iv).toNat)
  case atStart => exact ⟨0, Nat.zero_le _, rfl, hm0.out, hB0.out⟩
  case round =>
    obtain ⟨i, hi, rfl, ho, hb⟩ := hrel
    clear hm0 hB0
    by_cases hlt : i < l.length
    · have hli : (i : Int) < (l.length : Int) := by omega
      obtain ⟨b, off, rfl, hc1, hc2, hbw, hat⟩ := (Hr.out.below hb (Nat.le_refl _)).at hlt
      obtain ⟨c0, c1, c2, c3, c4⟩ := hat
      have hw := Hwf.out l[i] (List.getElem_mem hlt)
      have Hsn := hide (setS_snoc l i hlt)
      generalize hs : l[i] = s at c0 c1 c2 c3 c4 hw Hsn
      obtain ⟨k, e, r, x, m⟩ := s
      simp only at c0 c1 c2 c3 c4
      have hky := ky_of hw
      simp only [sgV] at hky
      generalize kyS (k, e, r, x, m) = ky at hky Hsn
      have hwl : w.heap.size < wr.heap.size := ho.lt
      obtain ⟨w1, hw1⟩ : ∃ y, wr.alloc (.cells #[.int .i64 k, .int .i64 e, .int .i64 r, .int .i64 x, .string m] 44) = y := ⟨_, rfl⟩
      have b1 : Below wr.heap.size wr w1 := by rw [← hw1]; exact (Below.refl _ wr).alloc (Nat.le_refl _) _
      have k1 : Blk w1 wr.heap.size 44 [.int .i64 k, .int .i64 e, .int .i64 r, .int .i64 x, .string m] := by rw [← hw1]; exact Blk.new wr _ _
      have d0 := k1.cell 0
      have d1 := k1.cell 1
      have d2 := k1.cell 2
      have d3 := k1.cell 3
      have d4 := k1.cell 4
      simp only [List.getElem?_cons_zero, List.getElem?_cons_succ] at d0 d1 d2 d3 d4
      have O1 := hide (bookS_below ho b1 hwl)
      have B1 := hide (hb.trans (b1.mono hb.size))
      have Hky := hide hky
      clear ho hb b1 k1 hw hky
      go_wp2_with (at_mapUpdate; refine wpList_mapUpdate_in _ rfl _ _ _ 58 rfl 44 60 sg_law Try.underlying58 unitElem w.heap.size i (setS (l.take i)) rfl O1.out (by unfold maxLen; omega) (.agg #[.int .i64 k, .int .i64 e, .int .i64 r, .int .i64 x, .string m]) (.agg #[]) ky rfl rfl Hky.out (.agg []) [] unitElem_mk ?_; intro w2 ho2 ht2)
      have b2 : Below w.heap.size w1 w2 := turned_belowS ht2 (Nat.le_refl _) (by have := B1.out.size; omega)
      go_roundw
      case rel => exact ⟨i + 1, by omega, by go_num, by rw [Hsn.out]; exact ho2, B1.out.trans b2⟩
      case measure => simp [intOf]; omega
    · have ei : i = l.length := by omega
      subst ei
      rw [List.take_length] at ho
      go_wp2
      go_ret
      exact ⟨rfl, ho, hb⟩
end Go.Proofs.Ytkidfkngehcjgaa
