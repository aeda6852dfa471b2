/- slices.Insert of a block into a row of blocks of the call's own. -/
import Derived.Test.YtbjeonnaannofaaZdAdCode
namespace Go.Proofs.Ytbjeonnaannofaa
open Go.RowKit
set_option linter.unusedVariables false

theorem flat_takeK : ∀ (Z : List (Bk × Bv)) (k : Nat), (Z.map bkP).flatten.take (k * 14) = ((Z.take k).map bkP).flatten
  | [], k => by simp
  | t :: l, 0 => by simp
  | t :: l, k + 1 => by
    rw [List.map_cons, List.flatten_cons, List.take_succ_cons, List.map_cons, List.flatten_cons, ← flat_takeK l k, List.take_append, List.take_of_length_le (show (bkP t).length ≤ (k + 1) * 14 by show 14 ≤ _; omega)]
    congr 2
    show (k + 1) * 14 - 14 = _
    omega
theorem flat_dropK : ∀ (Z : List (Bk × Bv)) (k : Nat), (Z.map bkP).flatten.drop (k * 14) = ((Z.drop k).map bkP).flatten
  | [], k => by simp
  | t :: l, 0 => by simp
  | t :: l, k + 1 => by
    rw [List.map_cons, List.flatten_cons, List.drop_succ_cons, ← flat_dropK l k, List.drop_append, List.drop_eq_nil_of_le (show (bkP t).length ≤ (k + 1) * 14 by show 14 ≤ _; omega), List.nil_append]
    congr 1
    show (k + 1) * 14 - 14 = _
    omega
/-- The same pairs in another order. -/
theorem Kvs.along {base : Nat} {w : World} {g : Nat} {Y Z : List (Bk × Bv)} (h : Kvs base w g Y) (σ : Nat → Nat) (hσ : ∀ i (hi : i < Z.length), ∃ hj : σ i < Y.length, Z[i] = Y[σ i]) (inj : ∀ i j, i < Z.length → j < Z.length → σ i = σ j → i = j) : Kvs base w g Z := by
  refine ⟨fun i hi => ?_, fun i hi => ?_, fun i hi k hk => ?_, fun i j hi hj hij k hk => ?_⟩
  · obtain ⟨hj, e⟩ := hσ i hi; rw [e]; exact h.own _ hj
  · obtain ⟨hj, e⟩ := hσ i hi; rw [e]; exact h.far _ hj
  · obtain ⟨hj, e⟩ := hσ i hi; rw [e] at hk ⊢; exact h.inner _ hj k hk
  · obtain ⟨h1, e1⟩ := hσ i hi
    obtain ⟨h2, e2⟩ := hσ j hj
    rw [e1] at hk
    rw [e2]
    exact h.apart _ _ h1 h2 (fun e => hij (inj i j hi hj e)) k hk
theorem one_row {base : Nat} {w : World} {g : Nat} {Z : List (Bk × Bv)} (h : Kvs base w g Z) : ∀ u ∈ (Z.map bkP).flatten, u.oneCell' = true := fun u hu => by
  obtain ⟨c, hc, hu⟩ := List.mem_flatten.1 hu
  obtain ⟨q, hq, rfl⟩ := List.mem_map.1 hc
  obtain ⟨i, hi, rfl⟩ := List.mem_iff_getElem.1 hq
  exact List.all_eq_true.1 (bkC_one (h.own i hi).rd) u hu
/-- slices.Insert: the block b, in a block of its own, whose lists were made since the row was, comes in at the place k. -/
theorem insertK_any (w1 w : World) (base k G : Nat) (v : Value) (l : List Bk) (b : Bk) (bv : Bv) (hown : OwnKs base w1 v l) (hb1 : Below w1.heap.size w1 w) (hblk : Blk w G 37 (bkC b bv)) (hG : w1.heap.size ≤ G)
    (hob : OwnK w1.heap.size w b bv) (hin : ∀ k, bv.q.ownBlock = some k → bv.w.ownBlock ≠ some k) (hk : k ≤ l.length) (hlen : l.length ≤ 3999999) (hbase : base ≤ w1.heap.size) :
    Calls Try.prog 49 #[v, .int .i64 (k : Int), .slice (some ⟨G, 0, none⟩) 1 1] w fun e w' => ∃ v', e = .returned v' ∧ OwnKs base w' v' (insK k b l) ∧ Below base w w' := by
  obtain ⟨g, cap, Z, hZ, rfl, hrow, hkv⟩ := hown
  have hZl : Z.length = l.length := by rw [← hZ]; simp
  have hg := World.ownsRow.lt hrow g rfl
  have hsz := hb1.size
  have hk2 := hkv.below hb1 (Nat.le_refl _)
  have hrow2 := row_below hrow hb1 (Nat.le_refl _)
  have hlt : ∀ i (hi : i < Z.length) q, Z[i].2.has q → q < w1.heap.size := fun i hi q h => ((hkv.own i hi).in9 q h).2
  have hbx : ∀ q, bv.has q → w1.heap.size ≤ q ∧ q < w.heap.size := fun q h => hob.in9 q h
  have h1v : ∀ u ∈ bkC b bv, u.oneCell' = true := List.all_eq_true.1 (bkC_one hob.rd)
  have fin : ∀ (v' : Value) (w' : World), w'.ownsRow base 37 14 v' (l.length + 1) ((Z.map bkP).flatten.take (k * 14) ++ bkC b bv ++ (Z.map bkP).flatten.drop (k * 14)) → w.grownBy w' (some g) → (v'.ownBlock = some g ∨ v'.ownBlock = some w.heap.size) → OwnKs base w' v' (insK k b l) ∧ Below base w w' := by
    intro v' w' ho' hgr hl
    refine ⟨?_, (Below.refl _ _).grown hgr (by omega) (fun q hq => by cases hq; exact hg.1)⟩
    rcases ho'.2 with ⟨-, h0⟩ | ⟨g', cap', cur, hv', -⟩
    · omega
    · subst hv'
      have hcase : g' = g ∨ g' = w.heap.size := by
        rcases hl with e | e
        · exact .inl (by simpa [Value.ownBlock] using e)
        · exact .inr (by simpa [Value.ownBlock] using e)
      have hk3 : Kvs base w' g' Z := by
        refine ⟨fun i hi => (hk2.own i hi).grown9 hgr (hk2.far i hi), fun i hi => ?_, hk2.inner, hk2.apart⟩
        rcases hcase with rfl | rfl
        · exact hk2.far i hi
        · exact fun e => by have := hlt i hi _ e; omega
      have ho3 : OwnK base w' b bv := (hob.mono9 hbase).grown9 hgr (fun e => by have := (hbx g e).1; omega)
      have hk4 : Kvs base w' g' (Z ++ [(b, bv)]) := hk3.snoc (b, bv) ho3 (fun e => by
        have := hbx g' e
        rcases hcase with rfl | rfl <;> omega) hin (fun i hi q h1 h2 => by have := hlt i hi q h1; have := (hbx q h2).1; omega)
      have hlenZ : (Z.take k ++ (b, bv) :: Z.drop k).length = Z.length + 1 := by
        rw [List.length_append, List.length_cons, List.length_take, List.length_drop]; omega
      have hk5 : Kvs base w' g' (Z.take k ++ (b, bv) :: Z.drop k) := hk4.along (fun i => if i < k then i else if i = k then Z.length else i - 1) (fun i hi => by
        rw [hlenZ] at hi
        by_cases h1 : i < k
        · refine ⟨by simp [h1]; omega, ?_⟩
          simp only [h1, if_true]
          rw [List.getElem_append_left (by rw [List.length_take]; omega), List.getElem_append_left (by omega), List.getElem_take]
        · by_cases h2 : i = k
          · subst h2
            refine ⟨by simp, ?_⟩
            simp only [Nat.lt_irrefl, if_false, if_true]
            rw [List.getElem_append_right (by rw [List.length_take]; omega)]
            have e : i - min i Z.length = 0 := by omega
            simp [e]
          · refine ⟨by simp [h1, h2]; omega, ?_⟩
            simp only [h1, h2, if_false]
            have e : i - (Z.take k).length = (i - 1 - k) + 1 := by rw [List.length_take]; omega
            rw [List.getElem_append_right (by rw [List.length_take]; omega), List.getElem_append_left (by omega)]
            simp only [e, List.getElem_cons_succ, List.getElem_drop]
            congr 1
            omega) (fun i j hi hj e => by
        rw [hlenZ] at hi hj
        split at e <;> split at e <;> (try split at e) <;> (try split at e) <;> omega)
      have hil : (insK k b l).length = l.length + 1 := insK_len
      refine ⟨g', cap', Z.take k ++ (b, bv) :: Z.drop k, ?_, by rw [hil], ?_, hk5⟩
      · unfold insK
        rw [← hZ, List.map_append, List.map_cons, List.map_take, List.map_drop]
      · rw [hil, List.map_append, List.flatten_append, List.map_cons, List.flatten_cons, ← flat_takeK, ← flat_dropK, ← List.append_assoc]
        exact ho'
  by_cases hkl : k = l.length
  · subst hkl
    refine (insBlock_end base l.length G _ _ _ w hrow2 hblk rfl h1v (by omega) (by omega)).mono ?_
    rintro e w' ⟨v', rfl, o, gr, hl⟩
    refine ⟨v', rfl, fin v' w' ?_ gr hl⟩
    rw [List.take_of_length_le (by rw [hrow2.1]; exact Nat.le_refl _), List.drop_eq_nil_of_le (by rw [hrow2.1]; exact Nat.le_refl _), List.append_nil]
    exact o
  · have hne : G ≠ g := by omega
    by_cases hr : l.length + 1 ≤ cap
    · refine (insBlock_room base g l.length cap k G _ _ w hrow2 hblk hne rfl h1v (one_row hk2) (by omega) (by omega) hr).mono ?_
      rintro e w' ⟨v', rfl, o, gr, hl⟩
      exact ⟨v', rfl, fin v' w' o gr hl⟩
    · refine (insBlock_grow base g l.length cap k G _ _ w hrow2 hblk rfl h1v (one_row hk2) (by omega) (by omega) (by omega) (by omega)).mono ?_
      rintro e w' ⟨v', rfl, o, gr, hl⟩
      exact ⟨v', rfl, fin v' w' o gr hl⟩
end Go.Proofs.Ytbjeonnaannofaa
