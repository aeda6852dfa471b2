/- The model's Credit. The laws' marks on accounts: each is written over by numbers of its own; nothing else turns. -/
import Derived.Test.YtljeklmopjkjjaaGreatZnAcWith
import Derived.Test.YtljeklmopjkjjaaGreatZnAcMem
namespace Go.Proofs.YtljeklmopjkjjaaGreat
open Go.RowKit
set_option linter.unusedVariables false

theorem crA_no {l : List Ac} {s : ByteArray} {n : Int} (h : (acsB l && nmB s && inB n 0 1000000) = false) : crA l s n = (l, false) := by unfold crA; rw [h]; rfl
theorem crA_bad {l : List Ac} {s : ByteArray} {n : Int} (h : (acsB l && nmB s && inB n 0 1000000) = true) (h' : acsB (insA (aftA l s n) l) = false) : crA l s n = (l, false) := by unfold crA; rw [h, h']; rfl
theorem crA_yes {l : List Ac} {s : ByteArray} {n : Int} (h : (acsB l && nmB s && inB n 0 1000000) = true) (h' : acsB (insA (aftA l s n) l) = true) : crA l s n = (insA (aftA l s n) l, true) := by unfold crA; rw [h, h']; rfl
theorem set_tl (Z : List (Ac × Value)) (k : Nat) (q : Ac × Value) (hk : k < Z.length) (h : tlZ q = tlZ Z[k]) : (Z.set k q).map tlZ = Z.map tlZ := by
  apply List.ext_getElem (by simp)
  intro i h1 h2
  simp only [List.getElem_map, List.getElem_set]
  by_cases e : k = i
  · subst e; simp [h]
  · simp [e]
theorem OwnA.mono {base base' : Nat} {w : World} {v : Value} {l : List Ac} (h : OwnA base w v l) (hB : base' ≤ base) : OwnA base' w v l := by
  obtain ⟨g, cap, Z, h1, h2, h3, h4⟩ := h
  refine ⟨g, cap, Z, h1, h2, ⟨h3.1, ?_⟩, h4.mono hB⟩
  rcases h3.2 with h' | ⟨g', cap', cur, hv, hbb, r⟩
  · exact .inl h'
  · exact .inr ⟨g', cap', cur, hv, by omega, r⟩
theorem fst_at {Z : List (Ac × Value)} {L : List Ac} {k : Nat} (hZ : Z.map (·.1) = L) (hk : k < L.length) : (Z[k]'(by rw [← hZ] at hk; simpa using hk)).1 = L[k] := by subst hZ; simp
/-- n more are free at the place k of a row. -/
theorem up_row {base : Nat} {w : World} {g cap : Nat} {Z : List (Ac × Value)} {L : List Ac} {s : ByteArray} {n : Int} {k : Nat} (hZ : Z.map (·.1) = L) (hk : k < L.length) (he : L[k].1 = s) (hn : ∀ j (hj : j < k), (L[j]'(by omega)).1 ≠ s)
    (hrow : w.ownsRow base 155 5 (.slice (some ⟨g, 0, none⟩) L.length cap) L.length (Z.map acC).flatten) (hlv : Lvs base w g Z) :
    OwnA base (w.setCell ⟨g, k * 5 + 1, none⟩ (.int .i64 (wrap64 (L[k].2.1 + n)))) (.slice (some ⟨g, 0, none⟩) L.length cap) (upA s n L) := by
  have hZl : Z.length = L.length := by rw [← hZ]; simp
  have hZk : (Z[k]'(by omega)).1 = L[k] := by subst hZ; simp
  have hst := (hrow.stored (k * 5 + 1) (.int .i64 (wrap64 (L[k].2.1 + n)))).1
  have e : (Z.map acC).flatten.set (k * 5 + 1) (.int .i64 (wrap64 (L[k].2.1 + n))) = ((Z.set k ((L[k].1, wrap64 (L[k].2.1 + n), L[k].2.2), (Z[k]'(by omega)).2)).map acC).flatten := by
    rw [flat_set 5 _ (Z.map acC) k 1 (by simp; omega) (acM_sz Z) (by omega), List.map_set]
    congr 2
    simp [acC, hZk]
  rw [e] at hst
  have hup := upA_set s n L k hk he hn
  have hm : (Z.set k ((L[k].1, wrap64 (L[k].2.1 + n), L[k].2.2), (Z[k]'(by omega)).2)).map (·.1) = upA s n L := by rw [hup, List.map_set, hZ]
  refine ⟨g, cap, _, hm, by rw [upA_len], by rw [upA_len]; exact hst, ((hlv.set _ _).same ?_)⟩
  exact set_tl Z k _ (by omega) (by unfold tlZ; simp [hZk])
end Go.Proofs.YtljeklmopjkjjaaGreat

namespace Go.Proofs.YtljeklmopjkjjaaGreat
open Go.RowKit
set_option linter.unusedVariables false

/-- At most the blocks from lo tO hi of those that were there have turned. -/
structure Btw (lo hi : Nat) (w w' : World) : Prop where
  os : w'.os = w.os
  tape : w'.tape = w.tape
  output : w'.output = w.output
  size : w.heap.size ≤ w'.heap.size
  block : ∀ k, k < w.heap.size → (k < lo ∨ hi ≤ k) → w'.heap[k]? = w.heap[k]?
theorem Btw.refl (lo hi : Nat) (w : World) : Btw lo hi w w := ⟨rfl, rfl, rfl, Nat.le_refl _, fun _ _ _ => rfl⟩
theorem Btw.trans {lo hi : Nat} {a b c : World} (h : Btw lo hi a b) (k : Btw lo hi b c) : Btw lo hi a c :=
  ⟨k.os.trans h.os, k.tape.trans h.tape, k.output.trans h.output, Nat.le_trans h.size k.size, fun i hi' ho => (k.block i (Nat.lt_of_lt_of_le hi' h.size) ho).trans (h.block i hi' ho)⟩
theorem Btw.of_below {lo hi : Nat} {w w' : World} (h : Below w.heap.size w w') : Btw lo hi w w' := ⟨h.os, h.tape, h.output, h.size, fun k hk _ => h.block k hk⟩
theorem Btw.of_grown {lo hi : Nat} {w w' : World} {row : Option Nat} (h : w.grownBy w' row) (hr : ∀ k, row = some k → lo ≤ k ∧ k < hi) : Btw lo hi w w' :=
  ⟨h.os, h.tape, h.output, h.size, fun k hk ho => h.block k hk (fun e => by have := hr k e.symm; omega)⟩
theorem Btw.below {lo hi B : Nat} {w w' : World} (h : Btw lo hi w w') (hB : B ≤ lo) (hs : B ≤ w.heap.size) : Below B w w' :=
  ⟨h.os, h.tape, h.output, h.size, fun k hk => h.block k (by omega) (.inl (by omega))⟩
theorem row_btw {lo hi base : Nat} {w w' : World} {e : TypeId} {size : Nat} {v : Value} {n : Nat} {xs : List Value} (h : w.ownsRow base e size v n xs) (hb : Btw lo hi w w') (hn : ∀ k, v.ownBlock = some k → k < lo ∨ hi ≤ k) : w'.ownsRow base e size v n xs := by
  refine ⟨h.1, ?_⟩
  rcases h.2 with h' | ⟨g, cap, cur, hv, hbb, hg, r⟩
  · exact .inl h'
  · refine .inr ⟨g, cap, cur, hv, hbb, ?_, r⟩
    have hlt : g < w.heap.size := (Array.getElem?_eq_some_iff.1 hg).1
    rw [hb.block g hlt (hn g (by rw [hv]; rfl))]
    exact hg

/-- Accounts of the call's own, all of whose blocks lie from base tO hi. -/
def OwnX (base hi : Nat) (w : World) (v : Value) (l : List Ac) : Prop :=
  ∃ (g cap : Nat) (Z : List (Ac × Value)), Z.map (·.1) = l ∧ v = .slice (some ⟨g, 0, none⟩) l.length cap ∧ w.ownsRow base 155 5 v l.length (Z.map acC).flatten ∧ Lvs base w g Z ∧ g < hi ∧ ∀ q ∈ Z, ∀ k, q.2.ownBlock = some k → k < hi
theorem OwnA.ox {base : Nat} {w : World} {v : Value} {l : List Ac} (h : OwnA base w v l) : OwnX base w.heap.size w v l := by
  obtain ⟨g, cap, Z, h1, rfl, h3, h4⟩ := h
  exact ⟨g, cap, Z, h1, rfl, h3, h4, (World.ownsRow.lt h3 g rfl).2, fun q hq k hk => by
    obtain ⟨i, hi, rfl⟩ := List.mem_iff_getElem.1 hq
    exact (h4.own i hi).lt k hk⟩
theorem OwnX.own {base hi : Nat} {w : World} {v : Value} {l : List Ac} (h : OwnX base hi w v l) : OwnA base w v l := by
  obtain ⟨g, cap, Z, h1, h2, h3, h4, _⟩ := h
  exact ⟨g, cap, Z, h1, h2, h3, h4⟩
theorem OwnX.rd {base hi : Nat} {w : World} {v : Value} {l : List Ac} (h : OwnX base hi w v l) : RdA w v l := h.own.rd
theorem OwnX.below {B base hi : Nat} {w w' : World} {v : Value} {l : List Ac} (h : OwnX base hi w v l) (hb : Below B w w') (hB : w.heap.size ≤ B) : OwnX base hi w' v l := by
  obtain ⟨g, cap, Z, h1, h2, h3, h4, h5, h6⟩ := h
  exact ⟨g, cap, Z, h1, h2, row_below h3 hb hB, h4.below hb hB, h5, h6⟩
theorem OwnX.btw {lo hi' base hi : Nat} {w w' : World} {v : Value} {l : List Ac} (h : OwnX base hi w v l) (hb : Btw lo hi' w w') (hd : hi ≤ lo ∨ hi' ≤ base) : OwnX base hi w' v l := by
  obtain ⟨g, cap, Z, h1, rfl, h3, h4, h5, h6⟩ := h
  have hg := (World.ownsRow.lt h3 g rfl).1
  refine ⟨g, cap, Z, h1, rfl, row_btw h3 hb (fun k hk => by have : g = k := by simpa [Value.ownBlock] using hk
                                                            subst this; omega), ⟨fun i hi => row_btw (h4.own i hi) hb (fun k hk => ?_), h4.far, h4.apart⟩, h5, h6⟩
  have := (h4.own i hi).ge k hk
  have := h6 _ (List.getElem_mem hi) k hk
  omega

/-! What is marked, as plain data. -/
def mkL (k n : Nat) : List (Int × Int) := (List.range n).map (fun i => (((k + 2 * i : Nat) : Int), ((k + 2 * i + 1 : Nat) : Int)))
theorem mkL_len (k n : Nat) : (mkL k n).length = n := by simp [mkL]
theorem mkL_at (k n j : Nat) (h : j < (mkL k n).length) : (mkL k n)[j] = (((k + 2 * j : Nat) : Int), ((k + 2 * j + 1 : Nat) : Int)) := by simp [mkL]
def mkA (k : Nat) (a : Ac) : Ac := (mtx k, ((k + 1 : Nat) : Int), ((k + 2 : Nat) : Int), ((k + 3 : Nat) : Int), mkL (k + 4) a.2.2.2.2.length)
def nx (k : Nat) (a : Ac) : Nat := k + 4 + 2 * a.2.2.2.2.length
def mkAs : Nat → List Ac → List Ac
  | _, [] => []
  | k, a :: t => mkA k a :: mkAs (nx k a) t
def nxs : Nat → List Ac → Nat
  | k, [] => k
  | k, a :: t => nxs (nx k a) t
def mkZ : Nat → List (Ac × Value) → List (Ac × Value)
  | _, [] => []
  | k, q :: t => (mkA k q.1, q.2) :: mkZ (nx k q.1) t
theorem mkZ_fst : ∀ (k : Nat) (Z : List (Ac × Value)), (mkZ k Z).map (·.1) = mkAs k (Z.map (·.1))
  | _, [] => rfl
  | k, q :: t => by simp [mkZ, mkAs, mkZ_fst]
theorem mkZ_snd : ∀ (k : Nat) (Z : List (Ac × Value)), (mkZ k Z).map (·.2) = Z.map (·.2)
  | _, [] => rfl
  | k, q :: t => by simp [mkZ, mkZ_snd]
theorem mkZ_len : ∀ (k : Nat) (Z : List (Ac × Value)), (mkZ k Z).length = Z.length
  | _, [] => rfl
  | k, q :: t => by simp [mkZ, mkZ_len]
theorem mkAs_len : ∀ (k : Nat) (l : List Ac), (mkAs k l).length = l.length
  | _, [] => rfl
  | k, q :: t => by simp [mkAs, mkAs_len]
theorem mkZ_snoc : ∀ (k : Nat) (A : List (Ac × Value)) (q : Ac × Value), mkZ k (A ++ [q]) = mkZ k A ++ [(mkA (nxs k (A.map (·.1))) q.1, q.2)]
  | _, [], _ => rfl
  | k, x :: A, q => by simp [mkZ, nxs, mkZ_snoc]
theorem nxs_snoc : ∀ (k : Nat) (A : List Ac) (a : Ac), nxs k (A ++ [a]) = nx (nxs k A) a
  | _, [], _ => rfl
  | k, x :: A, q => by simp [nxs, nxs_snoc]
theorem mkAs_app : ∀ (k : Nat) (A B : List Ac), mkAs k (A ++ B) = mkAs k A ++ mkAs (nxs k A) B
  | _, [], _ => rfl
  | k, x :: A, B => by simp [mkAs, nxs, mkAs_app]
theorem nxs_app : ∀ (k : Nat) (A B : List Ac), nxs k (A ++ B) = nxs (nxs k A) B
  | _, [], _ => rfl
  | k, x :: A, B => by simp [nxs, nxs_app]
theorem nxs_ge : ∀ (k : Nat) (l : List Ac), k ≤ nxs k l
  | _, [] => Nat.le_refl _
  | k, x :: t => by have := nxs_ge (nx k x) t; unfold nx at this; simp only [nxs, nx]; omega
theorem nxs_take (k : Nat) (l : List Ac) (j : Nat) : nxs k (l.take j) ≤ nxs k l := by
  have := nxs_app k (l.take j) (l.drop j)
  rw [List.take_append_drop] at this
  rw [this]
  exact nxs_ge _ _
theorem nxs_next (k : Nat) (l : List Ac) (j : Nat) (h : j < l.length) : nxs k (l.take (j + 1)) = nx (nxs k (l.take j)) l[j] := by rw [List.take_succ_eq_append_getElem h, nxs_snoc]
theorem mkAs_at (k : Nat) (l : List Ac) (j : Nat) (h : j < l.length) : (mkAs k l)[j]'(by rw [mkAs_len]; exact h) = mkA (nxs k (l.take j)) l[j] := by
  have e : l = l.take j ++ l[j] :: l.drop (j + 1) := by rw [← List.drop_eq_getElem_cons h, List.take_append_drop]
  have e2 : mkAs k l = mkAs k (l.take j) ++ mkA (nxs k (l.take j)) l[j] :: mkAs (nx (nxs k (l.take j)) l[j]) (l.drop (j + 1)) := by
    conv => lhs; rw [e]
    rw [mkAs_app]
    rfl
  have hlen : (mkAs k (l.take j)).length = j := by rw [mkAs_len]; simp; omega
  simp only [e2]
  rw [List.getElem_append_right (by omega)]
  simp [hlen]
/-- The rows while they are marked. -/
def mkP (k : Nat) (Z : List (Ac × Value)) (j : Nat) : List (Ac × Value) := mkZ k (Z.take j) ++ Z.drop j
theorem mkP_zero (k : Nat) (Z : List (Ac × Value)) : mkP k Z 0 = Z := by simp [mkP, mkZ]
theorem mkP_all (k : Nat) (Z : List (Ac × Value)) : mkP k Z Z.length = mkZ k Z := by simp [mkP]
theorem mkP_len (k : Nat) (Z : List (Ac × Value)) (j : Nat) (h : j ≤ Z.length) : (mkP k Z j).length = Z.length := by simp [mkP, mkZ_len]; omega
theorem mkP_at (k : Nat) (Z : List (Ac × Value)) (j : Nat) (h : j < Z.length) : (mkP k Z j)[j]'(by rw [mkP_len _ _ _ (by omega)]; exact h) = Z[j] := by
  unfold mkP
  rw [List.getElem_append_right (by rw [mkZ_len]; simp; omega)]
  simp [mkZ_len, show j - min j Z.length = 0 from by omega]
theorem mkP_next (k : Nat) (Z : List (Ac × Value)) (j : Nat) (h : j < Z.length) : (mkP k Z j).set j (mkA (nxs k ((Z.map (·.1)).take j)) Z[j].1, Z[j].2) = mkP k Z (j + 1) := by
  have hlen : (mkZ k (Z.take j)).length = j := by rw [mkZ_len]; simp; omega
  unfold mkP
  rw [List.drop_eq_getElem_cons h, List.set_append_right _ _ (by omega), hlen, Nat.sub_self, List.set_cons_zero, List.take_succ_eq_append_getElem h, mkZ_snoc, List.map_take, List.append_assoc]
  rfl

theorem gen_setL {α β : Type} (M l : List α) (f : α → β) (j : Nat) (hM : M.length = l.length) (hj : j < M.length) : ((M.take j ++ l.drop j).map f).set j (f M[j]) = (M.take (j + 1) ++ l.drop (j + 1)).map f := by
  have e1 : ((M.take j).map f).length = j := by simp; omega
  rw [List.map_append, List.set_append_right _ _ (by omega), e1, Nat.sub_self, List.drop_eq_getElem_cons (show j < l.length by omega), List.map_cons, List.set_cons_zero, List.take_succ_eq_append_getElem hj, List.map_append, List.map_append, List.append_assoc]
  rfl
end Go.Proofs.YtljeklmopjkjjaaGreat
