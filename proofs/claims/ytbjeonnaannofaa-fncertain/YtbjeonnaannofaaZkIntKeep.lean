/- The sixteen words of 64 bytes, the highest byte first. Slices of int that hold no number below 0: what a block reads as, what a call owns, append. Append onto numbers of the call's own: what was there can still be read where it was. -/
import Derived.Test.YtbjeonnaannofaaZkShaWords
import Derived.Test.YtbjeonnaannofaaZkDraw
import Derived.Deep.RegionLaw
namespace Go.Proofs.Ytbjeonnaannofaa
open Go.RowKit
set_option linter.unusedVariables false

def beN (l : List UInt8) : Nat := l.foldl (fun a c => a * 256 + c.toNat) 0
theorem beN_snoc (l : List UInt8) (c : UInt8) : beN (l ++ [c]) = beN l * 256 + c.toNat := by simp [beN]
theorem beN_lt (l : List UInt8) : beN l < 256 ^ l.length := by
  suffices h : ∀ (n : Nat) (l : List UInt8), l.length = n → beN l < 256 ^ n from h _ l rfl
  intro n
  induction n with
  | zero => intro l hl; rw [List.length_eq_zero_iff.1 hl]; decide
  | succ n ih =>
    intro l hl
    have hne : l ≠ [] := by intro e; rw [e] at hl; simp at hl
    obtain ⟨t, c, rfl⟩ : ∃ t c, l = t ++ [c] := ⟨l.dropLast, l.getLast hne, (List.dropLast_concat_getLast hne).symm⟩
    have hl' : t.length = n := by simp at hl; omega
    have h1 := ih t hl'
    have h2 : c.toNat < 256 := c.toNat_lt
    rw [beN_snoc, Nat.pow_succ]
    omega

/-- The j-th word, of the first i bytes. -/
def wAt (l : List UInt8) (i j : Nat) : Nat := beN (((l.take i).drop (4 * j)).take 4)
def wds (l : List UInt8) (i : Nat) : List Nat := (List.range 16).map (wAt l i)
def wordsB (l : List UInt8) : List Nat := wds l 64
theorem wds_len (l : List UInt8) (i : Nat) : (wds l i).length = 16 := by simp [wds]
theorem wds_at (l : List UInt8) (i j : Nat) (h : j < (wds l i).length) : (wds l i)[j] = wAt l i j := by simp [wds]
theorem wds_zero (l : List UInt8) : wds l 0 = [0, 0, 0, 0, 0, 0, 0, 0, 0, 0, 0, 0, 0, 0, 0, 0] := by
  simp [wds, wAt, beN, List.range, List.range.loop]
theorem wAt_here (l : List UInt8) (i : Nat) (h : i < l.length) : wAt l (i + 1) (i / 4) = wAt l i (i / 4) * 256 + l[i].toNat := by
  unfold wAt
  rw [← beN_snoc]
  congr 1
  rw [List.take_succ_eq_append_getElem h, List.drop_append_of_le_length (by simp; omega)]
  have hlen : ((l.take i).drop (4 * (i / 4))).length = i - 4 * (i / 4) := by simp; omega
  generalize (l.take i).drop (4 * (i / 4)) = D at hlen ⊢
  rw [List.take_of_length_le (by rw [List.length_append, hlen]; simp; omega), List.take_of_length_le (by rw [hlen]; omega)]
theorem wAt_few (l : List UInt8) (i : Nat) (h : i < l.length) : wAt l i (i / 4) < 16777216 := by
  have h1 := beN_lt (((l.take i).drop (4 * (i / 4))).take 4)
  have h2 : (((l.take i).drop (4 * (i / 4))).take 4).length ≤ 3 := by simp; omega
  exact Nat.lt_of_lt_of_le h1 (Nat.le_trans (Nat.pow_le_pow_right (by omega) h2) (by decide))
theorem wAt_lt (l : List UInt8) (i j : Nat) : wAt l i j < 4294967296 := by
  have h1 := beN_lt (((l.take i).drop (4 * j)).take 4)
  have h2 : (((l.take i).drop (4 * j)).take 4).length ≤ 4 := by simp; omega
  exact Nat.lt_of_lt_of_le h1 (Nat.le_trans (Nat.pow_le_pow_right (by omega) h2) (by decide))
theorem wAt_other (l : List UInt8) (i j : Nat) (h : i < l.length) (hj : j ≠ i / 4) : wAt l (i + 1) j = wAt l i j := by
  unfold wAt
  congr 1
  rw [List.take_succ_eq_append_getElem h]
  by_cases hlt : j < i / 4
  · rw [List.drop_append_of_le_length (by simp; omega), List.take_append_of_le_length (by simp; omega)]
  · rw [List.drop_eq_nil_of_le (by simp; omega), List.drop_eq_nil_of_le (by simp; omega)]
theorem wds_next (l : List UInt8) (i : Nat) (h : i < l.length) : wds l (i + 1) = (wds l i).set (i / 4) (wAt l i (i / 4) * 256 + l[i].toNat) := by
  apply List.ext_getElem
  · rw [List.length_set, wds_len, wds_len]
  · intro j h1 h2
    rw [wds_at, List.getElem_set]
    by_cases e : i / 4 = j
    · rw [if_pos e, ← e, wAt_here l i h]
    · rw [if_neg e, wds_at, wAt_other l i j h (fun q => e q.symm)]
theorem wordsB_len (l : List UInt8) : (wordsB l).length = 16 := wds_len _ _
theorem wordsB_lt (l : List UInt8) : ∀ x ∈ wordsB l, x < 4294967296 := by
  intro x hx
  simp only [wordsB, wds, List.mem_map] at hx
  obtain ⟨j, _, rfl⟩ := hx
  exact wAt_lt _ _ _
theorem u32_push (x c : Nat) (hx : x < 16777216) (hc : c < 256) : bits .or .u32 ((x : Int) * 256 % 4294967296) ((c : Int) % 4294967296) = ((x * 256 + c : Nat) : Int) := by
  rw [show (c : Int) % 4294967296 = (c : Int) from by omega, show (x : Int) * 256 % 4294967296 = ((x * 2 ^ 8 : Nat) : Int) from by omega, u32_or_nat _ _ (by omega) (by omega), Nat.or_comm, or_high c x 8 (by omega)]
  congr 1
  omega
end Go.Proofs.Ytbjeonnaannofaa

namespace Go.Proofs.Ytbjeonnaannofaa
open Go.RowKit
set_option linter.unusedVariables false

def iv (n : Nat) : Value := .int .i64 (n : Int)

/-- The block g can be read as the numbers l from its head on. -/
def An (w : World) (g : Nat) (l : List Nat) : Prop := g < w.heap.size ∧ ∀ i (h : i < l.length), w.cell? ⟨g, i, none⟩ = some (.int .i64 (l[i] : Int))
def OwnN (base : Nat) (w : World) (v : Value) (l : List Nat) : Prop := w.ownsRow base 3 1 v l.length (l.map iv)

theorem Try.infoInt : (Try.prog.info? 3).map (fun i => (i.zero, i.size, i.bytes)) = some (some (.int .i64 0), 1, 8) := by kernel_rfl

theorem An.below {B : Nat} {w w' : World} {g : Nat} {l : List Nat} (h : An w g l) (hb : Below B w w') (hg : g < B) : An w' g l :=
  ⟨by have := hb.size; have := h.1; omega, fun i hi => (hb.cell (p := ⟨g, i, none⟩) hg).trans (h.2 i hi)⟩
theorem An.alloc {w : World} {g : Nat} {l : List Nat} (h : An w g l) (o : Obj) : An (w.alloc o) g l := h.below ((Below.refl _ _).alloc (Nat.le_refl _) o) h.1
theorem An.drew {w : World} {g : Nat} {l : List Nat} (h : An w g l) : An w.drew g l := h.below (Below.refl _ _).drew h.1
theorem An.new (w : World) (g : Nat) (l : List Nat) (t : TypeId) (a : Array Value) (ha : a = (l.map iv).toArray) (hg : g = w.heap.size) : An (w.alloc (.cells a t)) g l := by
  subst ha; subst hg
  refine ⟨by simp, fun i hi => ?_⟩
  rw [World.cell?_alloc_at _ _ _ _ rfl]
  simp [hi, iv]

theorem OwnN.below {B base : Nat} {w w' : World} {v : Value} {l : List Nat} (h : OwnN base w v l) (hb : Below B w w') (hB : w.heap.size ≤ B) : OwnN base w' v l := by
  refine ⟨h.1, ?_⟩
  rcases h.2 with h' | ⟨g, cap, cur, hv, hbb, hg, r⟩
  · exact .inl h'
  · refine .inr ⟨g, cap, cur, hv, hbb, ?_, r⟩
    have hlt : g < w.heap.size := (Array.getElem?_eq_some_iff.1 hg).1
    rw [hb.block g (by omega)]; exact hg
theorem OwnN.mono {base base' : Nat} {w : World} {v : Value} {l : List Nat} (h : OwnN base w v l) (hB : base' ≤ base) : OwnN base' w v l := by
  refine ⟨h.1, ?_⟩
  rcases h.2 with h' | ⟨g, cap, cur, hv, hbb, r⟩
  · exact .inl h'
  · exact .inr ⟨g, cap, cur, hv, by omega, r⟩
theorem OwnN.alloc {base : Nat} {w : World} {v : Value} {l : List Nat} (h : OwnN base w v l) (o : Obj) : OwnN base (w.alloc o) v l := World.ownsRow.alloc h o
theorem OwnN.drew {base : Nat} {w : World} {v : Value} {l : List Nat} (h : OwnN base w v l) : OwnN base w.drew v l := h
theorem own_nilN (w : World) (base : Nat) (h : base ≤ w.heap.size) : OwnN base (w.alloc (.cells #[] 3)) (.slice (some ⟨w.heap.size, 0, none⟩) 0 0) [] :=
  World.ownsRow_lit w #[] 0 h (by unfold maxLen; omega) (by simp)
theorem OwnN.open {base : Nat} {w : World} {v : Value} {l : List Nat} (h : OwnN base w v l) (hl : l ≠ []) : ∃ g cap, v = .slice (some ⟨g, 0, none⟩) l.length cap ∧ l.length ≤ cap ∧ cap ≤ maxLen ∧ base ≤ g ∧ An w g l ∧ ∀ i, w.frozen? ⟨g, i, none⟩ = false := by
  rcases h.2 with ⟨hv, hn⟩ | ⟨g, cap, cur, hv, hb, hg, hnc, hcm, hcs, ht⟩
  · exact absurd (List.length_eq_zero_iff.1 hn) hl
  · have h' : w.ownsRow base 3 1 (.slice (some ⟨g, 0, none⟩) l.length cap) l.length (l.map iv) := hv ▸ h
    refine ⟨g, cap, hv, hnc, hcm, hb, ⟨(Array.getElem?_eq_some_iff.1 hg).1, fun i hi => ?_⟩, fun i => h'.frozenAt i⟩
    rw [h'.cellAt i (by omega)]
    simp [hi, iv]
theorem OwnN.someOf {base : Nat} {w : World} {v : Value} {l : List Nat} (h : OwnN base w v l) : (v = .slice none 0 0 ∧ l = []) ∨ ∃ g cap, v = .slice (some ⟨g, 0, none⟩) l.length cap ∧ base ≤ g ∧ An w g l := by
  rcases h.2 with ⟨hv, hn⟩ | ⟨g, cap, cur, hv, hb, hg, hnc, hcm, hcs, ht⟩
  · exact .inl ⟨hv, List.length_eq_zero_iff.1 hn⟩
  · have h' : w.ownsRow base 3 1 (.slice (some ⟨g, 0, none⟩) l.length cap) l.length (l.map iv) := hv ▸ h
    refine .inr ⟨g, cap, hv, hb, ⟨(Array.getElem?_eq_some_iff.1 hg).1, fun i hi => ?_⟩⟩
    rw [h'.cellAt i (by omega)]
    simp [hi, iv]

theorem an_src {w : World} {g : Nat} {k : List Nat} (hrd : An w g k) (j : Nat) (u : Value) (hj : (k.map iv)[j]? = some u) : w.cell? ((⟨g, 0, none⟩ : Addr).add j) = some u := by
  have hj' : j < k.length := by have := (List.getElem?_eq_some_iff.1 hj).1; simpa using this
  have ea : (⟨g, 0, none⟩ : Addr).add j = ⟨g, j, none⟩ := by
    by_cases hz : j = 0
    · subst hz; simp [Addr.add]
    · simp [Addr.add, hz]
  rw [ea, hrd.2 j hj']
  simp [hj', iv] at hj
  rw [← hj]

theorem step_app_ownN {ops : Array Oper} {o : Oper} {a : Act} {w : World} {K : Act → World → Prop} {Q : Exit → Act → World → Prop} {E : Prop} (hgd : o.guard = none) (s x : Operand)
    (ho : o.op = .call { callee := .builtin .append, args := #[s, x], argTypes := #[27, 27] })
    (base g n cap : Nat) (v : Value) (l k : List Nat) (hs : a.eval s = v) (hx : a.eval x = .slice (some ⟨g, 0, none⟩) n cap) (hn : k.length = n) (hown : OwnN base w v l) (hrd : An w g k)
    (hlen : l.length + k.length ≤ 100000000) (hbase : base ≤ w.heap.size)
    (h : ∀ v' w', OwnN base w' v' (l ++ k) → Below base w w' → K (a.put o.dst v') w') : if Region.wanted o (yielded ops a.tmps) = true then Oper.wp Try.prog o a w K Q else E := by
  have hw : Region.wanted o (yielded ops a.tmps) = true := by simp [Region.wanted, hgd]
  rw [if_pos hw]
  subst hn
  obtain ⟨i0, hi, hz0, hz1, hz2⟩ := info_parts Try.infoInt
  have hbel : ∀ w', w.grownBy w' v.ownBlock → Below base w w' := fun w' hg => (Below.refl _ _).grown hg hbase (fun k hk => (World.ownsRow.lt hown k hk).1)
  refine wp_append_own w s x 27 ho base 3 i0 (.int .i64 0) 1 8 Try.underlying27 hi hz0 hz1 hz2 rfl (by decide) v l.length (l.map iv) hs hown ⟨g, 0, none⟩ k.length cap (k.map iv) hx (by simp) (fun j u hj => an_src hrd j u hj) ?_ (by unfold maxLen; omega) (by omega) hbase ?_
  · intro u hu
    obtain ⟨c, _, rfl⟩ := List.mem_map.1 hu
    rfl
  · intro v' w' ho' hg _
    exact h v' w' (by simpa [OwnN] using ho') (hbel w' hg)

theorem app_ownN {ops : Array Oper} {rest : List Oper} {o : Oper} {a : Act} {Q : Exit → Act → World → Prop} (w : World) (hgd : o.guard = none) (s x : Operand)
    (ho : o.op = .call { callee := .builtin .append, args := #[s, x], argTypes := #[27, 27] })
    (base g n cap : Nat) (v : Value) (l k : List Nat) (hs : a.eval s = v) (hx : a.eval x = .slice (some ⟨g, 0, none⟩) n cap) (hn : k.length = n) (hown : OwnN base w v l) (hrd : An w g k)
    (hlen : l.length + k.length ≤ 100000000) (hbase : base ≤ w.heap.size)
    (h : ∀ v' w', OwnN base w' v' (l ++ k) → Below base w w' → wpList Try.prog ops Q rest (a.put o.dst v') w') : wpList Try.prog ops Q (o :: rest) a w := by
  subst hn
  obtain ⟨i0, hi, hz0, hz1, hz2⟩ := info_parts Try.infoInt
  have hbel : ∀ w', w.grownBy w' v.ownBlock → Below base w w' := fun w' hg => (Below.refl _ _).grown hg hbase (fun k hk => (World.ownsRow.lt hown k hk).1)
  refine wpList_append_own w hgd s x 27 ho base 3 i0 (.int .i64 0) 1 8 Try.underlying27 hi hz0 hz1 hz2 rfl (by decide) v l.length (l.map iv) hs hown ⟨g, 0, none⟩ k.length cap (k.map iv) hx (by simp) (fun j u hj => an_src hrd j u hj) ?_ (by unfold maxLen; omega) (by omega) hbase ?_
  · intro u hu
    obtain ⟨c, _, rfl⟩ := List.mem_map.1 hu
    rfl
  · intro v' w' ho' hg _
    exact h v' w' (by simpa [OwnN] using ho') (hbel w' hg)
end Go.Proofs.Ytbjeonnaannofaa

namespace Go.Proofs.Ytbjeonnaannofaa
open Go.RowKit
set_option linter.unusedVariables false

theorem run_app_keepN (w : World) (ty : TypeId) (base g gx n cx cap : Nat) (l k : List Nat) (hn : k.length = n) (hown : OwnN base w (.slice (some ⟨g, 0, none⟩) l.length cap) l) (hrd : An w gx k)
    (hlen : l.length + k.length ≤ 100000000) (hbase : base ≤ w.heap.size) :
    ∃ v' w', (Builtin.append_ #[27, 27] ty #[.slice (some ⟨g, 0, none⟩) l.length cap, .slice (some ⟨gx, 0, none⟩) n cx]).run Try.prog w = .ok v' w' ∧ OwnN base w' v' (l ++ k) ∧ Below base w w' ∧ An w' g l := by
  subst hn
  obtain ⟨i0, hi, hz0, hz1, hz2⟩ := info_parts Try.infoInt
  have hone : ∀ u ∈ k.map iv, u.oneCell' = true := by
    intro u hu
    obtain ⟨c, _, rfl⟩ := List.mem_map.1 hu
    rfl
  obtain ⟨v', w', hr, ho, hg, _⟩ := run_append_own (P := Try.prog) w base 27 ty 3 i0 (.int .i64 0) 1 8 Try.underlying27 hi hz0 hz1 hz2 rfl (by decide) _ l.length (l.map iv) hown ⟨gx, 0, none⟩ k.length cx (k.map iv) (by simp) (fun j u hj => an_src hrd j u hj) hone (by unfold maxLen; omega) (by omega) hbase
  have ho' : OwnN base w' v' (l ++ k) := by simpa [OwnN] using ho
  refine ⟨v', w', hr, ho', (Below.refl _ _).grown hg hbase (fun k hk => (World.ownsRow.lt hown k hk).1), ?_⟩
  rcases hown.2 with ⟨hv, _⟩ | ⟨g', cap', cur, hv, hbg, hgc, hnc, hcm, hcs, htake⟩
  · simp at hv
  · simp only [Value.slice.injEq, Option.some.injEq, Addr.mk.injEq, and_true, true_and] at hv
    obtain ⟨rfl, rfl⟩ := hv
    have hgl : g < w.heap.size := (Array.getElem?_eq_some_iff.1 hgc).1
    by_cases hroom : l.length + k.length ≤ cap
    · have hr2 := run_append_room (P := Try.prog) w 27 ty 3 i0 Try.underlying27 hi g l.length cap cur hgc ⟨gx, 0, none⟩ k.length cx (k.map iv) (by simp [hz1]) (fun j u hj => an_src hrd j u hj) hone hroom (by simp [hz1, hcs]; omega)
      rw [hr] at hr2
      injection hr2 with e1 e2
      subst e1
      refine ⟨by have := hg.size; omega, fun i hi' => ?_⟩
      have h' : w'.ownsRow base 3 1 (.slice (some ⟨g, 0, none⟩) (l.length + k.length) cap) (l.length + k.length) ((l ++ k).map iv) := by simpa using ho
      rw [h'.cellAt i (by omega)]
      simp [iv, List.getElem?_append_left, hi']
    · have holds : ∀ j u, (l.map iv)[j]? = some u → w.cell? ((⟨g, 0, none⟩ : Addr).add j) = some u := World.ownsRow.cells hown (g := g) rfl
      have hr2 := run_append_grow (P := Try.prog) w 27 ty 3 i0 (.int .i64 0) Try.underlying27 hi hz0 ⟨g, 0, none⟩ l.length cap (l.map iv) (by simp [hz1]) holds ⟨gx, 0, none⟩ k.length cx (k.map iv) (by simp [hz1]) (fun j u hj => an_src hrd j u hj) (by omega) (by omega) (growslice_fits (by omega) (by rw [hz2]; omega))
      rw [hr] at hr2
      injection hr2 with e1 e2
      subst e2
      refine An.below (B := w.heap.size) ⟨hgl, fun i hi' => ?_⟩ ((Below.refl _ _).drew.alloc (Nat.le_refl _) _) hgl
      rw [World.ownsRow.cellAt hown i (by omega)]
      simp [hi', iv]

theorem step_app_keepN {ops : Array Oper} {o : Oper} {a : Act} {w : World} {K : Act → World → Prop} {Q : Exit → Act → World → Prop} {E : Prop} (hgd : o.guard = none) (s x : Operand)
    (ho : o.op = .call { callee := .builtin .append, args := #[s, x], argTypes := #[27, 27] })
    (base g m cap gx n cx : Nat) (l k : List Nat) (hs : a.eval s = .slice (some ⟨g, 0, none⟩) m cap) (hm : l.length = m) (hx : a.eval x = .slice (some ⟨gx, 0, none⟩) n cx) (hn : k.length = n) (hown : OwnN base w (.slice (some ⟨g, 0, none⟩) m cap) l) (hrd : An w gx k)
    (hlen : l.length + k.length ≤ 100000000) (hbase : base ≤ w.heap.size)
    (h : ∀ v' w', OwnN base w' v' (l ++ k) → Below base w w' → An w' g l → K (a.put o.dst v') w') : if Region.wanted o (yielded ops a.tmps) = true then Oper.wp Try.prog o a w K Q else E := by
  have hw : Region.wanted o (yielded ops a.tmps) = true := by simp [Region.wanted, hgd]
  rw [if_pos hw]
  subst hm
  obtain ⟨v', w', hr, h1, h2, h3⟩ := run_app_keepN w o.type base g gx n cx cap l k hn hown hrd hlen hbase
  unfold Oper.wp execOp
  simp only [ho, resolve, invoke, builtin, Sem.run_bind, Sem.run_pure, Result.andThen_ok, List.map_toArray, List.map_cons, List.map_nil, hs, hx, hr]
  exact h v' w' h1 h2 h3
end Go.Proofs.Ytbjeonnaannofaa
