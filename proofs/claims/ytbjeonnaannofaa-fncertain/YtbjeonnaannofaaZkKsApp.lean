/- Chains in a tree, plainly. Chains in a tree, and what extends what, by the model. A block is put behind others; the model's copy of a list of blocks. -/
import Derived.Test.YtbjeonnaannofaaZkTxSpec
import Derived.Test.YtbjeonnaannofaaZkTrSpec
import Derived.Test.YtbjeonnaannofaaZkIntApp
import Derived.Test.YtbjeonnaannofaaZkKsCopy
namespace Go.Proofs.Ytbjeonnaannofaa
open Go.RowKit
set_option linter.unusedVariables false

theorem low_id {b : Bk} (h : blB b = true) : 0 ≤ b.id := by
  unfold blB inB at h
  simp only [Bool.and_eq_true, decide_eq_true_eq] at h
  omega
theorem root_qb {r b : Int} {ws : List ByteArray} (h : rootB r b ws = true) : b = -1 := by
  unfold rootB at h
  simp only [Bool.and_eq_true, decide_eq_true_eq] at h
  omega
def qbAt (l : List Bk) (i : Nat) : Int := (l[i]?.map (·.qb)).getD (-1)
def idAt (l : List Bk) (i : Nat) : Int := (l[i]?.map (·.id)).getD 0
theorem qbAt_eq {l : List Bk} {i : Nat} (h : i < l.length) : qbAt l i = l[i].qb := by simp [qbAt, h]
theorem idAt_eq {l : List Bk} {i : Nat} (h : i < l.length) : idAt l i = l[i].id := by simp [idAt, h]
/-- The places from the i-th up tO the first one behind the root, at most n. -/
def upI (l : List Bk) : Nat → Nat → List Nat
  | 0, _ => []
  | n + 1, i => i :: (if atI l (qbAt l i) < 0 then [] else upI l n (atI l (qbAt l i)).toNat)
def upN (l : List Bk) (i : Nat) : List Nat := upI l (i + 1) i
theorem tree_asc {l : List Bk} (h : treeP l) : AscP l l.length := asc_of (fun i hi _ => h.2 i hi)
theorem at_low {l : List Bk} (h : treeP l) {id : Int} (hi : id < 0) : atI l id = -1 :=
  atI_eq (.inl ⟨rfl, fun j hj e => by have := low_id (h.2 j hj).1; omega⟩)
/-- What the i-th comes behind. -/
theorem par {l : List Bk} (h : treeP l) {i : Nat} (hi : i < l.length) : (atI l l[i].qb = -1 ∧ l[i].qb = -1) ∨ ∃ j, ∃ hj : j < i, atI l l[i].qb = (j : Int) ∧ (l[j]'(by omega)).id = l[i].qb := by
  rcases (h.2 i hi).2.2.2 with r | ⟨j, hj, e, _⟩
  · have := root_qb r
    exact .inl ⟨by rw [this]; exact at_low h (by omega), this⟩
  · exact .inr ⟨j, hj, by rw [← e]; exact atI_asc (tree_asc h) (by omega), e⟩
theorem up_fuel {l : List Bk} (h : treeP l) : ∀ (i n m : Nat), i < l.length → i < n → i < m → upI l n i = upI l m i := by
  intro i
  induction i using Nat.strongRecOn with
  | ind i ih =>
    intro n m hi hn hm
    match n, m, hn, hm with
    | n + 1, m + 1, hn, hm =>
      rw [upI, upI, qbAt_eq hi]
      rcases par h hi with ⟨e, _⟩ | ⟨j, hj, e, _⟩
      · rw [e, if_pos (by omega), if_pos (by omega)]
      · rw [e, if_neg (by omega), if_neg (by omega)]
        simp only [Int.toNat_natCast]
        rw [ih j hj n m (by omega) (by omega) (by omega)]
theorem up_root {l : List Bk} (h : treeP l) {i : Nat} (hi : i < l.length) (e : atI l l[i].qb = -1) : upN l i = [i] := by
  rw [upN, upI, qbAt_eq hi, e, if_pos (by omega)]
theorem up_step {l : List Bk} (h : treeP l) {i j : Nat} (hi : i < l.length) (hj : j < i) (e : atI l l[i].qb = (j : Int)) : upN l i = i :: upN l j := by
  rw [upN, upI, qbAt_eq hi, e, if_neg (by omega), Int.toNat_natCast, up_fuel h j i (j + 1) (by omega) hj (by omega)]
  rfl
theorem up_pos {l : List Bk} (i : Nat) : 0 < (upN l i).length := by rw [upN, upI]; simp
theorem up_mem {l : List Bk} (h : treeP l) : ∀ (i : Nat), i < l.length → ∀ x ∈ upN l i, x ≤ i := by
  intro i
  induction i using Nat.strongRecOn with
  | ind i ih =>
    intro hi x hx
    rcases par h hi with ⟨e, _⟩ | ⟨j, hj, e, _⟩
    · rw [up_root h hi e] at hx
      simp at hx; omega
    · rw [up_step h hi hj e] at hx
      rcases List.mem_cons.1 hx with rfl | hx
      · omega
      · have := ih j hj (by omega) x hx; omega
theorem up_len {l : List Bk} (h : treeP l) : ∀ (i : Nat), i < l.length → (upN l i).length ≤ i + 1 := by
  intro i
  induction i using Nat.strongRecOn with
  | ind i ih =>
    intro hi
    rcases par h hi with ⟨e, _⟩ | ⟨j, hj, e, _⟩
    · rw [up_root h hi e]; simp
    · rw [up_step h hi hj e]
      have := ih j hj (by omega)
      simp; omega
/-- The places from the first one behind the root tO the number id. -/
def chA (l : List Bk) (id : Int) : List Nat := if atI l id < 0 then [] else (upN l (atI l id).toNat).reverse
theorem at_lt {l : List Bk} {id : Int} (h : 0 ≤ atI l id) : ∃ k, ∃ hk : k < l.length, atI l id = (k : Int) ∧ l[k].id = id := by
  rcases atI_is l id with ⟨e, _⟩ | ⟨k, hk, e, f, _⟩
  · omega
  · exact ⟨k, hk, e, f⟩
theorem chA_none {l : List Bk} {id : Int} (h : atI l id < 0) : chA l id = [] := by rw [chA, if_pos h]
theorem chA_step {l : List Bk} (h : treeP l) {id : Int} {k : Nat} (hk : k < l.length) (e : atI l id = (k : Int)) : chA l id = chA l l[k].qb ++ [k] := by
  rw [chA, if_neg (by omega), e, Int.toNat_natCast]
  rcases par h hk with ⟨e2, _⟩ | ⟨j, hj, e2, _⟩
  · rw [up_root h hk e2, chA_none (by omega)]; rfl
  · rw [up_step h hk hj e2, chA, e2, if_neg (by omega), Int.toNat_natCast, List.reverse_cons]
theorem chA_len {l : List Bk} (h : treeP l) (id : Int) : (chA l id).length ≤ l.length := by
  by_cases hn : atI l id < 0
  · rw [chA_none hn]; simp
  · obtain ⟨k, hk, e, _⟩ := at_lt (l := l) (id := id) (by omega)
    rw [chA, if_neg hn, e, Int.toNat_natCast, List.length_reverse]
    have := up_len h k hk
    omega
theorem chA_lt {l : List Bk} (h : treeP l) (id : Int) : ∀ x ∈ chA l id, x < l.length := by
  intro x hx
  by_cases hn : atI l id < 0
  · rw [chA_none hn] at hx; simp at hx
  · obtain ⟨k, hk, e, _⟩ := at_lt (l := l) (id := id) (by omega)
    rw [chA, if_neg hn, e, Int.toNat_natCast, List.mem_reverse] at hx
    have := up_mem h k hk x hx
    omega
/-- What ChainOf answers. -/
def coA (l : List Bk) (id : Int) : List Int := if treeB l = true then (chA l id).map (idAt l) else []
/-- What Extends answers. -/
def exB (l : List Bk) (a b : Int) : Bool := treeB l && (if a = -1 then (decide (b = -1) || decide (0 ≤ atI l b)) else ((chA l b).map (idAt l)).any (fun x => decide (x = a)))
/-- The length of a slice. -/
def slen : Value → Nat
  | .slice _ n _ => n
  | _ => 0
end Go.Proofs.Ytbjeonnaannofaa

namespace Go.Proofs.Ytbjeonnaannofaa
open Go.RowKit
set_option linter.unusedVariables false

theorem RdKs.parts9 {w : World} {a : Option Addr} {cap : Nat} {l : List Bk} (h : RdKs w (.slice a l.length cap) l) (hl : 0 < l.length) : ∃ b off, a = some ⟨b, off, none⟩ ∧ b < w.heap.size ∧ ∀ i (h : i < l.length), ∃ bv, BkAt w b (off + i * 14) l[i] bv ∧ RdK w l[i] bv := by
  rcases h with ⟨a', cap', e, rfl, hn⟩ | ⟨b, off, cap', h0, e, h1, h2, h3, h4⟩
  · simp at hl
  · simp only [Value.slice.injEq] at e
    exact ⟨b, off, e.1, h3, h4⟩
/-- A place as a number. -/
def ofN (i : Nat) : Int := (i : Int)
/-- How far the walk up a chain is: 'out' is its end, and what is left is the chain of id. -/
structure UpTo (l : List Bk) (id0 id : Int) (O : List Nat) : Prop where
  all : chA l id0 = chA l id ++ O
  there : O = [] ∨ id < 0 ∨ 0 ≤ atI l id
theorem UpTo.next {l : List Bk} (ht : treeP l) {id0 id : Int} {O : List Nat} (h : UpTo l id0 id O) {k : Nat} (hk : k < l.length) (e : atI l id = (k : Int)) : UpTo l id0 l[k].qb (k :: O) := by
  refine ⟨?_, ?_⟩
  · rw [h.all, chA_step ht hk e, List.append_assoc]; rfl
  · rcases par ht hk with ⟨_, q⟩ | ⟨j, hj, q, _⟩
    · exact .inr (.inl (by omega))
    · exact .inr (.inr (by omega))
theorem UpTo.len {l : List Bk} (ht : treeP l) {id0 id : Int} {O : List Nat} (h : UpTo l id0 id O) : O.length ≤ l.length := by
  have := chA_len ht id0
  rw [h.all] at this
  simp at this
  omega
theorem RdI.cellI {w : World} {a : Option Addr} {cap : Nat} {l : List Int} {n : Nat} (h : RdI w (.slice a n cap) l) (hn : n = l.length) {k : Nat} (hk : k < l.length) : ∃ b off, a = some ⟨b, off, none⟩ ∧ b < w.heap.size ∧ w.cell? ⟨b, off + k, none⟩ = some (.int .i64 l[k]) := by
  rcases h with ⟨a', cap', e, rfl, hn⟩ | ⟨b, off, cap', h0, e, h1, h2, h3, h4⟩
  · simp at hk
  · simp only [Value.slice.injEq] at e
    exact ⟨b, off, e.1, h3, h4 k hk⟩
end Go.Proofs.Ytbjeonnaannofaa

namespace Go.Proofs.Ytbjeonnaannofaa
open Go.RowKit
set_option linter.unusedVariables false

theorem add_flatK (b off i : Nat) : (⟨b, off, none⟩ : Addr).add i = ⟨b, off + i, none⟩ := by
  by_cases hz : i = 0
  · subst hz; simp [Addr.add]
  · simp [Addr.add, hz]
/-- A row that may grow: what was made in the world w1, and one block more, whose lists were made since. -/
theorem ownKs_grow {base : Nat} {w1 w w' : World} {g cap : Nat} {l : List Bk} {Z : List (Bk × Bv)} {b : Bk} {bv : Bv} {v' : Value} (hZ : Z.map (·.1) = l) (hrow : w1.ownsRow base 37 14 (.slice (some ⟨g, 0, none⟩) l.length cap) l.length (Z.map bkP).flatten) (hk : Kvs base w1 g Z)
    (hb1 : Below w1.heap.size w1 w) (hob : OwnK w1.heap.size w b bv) (hin : ∀ k, bv.q.ownBlock = some k → bv.w.ownBlock ≠ some k) (hbase : base ≤ w1.heap.size)
    (ho' : w'.ownsRow base 37 14 v' (l.length + 1) ((Z.map bkP).flatten ++ bkC b bv)) (hgr : w.grownBy w' (some g)) (hl : v'.ownBlock = some g ∨ v'.ownBlock = some w.heap.size) : OwnKs base w' v' (l ++ [b]) ∧ Below base w w' := by
  have hk2 := hk.below hb1 (Nat.le_refl _)
  have hg := World.ownsRow.lt hrow g rfl
  have hsz := hb1.size
  have hlt : ∀ i (hi : i < Z.length) k, Z[i].2.has k → k < w1.heap.size := fun i hi k h => ((hk.own i hi).in9 k h).2
  have hbx : ∀ k, bv.has k → w1.heap.size ≤ k ∧ k < w.heap.size := fun k h => hob.in9 k h
  refine ⟨?_, (Below.refl _ _).grown hgr (by omega) (fun k hk => by cases hk; exact hg.1)⟩
  rcases ho'.2 with ⟨-, h0⟩ | ⟨g', cap', cur, hv', -⟩
  · omega
  · subst hv'
    have hcase : g' = g ∨ g' = w.heap.size := by
      rcases hl with e | e
      · exact .inl (by simpa [Value.ownBlock] using e)
      · exact .inr (by simpa [Value.ownBlock] using e)
    have hk3 : Kvs base w' g' Z := by
      refine ⟨fun i hi => (hk2.own i hi).grown9 hgr (hk2.far i hi), fun i hi => ?_, hk2.inner, hk2.apart⟩
      rcases hcase with rfl | rfl
      · exact hk2.far i hi
      · exact fun e => by have := hlt i hi _ e; omega
    have ho3 : OwnK base w' b bv := (hob.mono9 hbase).grown9 hgr (fun e => by have := (hbx g e).1; omega)
    refine ⟨g', cap', Z ++ [(b, bv)], by simp [hZ], by simp, ?_, hk3.snoc (b, bv) ho3 (fun e => ?_) hin (fun i hi k h1 h2 => by have := hlt i hi k h1; have := (hbx k h2).1; omega)⟩
    · rw [List.length_append, List.map_append, List.flatten_append]
      simpa [bkP] using ho'
    · have := hbx g' e
      rcases hcase with rfl | rfl
      · omega
      · omega
theorem run_appKs (w1 w : World) (ty : TypeId) (base : Nat) (v : Value) (G : Nat) (l : List Bk) (b : Bk) (bv : Bv) (hown : OwnKs base w1 v l) (hb1 : Below w1.heap.size w1 w) (hblk : Blk w G 37 (bkC b bv))
    (hob : OwnK w1.heap.size w b bv) (hin : ∀ k, bv.q.ownBlock = some k → bv.w.ownBlock ≠ some k) (hlen : l.length ≤ 4000000) (hbase : base ≤ w1.heap.size) :
    ∃ v' w', Sem.run Try.prog (Builtin.append_ #[24, 24] ty #[v, .slice (some ⟨G, 0, none⟩) 1 1]) w = .ok v' w' ∧ OwnKs base w' v' (l ++ [b]) ∧ Below base w w' := by
  obtain ⟨g, cap, Z, hZ, rfl, hrow, hk⟩ := hown
  have hone : ∀ u ∈ bkC b bv, u.oneCell' = true := List.all_eq_true.1 (bkC_one hob.rd)
  obtain ⟨i0, hi, hz0, hz1, hz2⟩ := info_parts Try.infoBk
  obtain ⟨v', w', hr, h2, h3, h4, h5⟩ := run_append_own_at (P := Try.prog) w base 24 ty 37 i0 _ 14 208 Try.underlying24 hi hz0 hz1 hz2 rfl (by decide) _ l.length (Z.map bkP).flatten (row_below hrow hb1 (Nat.le_refl _)) ⟨G, 0, none⟩ 1 1 (bkC b bv) rfl (fun j u hj => by rw [add_flatK, Nat.zero_add, hblk.cell j]; exact hj) (fun u hu => hone u hu) (by unfold maxLen; omega) (by omega) (by have := hb1.size; omega)
  obtain ⟨q1, q2⟩ := ownKs_grow hZ hrow hk hb1 hob hin hbase h2 h3 h5
  exact ⟨v', w', hr, q1, q2⟩
theorem step_appKs {ops : Array Oper} {o : Oper} {a : Act} {w : World} {K : Act → World → Prop} {Q : Exit → Act → World → Prop} {E : Prop} (w1 : World) (hgd : o.guard = none) (s x : Operand)
    (ho : o.op = .call { callee := .builtin .append, args := #[s, x], argTypes := #[24, 24] })
    (base : Nat) (v : Value) (G : Nat) (l : List Bk) (b : Bk) (bv : Bv) (hs : a.eval s = v) (hx : a.eval x = .slice (some ⟨G, 0, none⟩) 1 1) (hown : OwnKs base w1 v l) (hb1 : Below w1.heap.size w1 w) (hblk : Blk w G 37 (bkC b bv))
    (hob : OwnK w1.heap.size w b bv) (hin : ∀ k, bv.q.ownBlock = some k → bv.w.ownBlock ≠ some k) (hlen : l.length ≤ 4000000) (hbase : base ≤ w1.heap.size)
    (h : ∀ v' w', OwnKs base w' v' (l ++ [b]) → Below base w w' → K (a.put o.dst v') w') : if Region.wanted o (yielded ops a.tmps) = true then Oper.wp Try.prog o a w K Q else E := by
  have hw : Region.wanted o (yielded ops a.tmps) = true := by simp [Region.wanted, hgd]
  rw [if_pos hw]
  obtain ⟨v', w', hr, h2, h3⟩ := run_appKs w1 w o.type base v G l b bv hown hb1 hblk hob hin hlen hbase
  unfold Oper.wp execOp
  simp only [ho, resolve, invoke, builtin, Sem.run_bind, Sem.run_pure, Result.andThen_ok, List.map_toArray, List.map_cons, List.map_nil, hs, hx, hr]
  exact h v' w' h2 h3
theorem app_ownKs {ops : Array Oper} {rest : List Oper} {o : Oper} {a : Act} {Q : Exit → Act → World → Prop} (w1 w : World) (hgd : o.guard = none) (s x : Operand)
    (ho : o.op = .call { callee := .builtin .append, args := #[s, x], argTypes := #[24, 24] })
    (base : Nat) (v : Value) (G : Nat) (l : List Bk) (b : Bk) (bv : Bv) (hs : a.eval s = v) (hx : a.eval x = .slice (some ⟨G, 0, none⟩) 1 1) (hown : OwnKs base w1 v l) (hb1 : Below w1.heap.size w1 w) (hblk : Blk w G 37 (bkC b bv))
    (hob : OwnK w1.heap.size w b bv) (hin : ∀ k, bv.q.ownBlock = some k → bv.w.ownBlock ≠ some k) (hlen : l.length ≤ 4000000) (hbase : base ≤ w1.heap.size)
    (h : ∀ v' w', OwnKs base w' v' (l ++ [b]) → Below base w w' → wpList Try.prog ops Q rest (a.put o.dst v') w') : wpList Try.prog ops Q (o :: rest) a w := by
  obtain ⟨g, cap, Z, hZ, rfl, hrow, hk⟩ := hown
  have hone : ∀ u ∈ bkC b bv, u.oneCell' = true := List.all_eq_true.1 (bkC_one hob.rd)
  obtain ⟨i0, hi, hz0, hz1, hz2⟩ := info_parts Try.infoBk
  refine wpList_append_own_at w hgd s x 24 ho base 37 i0 _ 14 208 Try.underlying24 hi hz0 hz1 hz2 rfl (by decide) _ l.length (Z.map bkP).flatten hs (row_below hrow hb1 (Nat.le_refl _)) ⟨G, 0, none⟩ 1 1 (bkC b bv) hx rfl (fun j u hj => by rw [add_flatK, Nat.zero_add, hblk.cell j]; exact hj) (fun u hu => hone u hu) (by unfold maxLen; omega) (by omega) (by have := hb1.size; omega) ?_
  intro v' w' ho' hgr hn hl
  obtain ⟨q1, q2⟩ := ownKs_grow hZ hrow hk hb1 hob hin hbase ho' hgr hl
  exact h v' w' q1 q2
theorem own_nilKs (w : World) (base : Nat) (h : base ≤ w.heap.size) : OwnKs base (w.alloc (.cells #[] 37)) (.slice (some ⟨w.heap.size, 0, none⟩) 0 0) [] := by
  refine ⟨w.heap.size, 0, [], rfl, rfl, ?_, Kvs.nil _ _ _⟩
  exact World.ownsRow_lit w #[] 0 h (by unfold maxLen; omega) (by simp)
set_option maxRecDepth 20000 in
set_option maxHeartbeats 4000000 in
theorem specCopyKs_any (v : Value) (l : List Bk) (w : World) (hr : RdKs w v l) (hl : l.length ≤ 3999999) (hf : ∀ b ∈ l, FewK b) :
    Calls Try.prog 52 #[v] w fun e w' => ∃ v', e = .returned v' ∧ OwnKs w.heap.size w' v' l ∧ Below w.heap.size w w' := by
  obtain ⟨a, cap, rfl⟩ := hr.shape
  have Hr := hide hr
  have Hf := hide hf
  have o1 := own_nilKs w w.heap.size (Nat.le_refl _)
  have b1 : Below w.heap.size w (w.alloc (.cells #[] 37)) := (Below.refl _ w).alloc (Nat.le_refl _) _
  clear hr hf
  go_enter Try.func52, Try.ntmps52
  go_wp2
  go_loopw [4, 3] (fun iv ov wr => ∃ k : Nat, k ≤ l.length ∧ iv = .int .i64 (k : Int) ∧ OwnKs w.heap.size wr ov (l.take k) ∧ Below w.heap.size w wr) (fun iv _ _ => l.length - (intOf iv).toNat)
  case atStart => exact ⟨0, Nat.zero_le _, rfl, o1, b1⟩
  case round =>
    clear o1 b1
    obtain ⟨k, hk, rfl, ho, hb⟩ := hrel
    by_cases hlt : k < l.length
    · obtain ⟨b, off, rfl, h3, hcell⟩ := Hr.out.parts9 (by omega)
      obtain ⟨lv, hat, hrl⟩ := hcell k hlt
      obtain ⟨c0, c1, c2, c3, c4, c5, c6, c7, c8, c9, c10, c11, c12, c13⟩ := (hat.below hb h3).cells
      have HC := hide (specCopied_any l[k] lv wr (hrl.below hb (Nat.le_refl _)) (Hf.out _ (List.getElem_mem hlt)))
      have Hsh := hide hrl.shapes9
      have HY : Hid (l.take k ++ [l[k]] = l.take (k + 1)) := hide (by rw [List.take_succ_eq_append_getElem hlt])
      have hki : (k : Int) < (l.length : Int) := by omega
      have hk0 : (0 : Int) ≤ (k : Int) := by omega
      have hln : (l.take k).length = k := by simp; omega
      have Hln := hide hln
      obtain ⟨oa, oc, hv0⟩ := ho.rd.shape
      rw [hln] at hv0
      subst hv0
      have Ho := hide ho
      have Hb := hide hb
      clear hat hrl hcell ho hb hln
      generalize l[k] = ak at c0 c1 c2 c3 c4 c5 c6 c7 c8 c9 c10 c11 c12 c13 HC Hsh HY
      obtain ⟨aq, cq, aw, cw, ah, ch, at_, ct, an, cn, rfl⟩ := Hsh.out
      clear Hsh
      obtain ⟨id', ep, rd, md, qr, qb, qw, tr, tw, th, ts, en, nx, rt⟩ := ak
      simp only [bkV] at c0 c1 c2 c3 c4 c5 c6 c7 c8 c9 c10 c11 c12 c13 HC
      go_wp2_with fail
      refine HC.out.mono ?_
      rintro e w2 ⟨v2, rfl, o2, hin, hb2⟩
      obtain ⟨aq2, cq2, aw2, cw2, ah2, ch2, at2, ct2, an2, cn2, rfl⟩ := o2.rd.shapes9
      simp only at o2 hin ⊢
      obtain ⟨w3, hw3⟩ : ∃ x, w2.alloc (.cells #[.int .i64 id', .int .i64 ep, .int .i64 rd, .string md, .int .i64 qr, .int .i64 qb, .slice aq2 qw.length cq2, .int .i64 tr, .slice aw2 tw.length cw2, .slice ah2 th.length ch2, .slice at2 ts.length ct2, .bool en, .slice an2 nx.length cn2, .string rt] 37) = x := ⟨_, rfl⟩
      have b3 : Below w2.heap.size w2 w3 := by rw [← hw3]; exact (Below.refl _ w2).alloc (Nat.le_refl _) _
      have K3 : Hid (Blk w3 w2.heap.size 37 (bkC ⟨id', ep, rd, md, qr, qb, qw, tr, tw, th, ts, en, nx, rt⟩ ⟨.slice aq2 qw.length cq2, .slice aw2 tw.length cw2, .slice ah2 th.length ch2, .slice at2 ts.length ct2, .slice an2 nx.length cn2⟩)) := hide (by rw [← hw3]; exact Blk.new w2 _ _)
      have O3 := hide (o2.below9 b3 (Nat.le_refl _))
      have B3 := hide (hb2.trans (b3.mono hb2.size))
      have HB3 := hide (Hb.out.trans (B3.out.mono Hb.out.size))
      have Hin := hide hin
      clear o2 hb2 b3 hin HC c0 c1 c2 c3 c4 c5 c6 c7 c8 c9 c10 c11 c12 c13
      go_wp2_with (at_builtin; (try rw [hw3]); refine app_ownKs wr w3 rfl _ _ rfl w.heap.size (.slice oa k oc) w2.heap.size (l.take k) ⟨id', ep, rd, md, qr, qb, qw, tr, tw, th, ts, en, nx, rt⟩ ⟨.slice aq2 qw.length cq2, .slice aw2 tw.length cw2, .slice ah2 th.length ch2, .slice at2 ts.length ct2, .slice an2 nx.length cn2⟩ rfl rfl Ho.out B3.out K3.out O3.out Hin.out (by have := Hln.out; omega) Hb.out.size ?_; intro v5 w5 ho5 hb5)
      have HO5 : Hid (OwnKs w.heap.size w5 v5 (l.take (k + 1))) := hide (by rw [← HY.out]; exact ho5)
      go_roundw
      case rel => exact ⟨k + 1, by omega, by go_num, HO5.out, HB3.out.trans hb5⟩
      case measure => simp [intOf]; omega
    · obtain rfl : k = l.length := by omega
      rw [List.take_length] at ho
      have Ho := hide ho
      obtain ⟨oa, oc, rfl⟩ := ho.rd.shape
      clear ho
      go_wp2
      go_ret
      exact ⟨_, rfl, Ho.out, hb⟩
end Go.Proofs.Ytbjeonnaannofaa
