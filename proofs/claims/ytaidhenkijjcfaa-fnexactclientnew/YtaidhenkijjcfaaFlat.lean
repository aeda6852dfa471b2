/- Rows of structs: lists of equally long lists of cells, one behind the other. -/
import Derived.Test.YtaidhenkijjcfaaMem
namespace Go.Proofs.Ytaidhenkijjcfaa
open Go.RowKit
set_option linter.unusedVariables false

theorem flat_len {α : Type} (sz : Nat) : ∀ (L : List (List α)), (∀ x ∈ L, x.length = sz) → L.flatten.length = L.length * sz
  | [], _ => by simp
  | x :: L, h => by
    rw [List.flatten_cons, List.length_append, flat_len sz L (fun y hy => h y (List.mem_cons_of_mem _ hy)), h x (List.mem_cons_self), List.length_cons, Nat.add_mul, Nat.one_mul]
    omega
theorem flat_get {α : Type} (sz : Nat) : ∀ (L : List (List α)) (i j : Nat) (hi : i < L.length), (∀ x ∈ L, x.length = sz) → j < sz → L.flatten[i * sz + j]? = L[i][j]?
  | [], i, j, hi, _, _ => by simp at hi
  | x :: L, i, j, hi, h, hj => by
    have hx := h x (List.mem_cons_self)
    cases i with
    | zero =>
      rw [List.flatten_cons, Nat.zero_mul, Nat.zero_add, List.getElem?_append_left (by omega)]
      rfl
    | succ i =>
      rw [List.flatten_cons, List.getElem?_append_right (by rw [hx, Nat.add_mul]; omega), hx, show (i + 1) * sz + j - sz = i * sz + j from by rw [Nat.add_mul]; omega]
      exact flat_get sz L i j (by simpa using hi) (fun y hy => h y (List.mem_cons_of_mem _ hy)) hj
theorem flat_set {α : Type} (sz : Nat) (u : α) : ∀ (L : List (List α)) (i j : Nat) (hi : i < L.length), (∀ x ∈ L, x.length = sz) → j < sz → L.flatten.set (i * sz + j) u = (L.set i (L[i].set j u)).flatten
  | [], i, j, hi, _, _ => by simp at hi
  | x :: L, i, j, hi, h, hj => by
    have hx := h x (List.mem_cons_self)
    cases i with
    | zero =>
      rw [List.flatten_cons, Nat.zero_mul, Nat.zero_add, List.set_append_left _ _ (by omega)]
      rfl
    | succ i =>
      rw [List.flatten_cons, List.set_append_right _ _ (by rw [hx, Nat.add_mul]; omega), hx, show (i + 1) * sz + j - sz = i * sz + j from by rw [Nat.add_mul]; omega]
      rw [flat_set sz u L i j (by simpa using hi) (fun y hy => h y (List.mem_cons_of_mem _ hy)) hj]
      rfl
/-- How far a row is made: the first k by f, the others as they were made. -/
def part {α β : Type} (f : α → List β) (z : List β) (l : List α) (k : Nat) : List (List β) := (l.take k).map f ++ List.replicate (l.length - k) z
theorem part_len {α β : Type} (f : α → List β) (z : List β) (l : List α) (k : Nat) (hk : k ≤ l.length) : (part f z l k).length = l.length := by simp [part]; omega
theorem part_zero {α β : Type} (f : α → List β) (z : List β) (l : List α) : part f z l 0 = List.replicate l.length z := by simp [part]
theorem part_all {α β : Type} (f : α → List β) (z : List β) (l : List α) : part f z l l.length = l.map f := by simp [part]
theorem part_at {α β : Type} (f : α → List β) (z : List β) (l : List α) (k : Nat) (hk : k < l.length) : (part f z l k)[k]'(by rw [part_len f z l k (by omega)]; exact hk) = z := by
  unfold part
  rw [List.getElem_append_right (by simp; omega)]
  simp
theorem part_next {α β : Type} (f : α → List β) (z : List β) (l : List α) (k : Nat) (hk : k < l.length) : (part f z l k).set k (f l[k]) = part f z l (k + 1) := by
  unfold part
  rw [List.take_succ_eq_append_getElem hk, List.set_append_right _ _ (by simp; omega), show l.length - k = (l.length - (k + 1)) + 1 from by omega, List.replicate_succ, show k - ((l.take k).map f).length = 0 from by simp; omega]
  simp only [List.map_append, List.map_cons, List.map_nil, List.set_cons_zero, List.append_assoc, List.singleton_append]
theorem part_sz {α β : Type} (sz : Nat) (f : α → List β) (z : List β) (l : List α) (k : Nat) (hf : ∀ a, (f a).length = sz) (hz : z.length = sz) : ∀ x ∈ part f z l k, x.length = sz := by
  intro x hx
  unfold part at hx
  rcases List.mem_append.1 hx with h | h
  · obtain ⟨a, _, rfl⟩ := List.mem_map.1 h; exact hf a
  · rw [(List.mem_replicate.1 h).2]; exact hz
theorem made_flat (zs : Array Value) (sz n : Nat) (hz : zs.size = sz) (h0 : 0 < sz) : (madeCells zs (n * sz)).toList = (List.replicate n zs.toList).flatten := by
  have hr : ∀ x ∈ List.replicate n zs.toList, x.length = sz := fun x hx => by rw [(List.mem_replicate.1 hx).2]; simpa using hz
  apply List.ext_getElem?
  intro t
  by_cases ht : t < n * sz
  · have h1 : t / sz < n := by rw [Nat.div_lt_iff_lt_mul h0]; exact ht
    have h2 : t % sz < sz := Nat.mod_lt _ h0
    have e := flat_get sz (List.replicate n zs.toList) (t / sz) (t % sz) (by simpa using h1) hr h2
    rw [show t / sz * sz + t % sz = t from by rw [Nat.mul_comm]; exact Nat.div_add_mod t sz] at e
    rw [e]
    have h3 : t % sz < zs.size := by rw [hz]; exact h2
    simp [madeCells, ht, hz]
    rw [getElem!_pos zs _ h3, Array.getElem?_eq_getElem h3]
  · rw [List.getElem?_eq_none (by simp [madeCells]; omega), List.getElem?_eq_none (by rw [flat_len sz _ hr]; simp; omega)]
/-- The block B of type t holds the cells cs, and may be written. -/
def Blk (W : World) (B : Nat) (t : TypeId) (cs : List Value) : Prop := W.heap[B]? = some (.cells cs.toArray t (0, 0))
theorem Blk.lt {W : World} {B : Nat} {t : TypeId} {cs : List Value} (h : Blk W B t cs) : B < W.heap.size := (Array.getElem?_eq_some_iff.1 h).1
theorem Blk.cell {W : World} {B : Nat} {t : TypeId} {cs : List Value} (h : Blk W B t cs) (j : Nat) : W.cell? ⟨B, j, none⟩ = cs[j]? := by simp [World.cell?, show W.heap[B]? = _ from h]
theorem Blk.frozen {W : World} {B : Nat} {t : TypeId} {cs : List Value} (h : Blk W B t cs) (j : Nat) : W.frozen? ⟨B, j, none⟩ = false := by simp [World.frozen?, show W.heap[B]? = _ from h]
theorem Blk.new (W : World) (t : TypeId) (cs : List Value) : Blk (W.alloc (.cells cs.toArray t)) W.heap.size t cs := heap_alloc_new W _
theorem Blk.below {W V : World} {B K : Nat} {t : TypeId} {cs : List Value} (h : Blk W B t cs) (hb : Below K W V) (hK : B < K) : Blk V B t cs := (hb.block B hK).trans h
theorem grown_set (w : World) (g j : Nat) (u : Value) : w.grownBy (w.setCell ⟨g, j, none⟩ u) (some g) :=
  ⟨rfl, rfl, rfl, by simp, fun k _ hk => heap_setCell_other w ⟨g, j, none⟩ k u (fun e => hk (by simp [e]))⟩
theorem row_set {base : Nat} {w : World} {e : TypeId} {size : Nat} {v : Value} {n : Nat} {xs : List Value} (h : w.ownsRow base e size v n xs) (g j : Nat) (u : Value) (hne : ∀ k, v.ownBlock = some k → k ≠ g) : (w.setCell ⟨g, j, none⟩ u).ownsRow base e size v n xs := by
  refine World.ownsRow.kept h (grown_set w g j u) ?_
  cases hv : v.ownBlock with
  | none => exact .inl rfl
  | some k => exact .inr (fun e => hne k hv (by injection e))
theorem row_below {B base : Nat} {w w' : World} {e : TypeId} {size : Nat} {v : Value} {n : Nat} {xs : List Value} (h : w.ownsRow base e size v n xs) (hb : Below B w w') (hB : w.heap.size ≤ B) : w'.ownsRow base e size v n xs := by
  refine ⟨h.1, ?_⟩
  rcases h.2 with h' | ⟨g, cap, cur, hv, hbb, hg, r⟩
  · exact .inl h'
  · refine .inr ⟨g, cap, cur, hv, hbb, ?_, r⟩
    have hlt : g < w.heap.size := (Array.getElem?_eq_some_iff.1 hg).1
    rw [hb.block g (by omega)]; exact hg
theorem flat_put2 {α : Type} (L : List (List α)) (i : Nat) (a b : α) (hi : i < L.length) (h : ∀ x ∈ L, x.length = 2) : (L.flatten.set (i * 2) a).set (i * 2 + 1) b = (L.set i [a, b]).flatten := by
  have e0 := flat_set 2 a L i 0 hi h (by omega)
  rw [Nat.add_zero] at e0
  have hL : ∀ x ∈ L.set i (L[i].set 0 a), x.length = 2 := fun x hx => by
    rcases List.mem_or_eq_of_mem_set hx with h' | rfl
    · exact h x h'
    · simpa using h L[i] (List.getElem_mem hi)
  rw [e0, flat_set 2 b _ i 1 (by simpa using hi) hL (by omega)]
  have hl := h L[i] (List.getElem_mem hi)
  congr 1
  rw [List.set_set]
  congr 1
  simp only [List.getElem_set_self]
  match hx : L[i], hl with
  | [x, y], _ => rfl
/-- The rows L, and behind them as many z as there are to be n. -/
def prt {α : Type} (L : List (List α)) (z : List α) (n : Nat) : List (List α) := L ++ List.replicate (n - L.length) z
theorem prt_len {α : Type} (L : List (List α)) (z : List α) (n : Nat) (h : L.length ≤ n) : (prt L z n).length = n := by simp [prt]; omega
theorem prt_zero {α : Type} (z : List α) (n : Nat) : prt [] z n = List.replicate n z := by simp [prt]
theorem prt_all {α : Type} (L : List (List α)) (z : List α) (n : Nat) (h : L.length = n) : prt L z n = L := by simp [prt, h]
theorem prt_at {α : Type} (L : List (List α)) (z : List α) (n k : Nat) (hk : k = L.length) (h : k < n) : (prt L z n)[k]'(by rw [prt_len L z n (by omega)]; exact h) = z := by
  subst hk
  unfold prt
  rw [List.getElem_append_right (Nat.le_refl _)]
  simp
theorem prt_next {α : Type} (L : List (List α)) (z x : List α) (n k : Nat) (hk : k = L.length) (h : k < n) : (prt L z n).set k x = prt (L ++ [x]) z n := by
  subst hk
  unfold prt
  rw [List.set_append_right _ _ (Nat.le_refl _), Nat.sub_self, show n - L.length = (n - (L ++ [x]).length) + 1 from by simp; omega, List.replicate_succ, List.set_cons_zero, List.append_assoc]
  rfl
theorem prt_sz {α : Type} (sz : Nat) (L : List (List α)) (z : List α) (n : Nat) (hL : ∀ x ∈ L, x.length = sz) (hz : z.length = sz) : ∀ x ∈ prt L z n, x.length = sz := by
  intro x hx
  rcases List.mem_append.1 hx with h | h
  · exact hL x h
  · rw [(List.mem_replicate.1 h).2]; exact hz
theorem flat_put5 {α : Type} (L : List (List α)) (i : Nat) (a b c d e : α) (hi : i < L.length) (h : ∀ x ∈ L, x.length = 5) : ((((L.flatten.set (i * 5) a).set (i * 5 + 1) b).set (i * 5 + 2) c).set (i * 5 + 3) d).set (i * 5 + 4) e = (L.set i [a, b, c, d, e]).flatten := by
  have st : ∀ (M : List (List α)) (y : List α) (j : Nat) (u : α), M.length = L.length → (∀ x ∈ M, x.length = 5) → y.length = 5 → j < 5 → (M.set i y).flatten.set (i * 5 + j) u = (M.set i (y.set j u)).flatten := by
    intro M y j u hM hx hy hj
    have hS : ∀ x ∈ M.set i y, x.length = 5 := fun x hm => by
      rcases List.mem_or_eq_of_mem_set hm with h' | rfl
      · exact hx x h'
      · exact hy
    rw [flat_set 5 u (M.set i y) i j (by rw [List.length_set, hM]; exact hi) hS hj, List.set_set]
    simp only [List.getElem_set_self]
  have hl := h L[i] (List.getElem_mem hi)
  have e0 : L = L.set i L[i] := by simp
  have r0 := st L L[i] 0 a rfl h hl (by omega)
  rw [← e0, Nat.add_zero] at r0
  rw [r0, st L _ 1 b rfl h (by simp [hl]) (by omega), st L _ 2 c rfl h (by simp [hl]) (by omega), st L _ 3 d rfl h (by simp [hl]) (by omega), st L _ 4 e rfl h (by simp [hl]) (by omega)]
  congr 2
  match hx : L[i], hl with
  | [y0, y1, y2, y3, y4], _ => rfl
theorem rows_apart {w : World} {b1 b2 : Nat} {e1 e2 : TypeId} {s1 s2 : Nat} {v1 v2 : Value} {n1 n2 : Nat} {x1 x2 : List Value} (h1 : w.ownsRow b1 e1 s1 v1 n1 x1) (h2 : w.ownsRow b2 e2 s2 v2 n2 x2) (he : e1 ≠ e2) : ∀ g, v2.ownBlock = some g → v1.ownBlock ≠ some g := by
  intro g hg2 hg1
  rcases h1.2 with ⟨rfl, -⟩ | ⟨g1, c1, u1, rfl, -, k1, -⟩
  · simp [Value.ownBlock] at hg1
  · rcases h2.2 with ⟨rfl, -⟩ | ⟨g2, c2, u2, rfl, -, k2, -⟩
    · simp [Value.ownBlock] at hg2
    · simp only [Value.ownBlock, Option.some.injEq] at hg1 hg2
      subst hg1 hg2
      rw [k1] at k2
      simp only [Option.some.injEq, Obj.cells.injEq] at k2
      exact he k2.2.1
end Go.Proofs.Ytaidhenkijjcfaa
