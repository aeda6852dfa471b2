/- Rows of structs: lists of equally long lists of cells, one behind the other. A block of five cells that is written. Drawn orders. -/
import Derived.Test.YtbjeonnaannofaaZaBig
import Derived.Test.YtbjeonnaannofaaZaTxVal
import Derived.Test.YtbjeonnaannofaaZaIn
namespace Go.Proofs.Ytbjeonnaannofaa
open Go.RowKit
set_option linter.unusedVariables false

theorem flat_len {α : Type} (sz : Nat) : ∀ (L : List (List α)), (∀ x ∈ L, x.length = sz) → L.flatten.length = L.length * sz
  | [], _ => by simp
  | x :: L, h => by
    rw [List.flatten_cons, List.length_append, flat_len sz L (fun y hy => h y (List.mem_cons_of_mem _ hy)), h x (List.mem_cons_self), List.length_cons, Nat.add_mul, Nat.one_mul]
    omega
theorem flat_get {α : Type} (sz : Nat) : ∀ (L : List (List α)) (i j : Nat) (hi : i < L.length), (∀ x ∈ L, x.length = sz) → j < sz → L.flatten[i * sz + j]? = L[i][j]?
  | [], i, j, hi, _, _ => by simp at hi
  | x :: L, i, j, hi, h, hj => by
    have hx := h x (List.mem_cons_self)
    cases i with
    | zero =>
      rw [List.flatten_cons, Nat.zero_mul, Nat.zero_add, List.getElem?_append_left (by omega)]
      rfl
    | succ i =>
      rw [List.flatten_cons, List.getElem?_append_right (by rw [hx, Nat.add_mul]; omega), hx, show (i + 1) * sz + j - sz = i * sz + j from by rw [Nat.add_mul]; omega]
      exact flat_get sz L i j (by simpa using hi) (fun y hy => h y (List.mem_cons_of_mem _ hy)) hj
theorem flat_set {α : Type} (sz : Nat) (u : α) : ∀ (L : List (List α)) (i j : Nat) (hi : i < L.length), (∀ x ∈ L, x.length = sz) → j < sz → L.flatten.set (i * sz + j) u = (L.set i (L[i].set j u)).flatten
  | [], i, j, hi, _, _ => by simp at hi
  | x :: L, i, j, hi, h, hj => by
    have hx := h x (List.mem_cons_self)
    cases i with
    | zero =>
      rw [List.flatten_cons, Nat.zero_mul, Nat.zero_add, List.set_append_left _ _ (by omega)]
      rfl
    | succ i =>
      rw [List.flatten_cons, List.set_append_right _ _ (by rw [hx, Nat.add_mul]; omega), hx, show (i + 1) * sz + j - sz = i * sz + j from by rw [Nat.add_mul]; omega]
      rw [flat_set sz u L i j (by simpa using hi) (fun y hy => h y (List.mem_cons_of_mem _ hy)) hj]
      rfl
/-- How far a row is made: the first k by f, the others as they were made. -/
def part {α β : Type} (f : α → List β) (z : List β) (l : List α) (k : Nat) : List (List β) := (l.take k).map f ++ List.replicate (l.length - k) z
theorem part_len {α β : Type} (f : α → List β) (z : List β) (l : List α) (k : Nat) (hk : k ≤ l.length) : (part f z l k).length = l.length := by simp [part]; omega
theorem part_zero {α β : Type} (f : α → List β) (z : List β) (l : List α) : part f z l 0 = List.replicate l.length z := by simp [part]
theorem part_all {α β : Type} (f : α → List β) (z : List β) (l : List α) : part f z l l.length = l.map f := by simp [part]
theorem part_at {α β : Type} (f : α → List β) (z : List β) (l : List α) (k : Nat) (hk : k < l.length) : (part f z l k)[k]'(by rw [part_len f z l k (by omega)]; exact hk) = z := by
  unfold part
  rw [List.getElem_append_right (by simp; omega)]
  simp
theorem part_next {α β : Type} (f : α → List β) (z : List β) (l : List α) (k : Nat) (hk : k < l.length) : (part f z l k).set k (f l[k]) = part f z l (k + 1) := by
  unfold part
  rw [List.take_succ_eq_append_getElem hk, List.set_append_right _ _ (by simp; omega), show l.length - k = (l.length - (k + 1)) + 1 from by omega, List.replicate_succ, show k - ((l.take k).map f).length = 0 from by simp; omega]
  simp only [List.map_append, List.map_cons, List.map_nil, List.set_cons_zero, List.append_assoc, List.singleton_append]
theorem part_sz {α β : Type} (sz : Nat) (f : α → List β) (z : List β) (l : List α) (k : Nat) (hf : ∀ a, (f a).length = sz) (hz : z.length = sz) : ∀ x ∈ part f z l k, x.length = sz := by
  intro x hx
  unfold part at hx
  rcases List.mem_append.1 hx with h | h
  · obtain ⟨a, _, rfl⟩ := List.mem_map.1 h; exact hf a
  · rw [(List.mem_replicate.1 h).2]; exact hz
theorem made_flat (zs : Array Value) (sz n : Nat) (hz : zs.size = sz) (h0 : 0 < sz) : (madeCells zs (n * sz)).toList = (List.replicate n zs.toList).flatten := by
  have hr : ∀ x ∈ List.replicate n zs.toList, x.length = sz := fun x hx => by rw [(List.mem_replicate.1 hx).2]; simpa using hz
  apply List.ext_getElem?
  intro t
  by_cases ht : t < n * sz
  · have h1 : t / sz < n := by rw [Nat.div_lt_iff_lt_mul h0]; exact ht
    have h2 : t % sz < sz := Nat.mod_lt _ h0
    have e := flat_get sz (List.replicate n zs.toList) (t / sz) (t % sz) (by simpa using h1) hr h2
    rw [show t / sz * sz + t % sz = t from by rw [Nat.mul_comm]; exact Nat.div_add_mod t sz] at e
    rw [e]
    have h3 : t % sz < zs.size := by rw [hz]; exact h2
    simp [madeCells, ht, hz]
    rw [getElem!_pos zs _ h3, Array.getElem?_eq_getElem h3]
  · rw [List.getElem?_eq_none (by simp [madeCells]; omega), List.getElem?_eq_none (by rw [flat_len sz _ hr]; simp; omega)]
/-- The block B of type t holds the cells cs, and may be written. -/
def Blk (W : World) (B : Nat) (t : TypeId) (cs : List Value) : Prop := W.heap[B]? = some (.cells cs.toArray t (0, 0))
theorem Blk.lt {W : World} {B : Nat} {t : TypeId} {cs : List Value} (h : Blk W B t cs) : B < W.heap.size := (Array.getElem?_eq_some_iff.1 h).1
theorem Blk.cell {W : World} {B : Nat} {t : TypeId} {cs : List Value} (h : Blk W B t cs) (j : Nat) : W.cell? ⟨B, j, none⟩ = cs[j]? := by simp [World.cell?, show W.heap[B]? = _ from h]
theorem Blk.frozen {W : World} {B : Nat} {t : TypeId} {cs : List Value} (h : Blk W B t cs) (j : Nat) : W.frozen? ⟨B, j, none⟩ = false := by simp [World.frozen?, show W.heap[B]? = _ from h]
theorem Blk.new (W : World) (t : TypeId) (cs : List Value) : Blk (W.alloc (.cells cs.toArray t)) W.heap.size t cs := heap_alloc_new W _
theorem Blk.below {W V : World} {B K : Nat} {t : TypeId} {cs : List Value} (h : Blk W B t cs) (hb : Below K W V) (hK : B < K) : Blk V B t cs := (hb.block B hK).trans h
theorem grown_set (w : World) (g j : Nat) (u : Value) : w.grownBy (w.setCell ⟨g, j, none⟩ u) (some g) :=
  ⟨rfl, rfl, rfl, by simp, fun k _ hk => heap_setCell_other w ⟨g, j, none⟩ k u (fun e => hk (by simp [e]))⟩
theorem row_set {base : Nat} {w : World} {e : TypeId} {size : Nat} {v : Value} {n : Nat} {xs : List Value} (h : w.ownsRow base e size v n xs) (g j : Nat) (u : Value) (hne : ∀ k, v.ownBlock = some k → k ≠ g) : (w.setCell ⟨g, j, none⟩ u).ownsRow base e size v n xs := by
  refine World.ownsRow.kept h (grown_set w g j u) ?_
  cases hv : v.ownBlock with
  | none => exact .inl rfl
  | some k => exact .inr (fun e => hne k hv (by injection e))
theorem row_below {B base : Nat} {w w' : World} {e : TypeId} {size : Nat} {v : Value} {n : Nat} {xs : List Value} (h : w.ownsRow base e size v n xs) (hb : Below B w w') (hB : w.heap.size ≤ B) : w'.ownsRow base e size v n xs := by
  refine ⟨h.1, ?_⟩
  rcases h.2 with h' | ⟨g, cap, cur, hv, hbb, hg, r⟩
  · exact .inl h'
  · refine .inr ⟨g, cap, cur, hv, hbb, ?_, r⟩
    have hlt : g < w.heap.size := (Array.getElem?_eq_some_iff.1 hg).1
    rw [hb.block g (by omega)]; exact hg
theorem flat_put2 {α : Type} (L : List (List α)) (i : Nat) (a b : α) (hi : i < L.length) (h : ∀ x ∈ L, x.length = 2) : (L.flatten.set (i * 2) a).set (i * 2 + 1) b = (L.set i [a, b]).flatten := by
  have e0 := flat_set 2 a L i 0 hi h (by omega)
  rw [Nat.add_zero] at e0
  have hL : ∀ x ∈ L.set i (L[i].set 0 a), x.length = 2 := fun x hx => by
    rcases List.mem_or_eq_of_mem_set hx with h' | rfl
    · exact h x h'
    · simpa using h L[i] (List.getElem_mem hi)
  rw [e0, flat_set 2 b _ i 1 (by simpa using hi) hL (by omega)]
  have hl := h L[i] (List.getElem_mem hi)
  congr 1
  rw [List.set_set]
  congr 1
  simp only [List.getElem_set_self]
  match hx : L[i], hl with
  | [x, y], _ => rfl
/-- The rows L, and behind them as many z as there are tO be n. -/
def prt {α : Type} (L : List (List α)) (z : List α) (n : Nat) : List (List α) := L ++ List.replicate (n - L.length) z
theorem prt_len {α : Type} (L : List (List α)) (z : List α) (n : Nat) (h : L.length ≤ n) : (prt L z n).length = n := by simp [prt]; omega
theorem prt_zero {α : Type} (z : List α) (n : Nat) : prt [] z n = List.replicate n z := by simp [prt]
theorem prt_all {α : Type} (L : List (List α)) (z : List α) (n : Nat) (h : L.length = n) : prt L z n = L := by simp [prt, h]
theorem prt_at {α : Type} (L : List (List α)) (z : List α) (n k : Nat) (hk : k = L.length) (h : k < n) : (prt L z n)[k]'(by rw [prt_len L z n (by omega)]; exact h) = z := by
  subst hk
  unfold prt
  rw [List.getElem_append_right (Nat.le_refl _)]
  simp
theorem prt_next {α : Type} (L : List (List α)) (z x : List α) (n k : Nat) (hk : k = L.length) (h : k < n) : (prt L z n).set k x = prt (L ++ [x]) z n := by
  subst hk
  unfold prt
  rw [List.set_append_right _ _ (Nat.le_refl _), Nat.sub_self, show n - L.length = (n - (L ++ [x]).length) + 1 from by simp; omega, List.replicate_succ, List.set_cons_zero, List.append_assoc]
  rfl
theorem prt_sz {α : Type} (sz : Nat) (L : List (List α)) (z : List α) (n : Nat) (hL : ∀ x ∈ L, x.length = sz) (hz : z.length = sz) : ∀ x ∈ prt L z n, x.length = sz := by
  intro x hx
  rcases List.mem_append.1 hx with h | h
  · exact hL x h
  · rw [(List.mem_replicate.1 h).2]; exact hz
theorem flat_put5 {α : Type} (L : List (List α)) (i : Nat) (a b c d e : α) (hi : i < L.length) (h : ∀ x ∈ L, x.length = 5) : ((((L.flatten.set (i * 5) a).set (i * 5 + 1) b).set (i * 5 + 2) c).set (i * 5 + 3) d).set (i * 5 + 4) e = (L.set i [a, b, c, d, e]).flatten := by
  have st : ∀ (M : List (List α)) (y : List α) (j : Nat) (u : α), M.length = L.length → (∀ x ∈ M, x.length = 5) → y.length = 5 → j < 5 → (M.set i y).flatten.set (i * 5 + j) u = (M.set i (y.set j u)).flatten := by
    intro M y j u hM hx hy hj
    have hS : ∀ x ∈ M.set i y, x.length = 5 := fun x hm => by
      rcases List.mem_or_eq_of_mem_set hm with h' | rfl
      · exact hx x h'
      · exact hy
    rw [flat_set 5 u (M.set i y) i j (by rw [List.length_set, hM]; exact hi) hS hj, List.set_set]
    simp only [List.getElem_set_self]
  have hl := h L[i] (List.getElem_mem hi)
  have e0 : L = L.set i L[i] := by simp
  have r0 := st L L[i] 0 a rfl h hl (by omega)
  rw [← e0, Nat.add_zero] at r0
  rw [r0, st L _ 1 b rfl h (by simp [hl]) (by omega), st L _ 2 c rfl h (by simp [hl]) (by omega), st L _ 3 d rfl h (by simp [hl]) (by omega), st L _ 4 e rfl h (by simp [hl]) (by omega)]
  congr 2
  match hx : L[i], hl with
  | [y0, y1, y2, y3, y4], _ => rfl
theorem rows_apart {w : World} {b1 b2 : Nat} {e1 e2 : TypeId} {s1 s2 : Nat} {v1 v2 : Value} {n1 n2 : Nat} {x1 x2 : List Value} (h1 : w.ownsRow b1 e1 s1 v1 n1 x1) (h2 : w.ownsRow b2 e2 s2 v2 n2 x2) (he : e1 ≠ e2) : ∀ g, v2.ownBlock = some g → v1.ownBlock ≠ some g := by
  intro g hg2 hg1
  rcases h1.2 with ⟨rfl, -⟩ | ⟨g1, c1, u1, rfl, -, k1, -⟩
  · simp [Value.ownBlock] at hg1
  · rcases h2.2 with ⟨rfl, -⟩ | ⟨g2, c2, u2, rfl, -, k2, -⟩
    · simp [Value.ownBlock] at hg2
    · simp only [Value.ownBlock, Option.some.injEq] at hg1 hg2
      subst hg1 hg2
      rw [k1] at k2
      simp only [Option.some.injEq, Obj.cells.injEq] at k2
      exact he k2.2.1
end Go.Proofs.Ytbjeonnaannofaa

namespace Go.Proofs.Ytbjeonnaannofaa
open Go.RowKit
set_option linter.unusedVariables false

theorem blk_put5 {W : World} {B : Nat} {t : TypeId} {a0 a1 a2 a3 a4 : Value} (h : Blk W B t [a0, a1, a2, a3, a4]) (y0 y1 y2 y3 y4 : Value) :
    Blk (((((W.setCell ⟨B, 0, none⟩ y0).setCell ⟨B, 1, none⟩ y1).setCell ⟨B, 2, none⟩ y2).setCell ⟨B, 3, none⟩ y3).setCell ⟨B, 4, none⟩ y4) B t [y0, y1, y2, y3, y4] := by
  have e0 : Blk (W.setCell ⟨B, 0, none⟩ y0) B t [y0, a1, a2, a3, a4] := heap_setCell_same W B 0 #[a0, a1, a2, a3, a4] t y0 h
  have e1 : Blk ((W.setCell ⟨B, 0, none⟩ y0).setCell ⟨B, 1, none⟩ y1) B t [y0, y1, a2, a3, a4] := heap_setCell_same _ B 1 #[y0, a1, a2, a3, a4] t y1 e0
  have e2 : Blk (((W.setCell ⟨B, 0, none⟩ y0).setCell ⟨B, 1, none⟩ y1).setCell ⟨B, 2, none⟩ y2) B t [y0, y1, y2, a3, a4] := heap_setCell_same _ B 2 #[y0, y1, a2, a3, a4] t y2 e1
  have e3 : Blk ((((W.setCell ⟨B, 0, none⟩ y0).setCell ⟨B, 1, none⟩ y1).setCell ⟨B, 2, none⟩ y2).setCell ⟨B, 3, none⟩ y3) B t [y0, y1, y2, y3, a4] := heap_setCell_same _ B 3 #[y0, y1, y2, a3, a4] t y3 e2
  exact heap_setCell_same _ B 4 #[y0, y1, y2, y3, a4] t y4 e3
theorem blk_other5 {W : World} {B b : Nat} {t : TypeId} {cs : List Value} (h : Blk W B t cs) (hne : B ≠ b) (y0 y1 y2 y3 y4 : Value) :
    Blk (((((W.setCell ⟨b, 0, none⟩ y0).setCell ⟨b, 1, none⟩ y1).setCell ⟨b, 2, none⟩ y2).setCell ⟨b, 3, none⟩ y3).setCell ⟨b, 4, none⟩ y4) B t cs := by
  unfold Blk
  rw [heap_setCell_other _ ⟨b, 4, none⟩ B _ hne, heap_setCell_other _ ⟨b, 3, none⟩ B _ hne, heap_setCell_other _ ⟨b, 2, none⟩ B _ hne, heap_setCell_other _ ⟨b, 1, none⟩ B _ hne, heap_setCell_other _ ⟨b, 0, none⟩ B _ hne]
  exact h
end Go.Proofs.Ytbjeonnaannofaa

namespace Go.Proofs.Ytbjeonnaannofaa
open Go.RowKit
set_option linter.unusedVariables false

theorem blk_notg5 {w w' : World} {B g : Nat} {t : TypeId} {cs : List Value} (h : Blk w B t cs) (hg : w.grownBy w' (some g)) (hne : B ≠ g) : Blk w' B t cs :=
  (hg.block B h.lt (fun e => hne (by injection e))).trans h
theorem below_put5 (W : World) (b : Nat) (y0 y1 y2 y3 y4 : Value) : Below b W (((((W.setCell ⟨b, 0, none⟩ y0).setCell ⟨b, 1, none⟩ y1).setCell ⟨b, 2, none⟩ y2).setCell ⟨b, 3, none⟩ y3).setCell ⟨b, 4, none⟩ y4) :=
  (((((Below.refl _ W).setCell (p := ⟨b, 0, none⟩) (Nat.le_refl _) _).setCell (p := ⟨b, 1, none⟩) (Nat.le_refl _) _).setCell (p := ⟨b, 2, none⟩) (Nat.le_refl _) _).setCell (p := ⟨b, 3, none⟩) (Nat.le_refl _) _).setCell (p := ⟨b, 4, none⟩) (Nat.le_refl _) _
/-- What is drawn is small. -/
def SmT (t : Tx5) : Prop := t.2.1.size ≤ 9 ∧ t.2.2.1.size ≤ 9 ∧ (-10000000 ≤ t.1 ∧ t.1 ≤ 10000000) ∧ (-10000000 ≤ t.2.2.2.1 ∧ t.2.2.2.1 ≤ 10000000) ∧ (-10000000 ≤ t.2.2.2.2 ∧ t.2.2.2.2 ≤ 10000000)
/-- What a draw of an order answers. -/
def DrT (w0 w : World) (g : Nat) (cv : Value) (code : List UInt8) (e : Ending) (w' : World) : Prop := ∃ t : Tx5, e = .returned (txV t) ∧ SmT t ∧ Cur w0 w' g cv code ∧ w.grownBy w' (some g)

set_option maxRecDepth 20000 in
set_option maxHeartbeats 2000000 in
theorem l5Tx_any (w0 w : World) (g : Nat) (cv : Value) (code : List UInt8) (hc : Cur w0 w g cv code) (hl : code.length ≤ 1048576) :
    Calls Try.prog 135 #[.pointer (some ⟨g, 0, none⟩)] w fun e w' => DrT w0 w g cv code e w' := by
  have hgl := hc.lt
  obtain ⟨w1, hw1⟩ : ∃ w1, w.alloc (.cells #[.int .i64 0, .string { data := #[] }, .string { data := #[] }, .int .i64 0, .int .i64 0] 94) = w1 := ⟨_, rfl⟩
  have hb1 : Below w.heap.size w w1 := by rw [← hw1]; exact (Below.refl _ w).alloc (Nat.le_refl _) _
  have hs1 : w1.heap.size = w.heap.size + 1 := by rw [← hw1]; simp
  have K1 : Hid (Blk w1 w.heap.size 94 [.int .i64 0, .string { data := #[] }, .string { data := #[] }, .int .i64 0, .int .i64 0]) := hide (by rw [← hw1]; exact Blk.new w _ _)
  have Hc1 := hide (hc.below hb1 hgl)
  have HG1 := hide (grw_of_below (some g) hb1 (Nat.le_refl _))
  clear hc hb1
  go_enter Try.func135, Try.ntmps135
  go_wp2_with fail
  refine (l1Below_any w0 _ g cv code 3 Hc1.out hl (by omega) (by omega)).mono ?_
  rintro e w2 ⟨x, rfl, hx, -, hc2, hg2⟩
  have hx3 : (x : Int) < 3 := hx (by omega)
  have K2 := hide (blk_notg5 K1.out hg2 (by omega))
  have HG2 := hide (grw_trans HG1.out hg2)
  have hs2 := hg2.size
  clear hg2 hx K1 HG1 Hc1
  go_wp2_with fail
  refine (l1Name_any w0 _ g cv code hc2 hl).mono ?_
  rintro e w3 ⟨f, rfl, hf9, hc3, hg3⟩
  have K3 := hide (blk_notg5 K2.out hg3 (by omega))
  have HG3 := hide (grw_trans HG2.out hg3)
  have hs3 := hg3.size
  obtain ⟨w4, hw4⟩ : ∃ w4, w3.alloc (.cells #[.int .i64 1, .int .i64 5, .int .i64 10, .int .i64 3, .int .i64 200] 3) = w4 := ⟨_, rfl⟩
  have hb4 : Below w3.heap.size w3 w4 := by rw [← hw4]; exact (Below.refl _ w3).alloc (Nat.le_refl _) _
  have HI4 : Hid (IntsAt w4 w3.heap.size [1, 5, 10, 3, 200]) := hide (by rw [← hw4]; exact ints_new w3 [1, 5, 10, 3, 200] 3)
  have Hc4 := hide (hc3.below hb4 hc3.lt)
  have K4 := hide (K3.out.below hb4 (by omega))
  have HG4 := hide (grw_trans HG3.out (grw_of_below (some g) hb4 (Nat.le_refl _)))
  have hs4 := hb4.size
  clear hc2 hc3 hg3 hb4 K2 K3 HG2 HG3
  go_wp2_with fail
  refine (l1Int_any w0 _ g w3.heap.size cv code [1, 5, 10, 3, 200] Hc4.out hl HI4.out (by omega) (by simp) (by simp) 5).mono ?_
  rintro e w5 ⟨am, rfl, ham, hc5, hg5⟩
  have hamb : 0 ≤ am ∧ am ≤ 200 := by simp at ham; omega
  have K5 := hide (blk_notg5 K4.out hg5 (by omega))
  have HG5 := hide (grw_trans HG4.out hg5)
  have hs5 := hg5.size
  clear ham hg5 K4 HG4 Hc4 HI4
  go_wp2_with fail
  refine (l1Below_any w0 _ g cv code 4 hc5 hl (by omega) (by omega)).mono ?_
  rintro e w6 ⟨no, rfl, hno, -, hc6, hg6⟩
  have hno4 : (no : Int) < 4 := hno (by omega)
  have hk6 := blk_notg5 K5.out hg6 (by omega)
  have hG6 := grw_trans HG5.out hg6
  have hs6 := hg6.size
  have hT7 := Blk.new w6 94 [.int .i64 (1 + (x : Int)), .string f, .string { data := #[] }, .int .i64 am, .int .i64 (no : Int)]
  have hb7 : Below w6.heap.size w6 (w6.alloc (.cells #[.int .i64 (1 + (x : Int)), .string f, .string { data := #[] }, .int .i64 am, .int .i64 (no : Int)] 94)) := (Below.refl _ w6).alloc (Nat.le_refl _) _
  have hk7 := hk6.below hb7 (by omega)
  have Hc7 := hide (hc6.below hb7 hc6.lt)
  have HG7 := hide (grw_trans hG6 (grw_of_below (some g) hb7 (Nat.le_refl _)))
  clear hc5 hg6 hno K5 HG5 hc6 hG6 hk6 hb7
  by_cases hx0 : x = 0
  · subst hx0
    have HK := hide hk7
    have HT := hide hT7
    clear hk7 hT7
    go_wp2_with fail
    refine (l1Name_any w0 _ g cv code Hc7.out hl).mono ?_
    rintro e w8 ⟨tO, rfl, ht9, hc8, hg8⟩
    have hk7 := blk_notg5 HK.out hg8 (by omega)
    have hT7 := blk_notg5 HT.out hg8 (by omega)
    have HG8 := hide (grw_trans HG7.out hg8)
    have Hc8 := hide hc8
    have hs8 := hg8.size
    clear HK HT HG7 Hc7 hc8 hg8
    have r0 := hk7.cell 0
    have fr0 := hk7.frozen 0
    have r1 := hk7.cell 1
    have fr1 := hk7.frozen 1
    have r2 := hk7.cell 2
    have fr2 := hk7.frozen 2
    have r3 := hk7.cell 3
    have fr3 := hk7.frozen 3
    have r4 := hk7.cell 4
    have fr4 := hk7.frozen 4
    have t0 := hT7.cell 0
    have ft0 := hT7.frozen 0
    have t1 := hT7.cell 1
    have ft1 := hT7.frozen 1
    have t2 := hT7.cell 2
    have ft2 := hT7.frozen 2
    have t3 := hT7.cell 3
    have ft3 := hT7.frozen 3
    have t4 := hT7.cell 4
    have ft4 := hT7.frozen 4
    simp only [List.getElem?_cons_zero, List.getElem?_cons_succ] at r0 r1 r2 r3 r4 t0 t1 t2 t3 t4
    go_wp2
    refine bodyPost_ret (v := txV (1, f, tO, am, (no : Int))) (by simp [results, Try.f135, go_sem, txV, r0, r1, r2, r3, r4]) rfl ?_
    have hbR := ((Below.refl w.heap.size w8).setCell (p := ⟨w6.heap.size, 2, none⟩) (show w.heap.size ≤ w6.heap.size by omega) (.string tO)).trans (below_put5 (w8.setCell ⟨w6.heap.size, 2, none⟩ (.string tO)) w.heap.size (.int .i64 1) (.string f) (.string tO) (.int .i64 am) (.int .i64 (no : Int)))
    exact ⟨(1, f, tO, am, (no : Int)), rfl, by unfold SmT; simp only; omega, Hc8.out.below hbR hgl, grw_below HG8.out hbR (Nat.le_refl _)⟩
  · have hne : ((1 + (x : Int)) == 1) = false := by rw [beq_eq_false_iff_ne]; omega
    have r0 := hk7.cell 0
    have fr0 := hk7.frozen 0
    have r1 := hk7.cell 1
    have fr1 := hk7.frozen 1
    have r2 := hk7.cell 2
    have fr2 := hk7.frozen 2
    have r3 := hk7.cell 3
    have fr3 := hk7.frozen 3
    have r4 := hk7.cell 4
    have fr4 := hk7.frozen 4
    have t0 := hT7.cell 0
    have ft0 := hT7.frozen 0
    have t1 := hT7.cell 1
    have ft1 := hT7.frozen 1
    have t2 := hT7.cell 2
    have ft2 := hT7.frozen 2
    have t3 := hT7.cell 3
    have ft3 := hT7.frozen 3
    have t4 := hT7.cell 4
    have ft4 := hT7.frozen 4
    simp only [List.getElem?_cons_zero, List.getElem?_cons_succ] at r0 r1 r2 r3 r4 t0 t1 t2 t3 t4
    go_wp2
    refine bodyPost_ret (v := txV (1 + (x : Int), f, ByteArray.empty, am, (no : Int))) (by simp [results, Try.f135, go_sem, txV, r0, r1, r2, r3, r4]; rfl) rfl ?_
    have hbR := below_put5 (w6.alloc (.cells #[.int .i64 (1 + (x : Int)), .string f, .string { data := #[] }, .int .i64 am, .int .i64 (no : Int)] 94)) w.heap.size (.int .i64 (1 + (x : Int))) (.string f) (.string { data := #[] }) (.int .i64 am) (.int .i64 (no : Int))
    exact ⟨(1 + (x : Int), f, ByteArray.empty, am, (no : Int)), rfl, by unfold SmT; simp only [ByteArray.size_empty]; omega, Hc7.out.below hbR hgl, grw_below HG7.out hbR (Nat.le_refl _)⟩
set_option maxRecDepth 20000 in
set_option maxHeartbeats 2000000 in
theorem l5Any_any (w0 w : World) (g : Nat) (cv : Value) (code : List UInt8) (hc : Cur w0 w g cv code) (hl : code.length ≤ 1048576) :
    Calls Try.prog 140 #[.pointer (some ⟨g, 0, none⟩)] w fun e w' => DrT w0 w g cv code e w' := by
  have hgl := hc.lt
  obtain ⟨w1, hw1⟩ : ∃ w1, w.alloc (.cells #[.int .i64 0, .string { data := #[] }, .string { data := #[] }, .int .i64 0, .int .i64 0] 94) = w1 := ⟨_, rfl⟩
  have hb1 : Below w.heap.size w w1 := by rw [← hw1]; exact (Below.refl _ w).alloc (Nat.le_refl _) _
  have hs1 : w1.heap.size = w.heap.size + 1 := by rw [← hw1]; simp
  have K1 : Hid (Blk w1 w.heap.size 94 [.int .i64 0, .string { data := #[] }, .string { data := #[] }, .int .i64 0, .int .i64 0]) := hide (by rw [← hw1]; exact Blk.new w _ _)
  have Hc1 := hide (hc.below hb1 hgl)
  have HG1 := hide (grw_of_below (some g) hb1 (Nat.le_refl _))
  clear hc hb1
  go_enter Try.func140, Try.ntmps140
  go_wp2_with fail
  refine (l5Tx_any w0 _ g cv code Hc1.out hl).mono ?_
  rintro e w2 ⟨⟨k, f, tO, am, no⟩, rfl, hsm, hc2, hg2⟩
  have hs2 := hg2.size
  obtain ⟨w3, hw3⟩ : ∃ w3, w2.alloc (.cells #[.int .i64 k, .string f, .string tO, .int .i64 am, .int .i64 no] 94) = w3 := ⟨_, rfl⟩
  have hb3 : Below w2.heap.size w2 w3 := by rw [← hw3]; exact (Below.refl _ w2).alloc (Nat.le_refl _) _
  have hs3 : w3.heap.size = w2.heap.size + 1 := by rw [← hw3]; simp
  have T3 : Hid (Blk w3 w2.heap.size 94 [.int .i64 k, .string f, .string tO, .int .i64 am, .int .i64 no]) := hide (by rw [← hw3]; exact Blk.new w2 _ _)
  have K3 := hide ((blk_notg5 K1.out hg2 (by omega)).below hb3 (by omega))
  have Hc3 := hide (hc2.below hb3 hc2.lt)
  have HG3 := hide (grw_trans (grw_trans HG1.out hg2) (grw_of_below (some g) hb3 (Nat.le_refl _)))
  have HS := hide hsm
  clear hc2 hg2 hb3 K1 Hc1 HG1 hsm
  simp only [txV]
  go_wp2_with fail
  refine (l1Below_any w0 _ g cv code 12 Hc3.out hl (by omega) (by omega)).mono ?_
  rintro e w4 ⟨y, rfl, -, -, hc4, hg4⟩
  have K4 := hide (blk_notg5 K3.out hg4 (by omega))
  have T4 := hide (blk_notg5 T3.out hg4 (by omega))
  have HG4 := hide (grw_trans HG3.out hg4)
  have Hc4 := hide hc4
  have hs4 := hg4.size
  clear hc4 hg4 K3 T3 HG3 Hc3
  by_cases hy0 : y = 0
  · subst hy0
    go_wp2_with fail
    refine (l1Below_any w0 _ g cv code 5 Hc4.out hl (by omega) (by omega)).mono ?_
    rintro e w5 ⟨z, rfl, hz, -, hc5, hg5⟩
    have hz5 : (z : Int) < 5 := hz (by omega)
    have hk5 := blk_notg5 K4.out hg5 (by omega)
    have hT5 := blk_notg5 T4.out hg5 (by omega)
    have HG5 := hide (grw_trans HG4.out hg5)
    have Hc5 := hide hc5
    have hs5 := hg5.size
    clear hc5 hg5
    have r0 := hk5.cell 0
    have fr0 := hk5.frozen 0
    have r1 := hk5.cell 1
    have fr1 := hk5.frozen 1
    have r2 := hk5.cell 2
    have fr2 := hk5.frozen 2
    have r3 := hk5.cell 3
    have fr3 := hk5.frozen 3
    have r4 := hk5.cell 4
    have fr4 := hk5.frozen 4
    have t0 := hT5.cell 0
    have ft0 := hT5.frozen 0
    have t1 := hT5.cell 1
    have ft1 := hT5.frozen 1
    have t2 := hT5.cell 2
    have ft2 := hT5.frozen 2
    have t3 := hT5.cell 3
    have ft3 := hT5.frozen 3
    have t4 := hT5.cell 4
    have ft4 := hT5.frozen 4
    simp only [List.getElem?_cons_zero, List.getElem?_cons_succ] at r0 r1 r2 r3 r4 t0 t1 t2 t3 t4
    go_wp2
    refine bodyPost_ret (v := txV ((z : Int), f, tO, am, no)) (by simp [results, Try.f140, go_sem, txV, r0, r1, r2, r3, r4]) rfl ?_
    have hbR := ((Below.refl w.heap.size w5).setCell (p := ⟨w2.heap.size, 0, none⟩) (show w.heap.size ≤ w2.heap.size by omega) (.int .i64 (z : Int))).trans (below_put5 (w5.setCell ⟨w2.heap.size, 0, none⟩ (.int .i64 (z : Int))) w.heap.size (.int .i64 (z : Int)) (.string f) (.string tO) (.int .i64 am) (.int .i64 no))
    have hsm := HS.out
    unfold SmT at hsm
    simp only at hsm
    exact ⟨((z : Int), f, tO, am, no), rfl, by unfold SmT; simp only; omega, Hc5.out.below hbR hgl, grw_below HG5.out hbR (Nat.le_refl _)⟩
  have ny0 : ((y : Int) == 0) = false := by rw [beq_eq_false_iff_ne]; omega
  by_cases hy1 : y = 1
  · subst hy1
    obtain ⟨wi, hwi⟩ : ∃ wi, w4.alloc (.cells #[.int .i64 0, .int .i64 (-1), .int .i64 1000000, .int .i64 1000001] 3) = wi := ⟨_, rfl⟩
    have hbi : Below w4.heap.size w4 wi := by rw [← hwi]; exact (Below.refl _ w4).alloc (Nat.le_refl _) _
    have HIi : Hid (IntsAt wi w4.heap.size [0, -1, 1000000, 1000001]) := hide (by rw [← hwi]; exact ints_new w4 [0, -1, 1000000, 1000001] 3)
    have Hci := hide (Hc4.out.below hbi Hc4.out.lt)
    have Ki := hide (K4.out.below hbi (by omega))
    have Ti := hide (T4.out.below hbi (by omega))
    have HGi := hide (grw_trans HG4.out (grw_of_below (some g) hbi (Nat.le_refl _)))
    have hsi := hbi.size
    clear hbi K4 T4 HG4 Hc4
    go_wp2_with fail
    refine (l1Int_any w0 _ g w4.heap.size cv code [0, -1, 1000000, 1000001] Hci.out hl HIi.out (by omega) (by simp) (by simp) 4).mono ?_
    rintro e w5 ⟨z, rfl, hz, hc5, hg5⟩
    have hzb : -10000000 ≤ z ∧ z ≤ 10000000 := by simp at hz; omega
    clear hz
    have hk5 := blk_notg5 Ki.out hg5 (by omega)
    have hT5 := blk_notg5 Ti.out hg5 (by omega)
    have HG5 := hide (grw_trans HGi.out hg5)
    have Hc5 := hide hc5
    have hs5 := hg5.size
    clear hc5 hg5
    have r0 := hk5.cell 0
    have fr0 := hk5.frozen 0
    have r1 := hk5.cell 1
    have fr1 := hk5.frozen 1
    have r2 := hk5.cell 2
    have fr2 := hk5.frozen 2
    have r3 := hk5.cell 3
    have fr3 := hk5.frozen 3
    have r4 := hk5.cell 4
    have fr4 := hk5.frozen 4
    have t0 := hT5.cell 0
    have ft0 := hT5.frozen 0
    have t1 := hT5.cell 1
    have ft1 := hT5.frozen 1
    have t2 := hT5.cell 2
    have ft2 := hT5.frozen 2
    have t3 := hT5.cell 3
    have ft3 := hT5.frozen 3
    have t4 := hT5.cell 4
    have ft4 := hT5.frozen 4
    simp only [List.getElem?_cons_zero, List.getElem?_cons_succ] at r0 r1 r2 r3 r4 t0 t1 t2 t3 t4
    go_wp2
    refine bodyPost_ret (v := txV (k, f, tO, z, no)) (by simp [results, Try.f140, go_sem, txV, r0, r1, r2, r3, r4]) rfl ?_
    have hbR := ((Below.refl w.heap.size w5).setCell (p := ⟨w2.heap.size, 3, none⟩) (show w.heap.size ≤ w2.heap.size by omega) (.int .i64 z)).trans (below_put5 (w5.setCell ⟨w2.heap.size, 3, none⟩ (.int .i64 z)) w.heap.size (.int .i64 k) (.string f) (.string tO) (.int .i64 z) (.int .i64 no))
    have hsm := HS.out
    unfold SmT at hsm
    simp only at hsm
    exact ⟨(k, f, tO, z, no), rfl, by unfold SmT; simp only; omega, Hc5.out.below hbR hgl, grw_below HG5.out hbR (Nat.le_refl _)⟩
  have ny1 : ((y : Int) == 1) = false := by rw [beq_eq_false_iff_ne]; omega
  by_cases hy2 : y = 2
  · subst hy2
    go_wp2_with fail
    refine (l1NameAny_any w0 _ g cv code Hc4.out hl).mono ?_
    rintro e w5 ⟨z, rfl, hz9, hc5, hg5⟩
    have hk5 := blk_notg5 K4.out hg5 (by omega)
    have hT5 := blk_notg5 T4.out hg5 (by omega)
    have HG5 := hide (grw_trans HG4.out hg5)
    have Hc5 := hide hc5
    have hs5 := hg5.size
    clear hc5 hg5
    have r0 := hk5.cell 0
    have fr0 := hk5.frozen 0
    have r1 := hk5.cell 1
    have fr1 := hk5.frozen 1
    have r2 := hk5.cell 2
    have fr2 := hk5.frozen 2
    have r3 := hk5.cell 3
    have fr3 := hk5.frozen 3
    have r4 := hk5.cell 4
    have fr4 := hk5.frozen 4
    have t0 := hT5.cell 0
    have ft0 := hT5.frozen 0
    have t1 := hT5.cell 1
    have ft1 := hT5.frozen 1
    have t2 := hT5.cell 2
    have ft2 := hT5.frozen 2
    have t3 := hT5.cell 3
    have ft3 := hT5.frozen 3
    have t4 := hT5.cell 4
    have ft4 := hT5.frozen 4
    simp only [List.getElem?_cons_zero, List.getElem?_cons_succ] at r0 r1 r2 r3 r4 t0 t1 t2 t3 t4
    go_wp2
    refine bodyPost_ret (v := txV (k, f, z, am, no)) (by simp [results, Try.f140, go_sem, txV, r0, r1, r2, r3, r4]) rfl ?_
    have hbR := ((Below.refl w.heap.size w5).setCell (p := ⟨w2.heap.size, 2, none⟩) (show w.heap.size ≤ w2.heap.size by omega) (.string z)).trans (below_put5 (w5.setCell ⟨w2.heap.size, 2, none⟩ (.string z)) w.heap.size (.int .i64 k) (.string f) (.string z) (.int .i64 am) (.int .i64 no))
    have hsm := HS.out
    unfold SmT at hsm
    simp only at hsm
    exact ⟨(k, f, z, am, no), rfl, by unfold SmT; simp only; omega, Hc5.out.below hbR hgl, grw_below HG5.out hbR (Nat.le_refl _)⟩
  have ny2 : ((y : Int) == 2) = false := by rw [beq_eq_false_iff_ne]; omega
  by_cases hy3 : y = 3
  · subst hy3
    obtain ⟨wi, hwi⟩ : ∃ wi, w4.alloc (.cells #[.int .i64 (-1), .int .i64 10000, .int .i64 10001] 3) = wi := ⟨_, rfl⟩
    have hbi : Below w4.heap.size w4 wi := by rw [← hwi]; exact (Below.refl _ w4).alloc (Nat.le_refl _) _
    have HIi : Hid (IntsAt wi w4.heap.size [-1, 10000, 10001]) := hide (by rw [← hwi]; exact ints_new w4 [-1, 10000, 10001] 3)
    have Hci := hide (Hc4.out.below hbi Hc4.out.lt)
    have Ki := hide (K4.out.below hbi (by omega))
    have Ti := hide (T4.out.below hbi (by omega))
    have HGi := hide (grw_trans HG4.out (grw_of_below (some g) hbi (Nat.le_refl _)))
    have hsi := hbi.size
    clear hbi K4 T4 HG4 Hc4
    go_wp2_with fail
    refine (l1Int_any w0 _ g w4.heap.size cv code [-1, 10000, 10001] Hci.out hl HIi.out (by omega) (by simp) (by simp) 3).mono ?_
    rintro e w5 ⟨z, rfl, hz, hc5, hg5⟩
    have hzb : -10000000 ≤ z ∧ z ≤ 10000000 := by simp at hz; omega
    clear hz
    have hk5 := blk_notg5 Ki.out hg5 (by omega)
    have hT5 := blk_notg5 Ti.out hg5 (by omega)
    have HG5 := hide (grw_trans HGi.out hg5)
    have Hc5 := hide hc5
    have hs5 := hg5.size
    clear hc5 hg5
    have r0 := hk5.cell 0
    have fr0 := hk5.frozen 0
    have r1 := hk5.cell 1
    have fr1 := hk5.frozen 1
    have r2 := hk5.cell 2
    have fr2 := hk5.frozen 2
    have r3 := hk5.cell 3
    have fr3 := hk5.frozen 3
    have r4 := hk5.cell 4
    have fr4 := hk5.frozen 4
    have t0 := hT5.cell 0
    have ft0 := hT5.frozen 0
    have t1 := hT5.cell 1
    have ft1 := hT5.frozen 1
    have t2 := hT5.cell 2
    have ft2 := hT5.frozen 2
    have t3 := hT5.cell 3
    have ft3 := hT5.frozen 3
    have t4 := hT5.cell 4
    have ft4 := hT5.frozen 4
    simp only [List.getElem?_cons_zero, List.getElem?_cons_succ] at r0 r1 r2 r3 r4 t0 t1 t2 t3 t4
    go_wp2
    refine bodyPost_ret (v := txV (k, f, tO, am, z)) (by simp [results, Try.f140, go_sem, txV, r0, r1, r2, r3, r4]) rfl ?_
    have hbR := ((Below.refl w.heap.size w5).setCell (p := ⟨w2.heap.size, 4, none⟩) (show w.heap.size ≤ w2.heap.size by omega) (.int .i64 z)).trans (below_put5 (w5.setCell ⟨w2.heap.size, 4, none⟩ (.int .i64 z)) w.heap.size (.int .i64 k) (.string f) (.string tO) (.int .i64 am) (.int .i64 z))
    have hsm := HS.out
    unfold SmT at hsm
    simp only at hsm
    exact ⟨(k, f, tO, am, z), rfl, by unfold SmT; simp only; omega, Hc5.out.below hbR hgl, grw_below HG5.out hbR (Nat.le_refl _)⟩
  have ny3 : ((y : Int) == 3) = false := by rw [beq_eq_false_iff_ne]; omega
  have hk5 := K4.out
  have hT5 := T4.out
  have r0 := hk5.cell 0
  have fr0 := hk5.frozen 0
  have r1 := hk5.cell 1
  have fr1 := hk5.frozen 1
  have r2 := hk5.cell 2
  have fr2 := hk5.frozen 2
  have r3 := hk5.cell 3
  have fr3 := hk5.frozen 3
  have r4 := hk5.cell 4
  have fr4 := hk5.frozen 4
  have t0 := hT5.cell 0
  have ft0 := hT5.frozen 0
  have t1 := hT5.cell 1
  have ft1 := hT5.frozen 1
  have t2 := hT5.cell 2
  have ft2 := hT5.frozen 2
  have t3 := hT5.cell 3
  have ft3 := hT5.frozen 3
  have t4 := hT5.cell 4
  have ft4 := hT5.frozen 4
  simp only [List.getElem?_cons_zero, List.getElem?_cons_succ] at r0 r1 r2 r3 r4 t0 t1 t2 t3 t4
  go_wp2
  refine bodyPost_ret (v := txV (k, f, tO, am, no)) (by simp [results, Try.f140, go_sem, txV, r0, r1, r2, r3, r4]) rfl ?_
  have hbR := below_put5 w4 w.heap.size (.int .i64 k) (.string f) (.string tO) (.int .i64 am) (.int .i64 no)
  have hsm := HS.out
  unfold SmT at hsm
  simp only at hsm
  exact ⟨(k, f, tO, am, no), rfl, by unfold SmT; simp only; omega, Hc4.out.below hbR hgl, grw_below HG4.out hbR (Nat.le_refl _)⟩
end Go.Proofs.Ytbjeonnaannofaa
