/- Slices of numbers: what they read as, what a call owns of them; made anew, held against each other, their size. Rows of structs: lists of equally long lists of cells, one behind the other. A certificate of leavings by value: made, held against another, its size; the greatest High. -/
import Derived.Test.YtcmmdkabocfnfaaGreatDoorZgToStr
namespace Go.Proofs.YtcmmdkabocfnfaaGreatDoor
open Go.RowKit
set_option linter.unusedVariables false

theorem int_ne {a b : Int} (h : a ≠ b) : (a != b) = true := by rw [bne_iff_ne]; exact h
/-- The value v is a slice that reads as the numbers l. -/
def RdI (w : World) (v : Value) (l : List Int) : Prop :=
  (∃ a cap, v = .slice a 0 cap ∧ l = [] ∧ (a = none → cap = 0)) ∨
  ∃ b off cap, l ≠ [] ∧ v = .slice (some ⟨b, off, none⟩) l.length cap ∧ l.length ≤ cap ∧ cap ≤ maxLen ∧ b < w.heap.size ∧ ∀ i (h : i < l.length), w.cell? ⟨b, off + i, none⟩ = some (.int .i64 l[i])

theorem RdI.shape {w : World} {v : Value} {l : List Int} (h : RdI w v l) : ∃ a cap, v = .slice a l.length cap := by
  rcases h with ⟨a, cap, rfl, rfl, -⟩ | ⟨b, off, cap, h0, rfl, _⟩
  · exact ⟨a, cap, rfl⟩
  · exact ⟨_, cap, rfl⟩
theorem RdI.below {B : Nat} {w w' : World} {v : Value} {l : List Int} (h : RdI w v l) (hb : Below B w w') (hB : w.heap.size ≤ B) : RdI w' v l := by
  rcases h with h | ⟨b, off, cap, h0, hv, h1, h2, h3, h4⟩
  · exact .inl h
  · exact .inr ⟨b, off, cap, h0, hv, h1, h2, by have := hb.size; omega, fun i hi => (hb.cell (p := ⟨b, off + i, none⟩) (by show b < B; omega)).trans (h4 i hi)⟩
/-- The value v is a slice of the call's own, from block 'base' on, that reads as the numbers l. -/
def OwnI (base : Nat) (w : World) (v : Value) (l : List Int) : Prop := w.ownsRow base 3 1 v l.length (l.map (Value.int .i64))

theorem OwnI.rd {base : Nat} {w : World} {v : Value} {l : List Int} (h : OwnI base w v l) : RdI w v l := by
  rcases h.2 with ⟨hv, hn⟩ | ⟨g, cap, cur, hv, hb, hg, hnc, hcm, hcs, ht⟩
  · exact .inl ⟨none, 0, hv, List.length_eq_zero_iff.1 hn, fun _ => rfl⟩
  · by_cases hl : l = []
    · subst hl; exact .inl ⟨_, _, hv, rfl, fun h => by cases h⟩
    · refine .inr ⟨g, 0, cap, hl, hv, hnc, hcm, ?_, ?_⟩
      · exact (Array.getElem?_eq_some_iff.1 hg).1
      · intro i hi
        have h' : w.ownsRow base 3 1 (.slice (some ⟨g, 0, none⟩) l.length cap) l.length (l.map (Value.int .i64)) := hv ▸ h
        rw [show 0 + i = i from by omega, h'.cellAt i (by omega)]
        simp [hi]
theorem OwnI.below {B base : Nat} {w w' : World} {v : Value} {l : List Int} (h : OwnI base w v l) (hb : Below B w w') (hB : w.heap.size ≤ B) : OwnI base w' v l := by
  refine ⟨h.1, ?_⟩
  rcases h.2 with h' | ⟨g, cap, cur, hv, hbb, hg, r⟩
  · exact .inl h'
  · refine .inr ⟨g, cap, cur, hv, hbb, ?_, r⟩
    have hlt : g < w.heap.size := (Array.getElem?_eq_some_iff.1 hg).1
    rw [hb.block g (by omega)]; exact hg
theorem OwnI.mono {base base' : Nat} {w : World} {v : Value} {l : List Int} (h : OwnI base w v l) (hB : base' ≤ base) : OwnI base' w v l := by
  refine ⟨h.1, ?_⟩
  rcases h.2 with h' | ⟨g, cap, cur, hv, hbb, r⟩
  · exact .inl h'
  · exact .inr ⟨g, cap, cur, hv, by omega, r⟩
theorem OwnI.kept {base : Nat} {w w' : World} {v : Value} {l : List Int} {row : Option Nat} (h : OwnI base w v l) (hg : w.grownBy w' row) (hne : v.ownBlock = none ∨ v.ownBlock ≠ row) : OwnI base w' v l := World.ownsRow.kept h hg hne
theorem OwnI.ge {base : Nat} {w : World} {v : Value} {l : List Int} (h : OwnI base w v l) : ∀ k, v.ownBlock = some k → base ≤ k := fun k hk => (World.ownsRow.lt h k hk).1
theorem OwnI.lt {base : Nat} {w : World} {v : Value} {l : List Int} (h : OwnI base w v l) : ∀ k, v.ownBlock = some k → k < w.heap.size := fun k hk => (World.ownsRow.lt h k hk).2

theorem Tryz.infoI : (Tryz.prog.info? 3).map (fun i => (i.zero, i.size, i.bytes)) = some (some (.int .i64 0), 1, 8) := by kernel_rfl
set_option maxRecDepth 20000 in
set_option maxHeartbeats 400000 in
theorem eqIntS_any (v1 v2 : Value) (l1 l2 : List Int) (w : World) (hr1 : RdI w v1 l1) (hr2 : RdI w v2 l2) (hl1 : l1.length ≤ 4000000) (hl2 : l2.length ≤ 4000000) :
    Calls Tryz.prog 85 #[v1, v2] w fun e w' => e = .returned (.bool (decide (l1 = l2))) ∧ Sm w w' := by
  by_cases hne : l1.length = l2.length
  · rcases hr1 with ⟨a, cap, rfl, rfl, -⟩ | ⟨b, off, cap, h0, rfl, h1, h2, h3, h4⟩
    · have e2 : l2 = [] := List.length_eq_zero_iff.1 (by simpa using hne.symm)
      subst e2
      obtain ⟨a2, cap2, rfl⟩ := hr2.shape
      clear hr2
      go_enter Tryz.func85, Tryz.ntmps85
      go_wp2
      refine wp_loop_rounds 1 ?_
      rw [rounds_succ]
      go_wp2
      go_ret
      exact ⟨rfl, Sm.refl _⟩
    · rcases hr2 with ⟨a2, cap2, rfl, rfl, -⟩ | ⟨b2, off2, cap2, g0, rfl, g1, g2, g3, g4⟩
      · exact absurd (List.length_eq_zero_iff.1 (by simpa using hne)) h0
      · have Hne := hide hne
        have hlen : ((l1.length : Int) != (l2.length : Int)) = false := by rw [hne]; simp
        have hle : l1.length ≤ l2.length := by omega
        have hge : l2.length ≤ l1.length := by omega
        have H4 := hide h4
        have G4 := hide g4
        clear hne h4 g4
        go_enter Tryz.func85, Tryz.ntmps85
        go_wp2
        go_loopw [5] (fun i wr => ∃ k : Nat, k ≤ l1.length ∧ i = .int .i64 k ∧ l1.take k = l2.take k ∧ Sm w wr) (fun i _ => l1.length - (intOf i).toNat)
        case atStart => exact ⟨0, Nat.zero_le _, rfl, rfl, Sm.refl _⟩
        case round =>
          obtain ⟨k, hk, rfl, ht, hs⟩ := hrel
          have Ht := hide ht
          clear ht
          by_cases hlt : k < l1.length
          · have hlt2 : k < l2.length := by omega
            have hc1 : wr.cell? ⟨b, off + k, none⟩ = some (.int .i64 l1[k]) := (hs.cell _).trans (H4.out k hlt)
            have hc2 : wr.cell? ⟨b2, off2 + k, none⟩ = some (.int .i64 l2[k]) := (hs.cell _).trans (G4.out k hlt2)
            have hli : (k : Int) < (l1.length : Int) := by omega
            have hli2 : (k : Int) < (l2.length : Int) := by omega
            by_cases he : l1[k] = l2[k]
            · have Hnx := hide (take_eq_snoc hlt hlt2 Ht.out he)
              rw [← he] at hc2
              clear he
              generalize l1[k] = s1 at hc1 hc2
              go_wp2
              go_quiet (fail)
              go_wp2
              go_roundw
              case rel => exact ⟨k + 1, by omega, by go_num, Hnx.out, hs.drewN _⟩
              case measure => simp [intOf]; omega
            · have hf : Hid (decide (l1 = l2) = false) := hide (by rw [decide_eq_false]; intro e; subst e; exact he rfl)
              have hq := int_ne he
              clear he
              generalize l1[k] = s1 at hc1 hq
              generalize l2[k] = s2 at hc2 hq
              go_wp2
              go_quiet (fail)
              go_wp2
              go_ret
              exact ⟨ret_bool hf.out.symm, hs.drewN _⟩
          · have hf : Hid (decide (l1 = l2) = true) := hide (by
              rw [decide_eq_true]
              have := Ht.out
              rwa [List.take_of_length_le (by omega), List.take_of_length_le (by omega)] at this)
            go_wp2
            go_ret
            exact ⟨ret_bool hf.out.symm, hs⟩
  · obtain ⟨a, cap, rfl⟩ := hr1.shape
    obtain ⟨a2, cap2, rfl⟩ := hr2.shape
    clear hr1 hr2
    have hlen : ((l1.length : Int) != (l2.length : Int)) = true := by rw [bne_iff_ne]; omega
    have hf : Hid (decide (l1 = l2) = false) := hide (by rw [decide_eq_false]; intro e; subst e; exact hne rfl)
    clear hne
    go_enter Tryz.func85, Tryz.ntmps85
    go_wp2
    go_ret
    exact ⟨ret_bool hf.out.symm, Sm.refl _⟩
end Go.Proofs.YtcmmdkabocfnfaaGreatDoor

namespace Go.Proofs.YtcmmdkabocfnfaaGreatDoor
open Go.RowKit
set_option linter.unusedVariables false

theorem flat_len {α : Type} (sz : Nat) : ∀ (L : List (List α)), (∀ x ∈ L, x.length = sz) → L.flatten.length = L.length * sz
  | [], _ => by simp
  | x :: L, h => by
    rw [List.flatten_cons, List.length_append, flat_len sz L (fun y hy => h y (List.mem_cons_of_mem _ hy)), h x (List.mem_cons_self), List.length_cons, Nat.add_mul, Nat.one_mul]
    omega
theorem flat_get {α : Type} (sz : Nat) : ∀ (L : List (List α)) (i j : Nat) (hi : i < L.length), (∀ x ∈ L, x.length = sz) → j < sz → L.flatten[i * sz + j]? = L[i][j]?
  | [], i, j, hi, _, _ => by simp at hi
  | x :: L, i, j, hi, h, hj => by
    have hx := h x (List.mem_cons_self)
    cases i with
    | zero =>
      rw [List.flatten_cons, Nat.zero_mul, Nat.zero_add, List.getElem?_append_left (by omega)]
      rfl
    | succ i =>
      rw [List.flatten_cons, List.getElem?_append_right (by rw [hx, Nat.add_mul]; omega), hx, show (i + 1) * sz + j - sz = i * sz + j from by rw [Nat.add_mul]; omega]
      exact flat_get sz L i j (by simpa using hi) (fun y hy => h y (List.mem_cons_of_mem _ hy)) hj
theorem flat_set {α : Type} (sz : Nat) (u : α) : ∀ (L : List (List α)) (i j : Nat) (hi : i < L.length), (∀ x ∈ L, x.length = sz) → j < sz → L.flatten.set (i * sz + j) u = (L.set i (L[i].set j u)).flatten
  | [], i, j, hi, _, _ => by simp at hi
  | x :: L, i, j, hi, h, hj => by
    have hx := h x (List.mem_cons_self)
    cases i with
    | zero =>
      rw [List.flatten_cons, Nat.zero_mul, Nat.zero_add, List.set_append_left _ _ (by omega)]
      rfl
    | succ i =>
      rw [List.flatten_cons, List.set_append_right _ _ (by rw [hx, Nat.add_mul]; omega), hx, show (i + 1) * sz + j - sz = i * sz + j from by rw [Nat.add_mul]; omega]
      rw [flat_set sz u L i j (by simpa using hi) (fun y hy => h y (List.mem_cons_of_mem _ hy)) hj]
      rfl
/-- How far a row is made: the first k by f, the others as they were made. -/
def part {α β : Type} (f : α → List β) (z : List β) (l : List α) (k : Nat) : List (List β) := (l.take k).map f ++ List.replicate (l.length - k) z
theorem part_len {α β : Type} (f : α → List β) (z : List β) (l : List α) (k : Nat) (hk : k ≤ l.length) : (part f z l k).length = l.length := by simp [part]; omega
theorem part_zero {α β : Type} (f : α → List β) (z : List β) (l : List α) : part f z l 0 = List.replicate l.length z := by simp [part]
theorem part_all {α β : Type} (f : α → List β) (z : List β) (l : List α) : part f z l l.length = l.map f := by simp [part]
theorem part_at {α β : Type} (f : α → List β) (z : List β) (l : List α) (k : Nat) (hk : k < l.length) : (part f z l k)[k]'(by rw [part_len f z l k (by omega)]; exact hk) = z := by
  unfold part
  rw [List.getElem_append_right (by simp; omega)]
  simp
theorem part_next {α β : Type} (f : α → List β) (z : List β) (l : List α) (k : Nat) (hk : k < l.length) : (part f z l k).set k (f l[k]) = part f z l (k + 1) := by
  unfold part
  rw [List.take_succ_eq_append_getElem hk, List.set_append_right _ _ (by simp; omega), show l.length - k = (l.length - (k + 1)) + 1 from by omega, List.replicate_succ, show k - ((l.take k).map f).length = 0 from by simp; omega]
  simp only [List.map_append, List.map_cons, List.map_nil, List.set_cons_zero, List.append_assoc, List.singleton_append]
theorem part_sz {α β : Type} (sz : Nat) (f : α → List β) (z : List β) (l : List α) (k : Nat) (hf : ∀ a, (f a).length = sz) (hz : z.length = sz) : ∀ x ∈ part f z l k, x.length = sz := by
  intro x hx
  unfold part at hx
  rcases List.mem_append.1 hx with h | h
  · obtain ⟨a, _, rfl⟩ := List.mem_map.1 h; exact hf a
  · rw [(List.mem_replicate.1 h).2]; exact hz
theorem made_flat (zs : Array Value) (sz n : Nat) (hz : zs.size = sz) (h0 : 0 < sz) : (madeCells zs (n * sz)).toList = (List.replicate n zs.toList).flatten := by
  have hr : ∀ x ∈ List.replicate n zs.toList, x.length = sz := fun x hx => by rw [(List.mem_replicate.1 hx).2]; simpa using hz
  apply List.ext_getElem?
  intro t
  by_cases ht : t < n * sz
  · have h1 : t / sz < n := by rw [Nat.div_lt_iff_lt_mul h0]; exact ht
    have h2 : t % sz < sz := Nat.mod_lt _ h0
    have e := flat_get sz (List.replicate n zs.toList) (t / sz) (t % sz) (by simpa using h1) hr h2
    rw [show t / sz * sz + t % sz = t from by rw [Nat.mul_comm]; exact Nat.div_add_mod t sz] at e
    rw [e]
    have h3 : t % sz < zs.size := by rw [hz]; exact h2
    simp [madeCells, ht, hz]
    rw [getElem!_pos zs _ h3, Array.getElem?_eq_getElem h3]
  · rw [List.getElem?_eq_none (by simp [madeCells]; omega), List.getElem?_eq_none (by rw [flat_len sz _ hr]; simp; omega)]
/-- The block B of type t holds the cells cs, and may be written. -/
def Blk (W : World) (B : Nat) (t : TypeId) (cs : List Value) : Prop := W.heap[B]? = some (.cells cs.toArray t (0, 0))
theorem Blk.lt {W : World} {B : Nat} {t : TypeId} {cs : List Value} (h : Blk W B t cs) : B < W.heap.size := (Array.getElem?_eq_some_iff.1 h).1
theorem Blk.cell {W : World} {B : Nat} {t : TypeId} {cs : List Value} (h : Blk W B t cs) (j : Nat) : W.cell? ⟨B, j, none⟩ = cs[j]? := by simp [World.cell?, show W.heap[B]? = _ from h]
theorem Blk.frozen {W : World} {B : Nat} {t : TypeId} {cs : List Value} (h : Blk W B t cs) (j : Nat) : W.frozen? ⟨B, j, none⟩ = false := by simp [World.frozen?, show W.heap[B]? = _ from h]
theorem Blk.new (W : World) (t : TypeId) (cs : List Value) : Blk (W.alloc (.cells cs.toArray t)) W.heap.size t cs := heap_alloc_new W _
theorem Blk.below {W V : World} {B K : Nat} {t : TypeId} {cs : List Value} (h : Blk W B t cs) (hb : Below K W V) (hK : B < K) : Blk V B t cs := (hb.block B hK).trans h
theorem grown_set (w : World) (g j : Nat) (u : Value) : w.grownBy (w.setCell ⟨g, j, none⟩ u) (some g) :=
  ⟨rfl, rfl, rfl, by simp, fun k _ hk => heap_setCell_other w ⟨g, j, none⟩ k u (fun e => hk (by simp [e]))⟩
theorem row_set {base : Nat} {w : World} {e : TypeId} {size : Nat} {v : Value} {n : Nat} {xs : List Value} (h : w.ownsRow base e size v n xs) (g j : Nat) (u : Value) (hne : ∀ k, v.ownBlock = some k → k ≠ g) : (w.setCell ⟨g, j, none⟩ u).ownsRow base e size v n xs := by
  refine World.ownsRow.kept h (grown_set w g j u) ?_
  cases hv : v.ownBlock with
  | none => exact .inl rfl
  | some k => exact .inr (fun e => hne k hv (by injection e))
theorem row_below {B base : Nat} {w w' : World} {e : TypeId} {size : Nat} {v : Value} {n : Nat} {xs : List Value} (h : w.ownsRow base e size v n xs) (hb : Below B w w') (hB : w.heap.size ≤ B) : w'.ownsRow base e size v n xs := by
  refine ⟨h.1, ?_⟩
  rcases h.2 with h' | ⟨g, cap, cur, hv, hbb, hg, r⟩
  · exact .inl h'
  · refine .inr ⟨g, cap, cur, hv, hbb, ?_, r⟩
    have hlt : g < w.heap.size := (Array.getElem?_eq_some_iff.1 hg).1
    rw [hb.block g (by omega)]; exact hg
theorem flat_put2 {α : Type} (L : List (List α)) (i : Nat) (a b : α) (hi : i < L.length) (h : ∀ x ∈ L, x.length = 2) : (L.flatten.set (i * 2) a).set (i * 2 + 1) b = (L.set i [a, b]).flatten := by
  have e0 := flat_set 2 a L i 0 hi h (by omega)
  rw [Nat.add_zero] at e0
  have hL : ∀ x ∈ L.set i (L[i].set 0 a), x.length = 2 := fun x hx => by
    rcases List.mem_or_eq_of_mem_set hx with h' | rfl
    · exact h x h'
    · simpa using h L[i] (List.getElem_mem hi)
  rw [e0, flat_set 2 b _ i 1 (by simpa using hi) hL (by omega)]
  have hl := h L[i] (List.getElem_mem hi)
  congr 1
  rw [List.set_set]
  congr 1
  simp only [List.getElem_set_self]
  match hx : L[i], hl with
  | [x, y], _ => rfl
/-- The rows L, and behind them as many z as there are to be n. -/
def prt {α : Type} (L : List (List α)) (z : List α) (n : Nat) : List (List α) := L ++ List.replicate (n - L.length) z
theorem prt_len {α : Type} (L : List (List α)) (z : List α) (n : Nat) (h : L.length ≤ n) : (prt L z n).length = n := by simp [prt]; omega
theorem prt_zero {α : Type} (z : List α) (n : Nat) : prt [] z n = List.replicate n z := by simp [prt]
theorem prt_all {α : Type} (L : List (List α)) (z : List α) (n : Nat) (h : L.length = n) : prt L z n = L := by simp [prt, h]
theorem prt_at {α : Type} (L : List (List α)) (z : List α) (n k : Nat) (hk : k = L.length) (h : k < n) : (prt L z n)[k]'(by rw [prt_len L z n (by omega)]; exact h) = z := by
  subst hk
  unfold prt
  rw [List.getElem_append_right (Nat.le_refl _)]
  simp
theorem prt_next {α : Type} (L : List (List α)) (z x : List α) (n k : Nat) (hk : k = L.length) (h : k < n) : (prt L z n).set k x = prt (L ++ [x]) z n := by
  subst hk
  unfold prt
  rw [List.set_append_right _ _ (Nat.le_refl _), Nat.sub_self, show n - L.length = (n - (L ++ [x]).length) + 1 from by simp; omega, List.replicate_succ, List.set_cons_zero, List.append_assoc]
  rfl
theorem prt_sz {α : Type} (sz : Nat) (L : List (List α)) (z : List α) (n : Nat) (hL : ∀ x ∈ L, x.length = sz) (hz : z.length = sz) : ∀ x ∈ prt L z n, x.length = sz := by
  intro x hx
  rcases List.mem_append.1 hx with h | h
  · exact hL x h
  · rw [(List.mem_replicate.1 h).2]; exact hz
theorem flat_put5 {α : Type} (L : List (List α)) (i : Nat) (a b c d e : α) (hi : i < L.length) (h : ∀ x ∈ L, x.length = 5) : ((((L.flatten.set (i * 5) a).set (i * 5 + 1) b).set (i * 5 + 2) c).set (i * 5 + 3) d).set (i * 5 + 4) e = (L.set i [a, b, c, d, e]).flatten := by
  have st : ∀ (M : List (List α)) (y : List α) (j : Nat) (u : α), M.length = L.length → (∀ x ∈ M, x.length = 5) → y.length = 5 → j < 5 → (M.set i y).flatten.set (i * 5 + j) u = (M.set i (y.set j u)).flatten := by
    intro M y j u hM hx hy hj
    have hS : ∀ x ∈ M.set i y, x.length = 5 := fun x hm => by
      rcases List.mem_or_eq_of_mem_set hm with h' | rfl
      · exact hx x h'
      · exact hy
    rw [flat_set 5 u (M.set i y) i j (by rw [List.length_set, hM]; exact hi) hS hj, List.set_set]
    simp only [List.getElem_set_self]
  have hl := h L[i] (List.getElem_mem hi)
  have e0 : L = L.set i L[i] := by simp
  have r0 := st L L[i] 0 a rfl h hl (by omega)
  rw [← e0, Nat.add_zero] at r0
  rw [r0, st L _ 1 b rfl h (by simp [hl]) (by omega), st L _ 2 c rfl h (by simp [hl]) (by omega), st L _ 3 d rfl h (by simp [hl]) (by omega), st L _ 4 e rfl h (by simp [hl]) (by omega)]
  congr 2
  match hx : L[i], hl with
  | [y0, y1, y2, y3, y4], _ => rfl
theorem rows_apart {w : World} {b1 b2 : Nat} {e1 e2 : TypeId} {s1 s2 : Nat} {v1 v2 : Value} {n1 n2 : Nat} {x1 x2 : List Value} (h1 : w.ownsRow b1 e1 s1 v1 n1 x1) (h2 : w.ownsRow b2 e2 s2 v2 n2 x2) (he : e1 ≠ e2) : ∀ g, v2.ownBlock = some g → v1.ownBlock ≠ some g := by
  intro g hg2 hg1
  rcases h1.2 with ⟨rfl, -⟩ | ⟨g1, c1, u1, rfl, -, k1, -⟩
  · simp [Value.ownBlock] at hg1
  · rcases h2.2 with ⟨rfl, -⟩ | ⟨g2, c2, u2, rfl, -, k2, -⟩
    · simp [Value.ownBlock] at hg2
    · simp only [Value.ownBlock, Option.some.injEq] at hg1 hg2
      subst hg1 hg2
      rw [k1] at k2
      simp only [Option.some.injEq, Obj.cells.injEq] at k2
      exact he k2.2.1
end Go.Proofs.YtcmmdkabocfnfaaGreatDoor

namespace Go.Proofs.YtcmmdkabocfnfaaGreatDoor
open Go.RowKit
set_option linter.unusedVariables false

/-- Its value: its round, its names being vw, its Highs vh. -/
def tcV (r : Int) (vw vh : Value) : Value := .agg #[.int .i64 r, vw, vh]
theorem OwnS.olderC {base : Nat} {w : World} {v : Value} {l : List ByteArray} (h : OwnS base w v l) {g : Nat} (hg : g < base) (j : Nat) (u : Value) : OwnS base (w.setCell ⟨g, j, none⟩ u) v l :=
  row_set h g j u (fun k hk => by have := h.ge k hk; omega)
theorem OwnI.olderC {base : Nat} {w : World} {v : Value} {l : List Int} (h : OwnI base w v l) {g : Nat} (hg : g < base) (j : Nat) (u : Value) : OwnI base (w.setCell ⟨g, j, none⟩ u) v l :=
  row_set h g j u (fun k hk => by have := h.ge k hk; omega)
theorem Blk.setC {W : World} {B : Nat} {t : TypeId} {cs : List Value} (h : Blk W B t cs) (j : Nat) (u : Value) : Blk (W.setCell ⟨B, j, none⟩ u) B t (cs.set j u) := by
  have e := heap_setCell_same W B j cs.toArray t u h
  simpa [Blk] using e
theorem Blk.otherC {W : World} {B : Nat} {t : TypeId} {cs : List Value} (h : Blk W B t cs) (g j : Nat) (u : Value) (hne : B ≠ g) : Blk (W.setCell ⟨g, j, none⟩ u) B t cs := (heap_setCell_other W ⟨g, j, none⟩ B u hne).trans h
set_option maxRecDepth 20000 in
set_option maxHeartbeats 1000000 in
theorem eqTc_any (r : Int) (vw1 vh1 vw2 vh2 : Value) (ws : List ByteArray) (hs : List Int) (w : World) (h1 : RdS w vw1 ws) (h2 : RdI w vh1 hs) (h3 : RdS w vw2 ws) (h4 : RdI w vh2 hs) (hlw : ws.length ≤ 4000000) (hlh : hs.length ≤ 4000000) :
    Calls Tryz.prog 31 #[tcV r vw1 vh1, tcV r vw2 vh2] w fun en w' => en = .returned (.bool true) ∧ Below w.heap.size w w' := by
  obtain ⟨a1, c1, rfl⟩ := h1.shape
  obtain ⟨a2, c2, rfl⟩ := h2.shape
  obtain ⟨a3, c3, rfl⟩ := h3.shape
  obtain ⟨a4, c4, rfl⟩ := h4.shape
  simp only [tcV] at *
  obtain ⟨w2, hw2⟩ : ∃ w2, (w.alloc (.cells #[.int .i64 r, .slice a1 ws.length c1, .slice a2 hs.length c2] 28)).alloc (.cells #[.int .i64 r, .slice a3 ws.length c3, .slice a4 hs.length c4] 28) = w2 := ⟨_, rfl⟩
  have hb2 : Below w.heap.size w w2 := by rw [← hw2]; exact ((Below.refl _ w).alloc (Nat.le_refl _) _).alloc (by simp) _
  have kA : Blk w2 w.heap.size 28 [.int .i64 r, .slice a1 ws.length c1, .slice a2 hs.length c2] := by
    rw [← hw2]
    exact (Blk.new w 28 [.int .i64 r, .slice a1 ws.length c1, .slice a2 hs.length c2]).below ((Below.refl (w.heap.size + 1) _).alloc (by simp) _) (by omega)
  have kB : Blk w2 (w.heap.size + 1) 28 [.int .i64 r, .slice a3 ws.length c3, .slice a4 hs.length c4] := by
    rw [← hw2]
    have h := Blk.new (w.alloc (.cells #[.int .i64 r, .slice a1 ws.length c1, .slice a2 hs.length c2] 28)) 28 [.int .i64 r, .slice a3 ws.length c3, .slice a4 hs.length c4]
    simp only [World.size_alloc] at h
    exact h
  have HE := hide (eqStringS_any _ _ ws ws w2 (h1.below hb2 (Nat.le_refl _)) (h3.below hb2 (Nat.le_refl _)) hlw hlw)
  rw [decide_eq_true rfl] at HE
  have HF := hide (fun V (hb : Below w.heap.size w V) => eqIntS_any (.slice a2 hs.length c2) (.slice a4 hs.length c4) hs hs V (h2.below hb (Nat.le_refl _)) (h4.below hb (Nat.le_refl _)) hlh hlh)
  rw [decide_eq_true rfl] at HF
  have x0 := kA.cell 0
  have x1 := kA.cell 1
  have x2 := kA.cell 2
  have y0 := kB.cell 0
  have y1 := kB.cell 1
  have y2 := kB.cell 2
  simp only [List.getElem?_cons_zero, List.getElem?_cons_succ] at x0 x1 x2 y0 y1 y2
  clear h1 h2 h3 h4
  go_enter Tryz.func31, Tryz.ntmps31
  go_wp2_with fail
  refine HE.out.mono ?_
  rintro en w3 ⟨rfl, hb3⟩
  have kA3 := kA.below (hb3 w2.heap.size) kA.lt
  have kB3 := kB.below (hb3 w2.heap.size) kB.lt
  have hB3 := hb2.trans (hb3 w.heap.size)
  have u2 := kA3.cell 2
  have z2 := kB3.cell 2
  simp only [List.getElem?_cons_zero, List.getElem?_cons_succ] at u2 z2
  clear x0 x1 x2 y0 y1 y2 kA kB kA3 kB3 hb3
  go_wp2_with fail
  refine (HF.out _ hB3).mono ?_
  rintro en w4 ⟨rfl, hb4⟩
  have hB4 := hB3.trans (hb4 w.heap.size)
  go_wp2
  go_ret
  exact ⟨rfl, hB4⟩
/-- The greatest of the numbers; 0. -/
def highI (hs : List Int) : Int := hs.foldl (fun n x => if n < x then x else n) 0
theorem high_snoc (hs : List Int) (k : Nat) (h : k < hs.length) : (hs.take (k + 1)).foldl (fun (n x : Int) => if n < x then x else n) 0 = (if (hs.take k).foldl (fun (n x : Int) => if n < x then x else n) 0 < hs[k] then hs[k] else (hs.take k).foldl (fun (n x : Int) => if n < x then x else n) 0) := by
  rw [List.take_succ_eq_append_getElem h, List.foldl_append]; rfl
end Go.Proofs.YtcmmdkabocfnfaaGreatDoor
