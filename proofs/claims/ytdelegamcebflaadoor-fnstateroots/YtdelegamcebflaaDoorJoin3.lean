/- Drawn names: the cursor once more (a chance, a list of names). Drawn names: one of some, one that may be none. Rows of structs: lists of equally long lists of cells, one behind the other. Accounts and what leaves, over plain data and in memory. -/
import Derived.Test.YtdelegamcebflaaDoorJoin2
import Derived.Deep.RegionWith
import Derived.Test.YtdelegamcebflaaDoorMem
namespace Go.Proofs.YtdelegamcebflaaDoor
open Go.RowKit
set_option linter.unusedVariables false

theorem Cur.drew {w0 w : World} {g : Nat} {cv : Value} {code : List UInt8} (hc : Cur w0 w g cv code) : Cur w0 w.drew g cv code := ⟨hc.rd, hc.bel.drew, hc.le, hc.blk⟩
theorem OwnB.notg {base : Nat} {w w' : World} {v : Value} {l : List UInt8} {g : Nat} (h : OwnB base w v l) (hg : w.grownBy w' (some g)) (hb : g < base) : OwnB base w' v l :=
  World.ownsRow.kept h hg (by right; intro e; have := (World.ownsRow.lt h g e).1; omega)
theorem OwnS.notg {base : Nat} {w w' : World} {v : Value} {l : List ByteArray} {g : Nat} (h : OwnS base w v l) (hg : w.grownBy w' (some g)) (hb : g < base) : OwnS base w' v l :=
  World.ownsRow.kept h hg (by right; intro e; have := (World.ownsRow.lt h g e).1; omega)


set_option maxRecDepth 20000 in
theorem l1Once_any (w0 w : World) (g : Nat) (cv : Value) (code : List UInt8) (n : Int) (hc : Cur w0 w g cv code) (hl : code.length ≤ 1048576) (h1 : -9223372036854775808 ≤ n) (h2 : n ≤ 9223372036854775807) :
    Calls Tryd.prog 57 #[.pointer (some ⟨g, 0, none⟩), .int .i64 n] w fun e w' => ∃ b : Bool, e = .returned (.bool b) ∧ Cur w0 w' g cv code ∧ w.grownBy w' (some g) := by
  go_enter Tryd.func57, Tryd.ntmps57
  go_wp2_with fail
  refine (l1Below_any _ _ _ _ _ _ hc hl h1 h2).mono ?_
  rintro e w1 ⟨x, rfl, hx1, _, hc1, hg1⟩
  clear hx1
  go_wp2
  go_ret
  exact ⟨_, rfl, hc1, hg1⟩

theorem rd_one_str' (w : World) (n : Nat) (s : ByteArray) (h : n = w.heap.size) : RdS (w.alloc (.cells #[.string s] 9)) (.slice (some ⟨n, 0, none⟩) 1 1) [s] := by
  subst h; exact rd_one_str w s

/-- The five texts from which names are drawn lie in a new block. -/
theorem five_at (w : World) (k : Nat) (h : k < 5) : ∃ s : ByteArray, s.size = 1 ∧ (w.alloc (.cells #[.string ⟨#[97]⟩, .string ⟨#[98]⟩, .string ⟨#[99]⟩, .string ⟨#[100]⟩, .string ⟨#[101]⟩] 9)).cell? ⟨w.heap.size, k, none⟩ = some (.string s) := by
  rw [World.cell?_alloc_at _ _ _ _ rfl]
  rcases (show k = 0 ∨ k = 1 ∨ k = 2 ∨ k = 3 ∨ k = 4 from by omega) with rfl | rfl | rfl | rfl | rfl
  · exact ⟨_, rfl, rfl⟩
  · exact ⟨_, rfl, rfl⟩
  · exact ⟨_, rfl, rfl⟩
  · exact ⟨_, rfl, rfl⟩
  · exact ⟨_, rfl, rfl⟩

set_option maxRecDepth 20000 in
set_option maxHeartbeats 1000000 in
theorem l1Names_any (w0 w : World) (g : Nat) (cv : Value) (code : List UInt8) (hc : Cur w0 w g cv code) (hl : code.length ≤ 1048576) :
    Calls Tryd.prog 56 #[.pointer (some ⟨g, 0, none⟩)] w fun e w' => ∃ (v' : Value) (ls : List ByteArray), e = .returned v' ∧ OwnS w.heap.size w' v' ls ∧ ls.length ≤ 5 ∧ (∀ s ∈ ls, s.size = 1) ∧ Cur w0 w' g cv code ∧ w.grownBy w' (some g) := by
  have hb0 : Below w.heap.size w (w.alloc (.cells #[] 9)) := (Below.refl _ _).alloc (Nat.le_refl _) _
  have Ho := hide (own_nilS w w.heap.size (Nat.le_refl _))
  have Hc := hide (hc.below hb0 hc.lt)
  have Hg := hide (grw_of_below (some g) hb0 (Nat.le_refl _))
  have hgl := hc.lt
  clear hc hb0
  go_enter Tryd.func56, Tryd.ntmps56
  go_wp2
  go_loopw [3, 4] (fun bv iv wr => ∃ (k : Nat) (ls : List ByteArray), k ≤ 5 ∧ iv = .int .i64 (k : Int) ∧ OwnS w.heap.size wr bv ls ∧ ls.length ≤ k ∧ (∀ s ∈ ls, s.size = 1) ∧ Cur w0 wr g cv code ∧ w.grownBy wr (some g)) (fun _ iv _ => 5 - (intOf iv).toNat)
  case atStart => exact ⟨0, [], Nat.zero_le _, rfl, Ho.out, by simp, by simp, Hc.out, Hg.out⟩
  case round =>
    obtain ⟨k, ls, hk, rfl, ho, hpl, hsz1, hc, hg⟩ := hrel
    have Hs1 := hide hsz1
    have hpl2 : ls.length ≤ 5 := by omega
    have Hor := hide ho
    have Hcr := hide hc
    have Hgr := hide hg
    have hsz := hg.size
    clear ho hc hg hsz1
    by_cases hlt : k < 5
    · go_wp2_with fail
      refine (l1Once_any _ _ _ _ _ _ Hcr.out hl (by omega) (by omega)).mono ?_
      rintro e w1 ⟨bb, rfl, hc1, hg1⟩
      have Ho1 := hide (Hor.out.notg hg1 hgl)
      have Hc1 := hide hc1
      have Hg1 := hide (grw_trans Hgr.out hg1)
      have hsz1 := hg1.size
      clear hc1 hg1
      cases bb
      · obtain ⟨s, hs1, hcell⟩ := five_at w1 k hlt
        have Hss := hide hs1
        clear hs1
        go_wp2_with (at_builtin; refine app_ownS _ rfl _ _ rfl w.heap.size _ _ ls [s] rfl rfl ((Ho1.out.alloc _).alloc _) (rd_one_str' _ _ _ (by simp)) (by simp; omega) (by simp; omega) ?_; intro v2 w2 ho2 hb2)
        have hb2' : Below w.heap.size w1 w2 := (((Below.refl _ _).alloc (by omega) _).alloc (by simp; omega) _).trans hb2
        have Hc2 := hide (Hc1.out.below hb2' hgl)
        have Hg2 := hide (grw_below Hg1.out hb2' (Nat.le_refl _))
        go_roundw
        case rel => exact ⟨k + 1, ls ++ [s], by omega, by go_num, ho2, by simp; omega, fun u hu => by
                      rcases List.mem_append.1 hu with hu | hu
                      · exact Hs1.out u hu
                      · simp at hu; rw [hu]; exact Hss.out, Hc2.out, Hg2.out⟩
        case measure => simp [intOf]; omega
      · go_wp2
        go_roundw
        case rel => exact ⟨k + 1, ls, by omega, by go_num, Ho1.out, by omega, Hs1.out, Hc1.out, Hg1.out⟩
        case measure => simp [intOf]; omega
    · go_wp2
      go_ret
      exact ⟨_, ls, rfl, Hor.out, by omega, Hs1.out, Hcr.out, Hgr.out⟩
end Go.Proofs.YtdelegamcebflaaDoor

namespace Go.Proofs.YtdelegamcebflaaDoor
open Go.RowKit
set_option linter.unusedVariables false

/-- The texts ss lie at the head of block b. -/
def StrsAt (w : World) (b : Nat) (ss : List ByteArray) : Prop := b < w.heap.size ∧ ∀ j (h : j < ss.length), w.cell? ⟨b, j, none⟩ = some (.string ss[j])
theorem strs_new (w : World) (ss : List ByteArray) (t : TypeId) : StrsAt (w.alloc (.cells (ss.map Value.string).toArray t)) w.heap.size ss := by
  refine ⟨by simp, fun j hj => ?_⟩
  rw [World.cell?_alloc_at _ _ _ _ rfl]
  simp [hj]
theorem StrsAt.grw {w w' : World} {b g : Nat} {ss : List ByteArray} (h : StrsAt w b ss) (hg : w.grownBy w' (some g)) (hne : b ≠ g) : StrsAt w' b ss :=
  ⟨by have := hg.size; have := h.1; omega, fun j hj => hg.cell (a := ⟨b, j, none⟩) (h.2 j hj) (by simp [hne])⟩

set_option maxRecDepth 20000 in
theorem l1Str_any (w0 w : World) (g b : Nat) (cv : Value) (code : List UInt8) (ss : List ByteArray) (hc : Cur w0 w g cv code) (hl : code.length ≤ 1048576) (hi : StrsAt w b ss) (hne : b ≠ g) (hn : 0 < ss.length) (hn2 : ss.length ≤ 1000) (cap : Nat) :
    Calls Tryd.prog 58 #[.pointer (some ⟨g, 0, none⟩), .slice (some ⟨b, 0, none⟩) ss.length cap] w fun e w' => ∃ s : ByteArray, e = .returned (.string s) ∧ s ∈ ss ∧ Cur w0 w' g cv code ∧ w.grownBy w' (some g) := by
  have Hc := hide hc
  have Hi := hide hi
  clear hc hi
  go_enter Tryd.func58, Tryd.ntmps58
  go_wp2_with fail
  refine (l1Below_any _ _ _ _ _ _ Hc.out hl (by omega) (by omega)).mono ?_
  rintro e w1 ⟨x, rfl, hx1, hx2, hc1, hg1⟩
  have hxl : x < ss.length := by have := hx1 (by omega); omega
  have hcell := (Hi.out.grw hg1 hne).2 x hxl
  have hmem := hide (List.getElem_mem hxl)
  generalize ss[x] = n at hcell hmem
  clear hx1 hx2
  go_wp2
  go_ret
  exact ⟨n, rfl, hmem.out, hc1, hg1⟩

def sixL : List ByteArray := [⟨#[97]⟩, ⟨#[98]⟩, ⟨#[99]⟩, ⟨#[100]⟩, ⟨#[101]⟩, ⟨#[97, 49]⟩]
def oddL : List ByteArray := [⟨#[]⟩, ⟨#[65]⟩, ⟨#[116, 111, 111, 108, 111, 110, 103, 57, 57]⟩, ⟨#[97, 32, 98]⟩, ⟨#[101, 105, 103, 104, 116, 108, 101, 116]⟩]
theorem six_small : ∀ s ∈ sixL, s.size ≤ 9 := by decide
theorem odd_small : ∀ s ∈ oddL, s.size ≤ 9 := by decide

set_option maxRecDepth 20000 in
theorem l1Name_any (w0 w : World) (g : Nat) (cv : Value) (code : List UInt8) (hc : Cur w0 w g cv code) (hl : code.length ≤ 1048576) :
    Calls Tryd.prog 59 #[.pointer (some ⟨g, 0, none⟩)] w fun e w' => ∃ s : ByteArray, e = .returned (.string s) ∧ s.size ≤ 9 ∧ Cur w0 w' g cv code ∧ w.grownBy w' (some g) := by
  have hgl := hc.lt
  have hb0 : ∀ o, Below w.heap.size w (w.alloc o) := fun o => (Below.refl _ _).alloc (Nat.le_refl _) _
  have Hs := hide (l1Str_any w0 _ g w.heap.size cv code sixL (hc.below (hb0 _) hgl) hl (strs_new w sixL 9) (by omega) (by decide) (by decide) 6)
  have Hg := hide (grw_of_below (some g) (hb0 (.cells (sixL.map Value.string).toArray 9)) (Nat.le_refl _))
  clear hb0 hc
  go_enter Tryd.func59, Tryd.ntmps59
  go_wp2_with fail
  refine Hs.out.mono ?_
  rintro e w1 ⟨s, rfl, hs, hc1, hg1⟩
  have hs9 := six_small s hs
  clear hs
  go_wp2
  go_ret
  exact ⟨s, rfl, hs9, hc1, grw_trans Hg.out hg1⟩

set_option maxRecDepth 20000 in
theorem l1NameAny_any (w0 w : World) (g : Nat) (cv : Value) (code : List UInt8) (hc : Cur w0 w g cv code) (hl : code.length ≤ 1048576) :
    Calls Tryd.prog 45 #[.pointer (some ⟨g, 0, none⟩)] w fun e w' => ∃ s : ByteArray, e = .returned (.string s) ∧ s.size ≤ 9 ∧ Cur w0 w' g cv code ∧ w.grownBy w' (some g) := by
  have hgl := hc.lt
  have Hc := hide hc
  clear hc
  go_enter Tryd.func45, Tryd.ntmps45
  go_wp2_with fail
  refine (l1Once_any _ _ _ _ _ _ Hc.out hl (by omega) (by omega)).mono ?_
  rintro e w1 ⟨bb, rfl, hc1, hg1⟩
  have hs1 := hg1.size
  cases bb
  · have Hn := hide (l1Name_any _ _ _ _ _ hc1 hl)
    go_wp2_with fail
    refine Hn.out.mono ?_
    rintro e w2 ⟨s, rfl, hs, hc2, hg2⟩
    go_wp2
    go_ret
    exact ⟨s, rfl, hs, hc2, grw_trans hg1 hg2⟩
  · have hb0 : ∀ o, Below w1.heap.size w1 (w1.alloc o) := fun o => (Below.refl _ _).alloc (Nat.le_refl _) _
    have Hs := hide (l1Str_any w0 _ g w1.heap.size cv code oddL (hc1.below (hb0 _) (by omega)) hl (strs_new w1 oddL 9) (by omega) (by decide) (by decide) 5)
    have Hg := hide (grw_below hg1 (hb0 (.cells (oddL.map Value.string).toArray 9)) (by omega))
    clear hb0
    go_wp2_with fail
    refine Hs.out.mono ?_
    rintro e w2 ⟨s, rfl, hs, hc2, hg2⟩
    have hs9 := odd_small s hs
    clear hs
    go_wp2
    go_ret
    exact ⟨s, rfl, hs9, hc2, grw_trans Hg.out hg2⟩
end Go.Proofs.YtdelegamcebflaaDoor

namespace Go.Proofs.YtdelegamcebflaaDoor
open Go.RowKit
set_option linter.unusedVariables false

theorem flat_len {α : Type} (sz : Nat) : ∀ (L : List (List α)), (∀ x ∈ L, x.length = sz) → L.flatten.length = L.length * sz
  | [], _ => by simp
  | x :: L, h => by
    rw [List.flatten_cons, List.length_append, flat_len sz L (fun y hy => h y (List.mem_cons_of_mem _ hy)), h x (List.mem_cons_self), List.length_cons, Nat.add_mul, Nat.one_mul]
    omega
theorem flat_get {α : Type} (sz : Nat) : ∀ (L : List (List α)) (i j : Nat) (hi : i < L.length), (∀ x ∈ L, x.length = sz) → j < sz → L.flatten[i * sz + j]? = L[i][j]?
  | [], i, j, hi, _, _ => by simp at hi
  | x :: L, i, j, hi, h, hj => by
    have hx := h x (List.mem_cons_self)
    cases i with
    | zero =>
      rw [List.flatten_cons, Nat.zero_mul, Nat.zero_add, List.getElem?_append_left (by omega)]
      rfl
    | succ i =>
      rw [List.flatten_cons, List.getElem?_append_right (by rw [hx, Nat.add_mul]; omega), hx, show (i + 1) * sz + j - sz = i * sz + j from by rw [Nat.add_mul]; omega]
      exact flat_get sz L i j (by simpa using hi) (fun y hy => h y (List.mem_cons_of_mem _ hy)) hj
theorem flat_set {α : Type} (sz : Nat) (u : α) : ∀ (L : List (List α)) (i j : Nat) (hi : i < L.length), (∀ x ∈ L, x.length = sz) → j < sz → L.flatten.set (i * sz + j) u = (L.set i (L[i].set j u)).flatten
  | [], i, j, hi, _, _ => by simp at hi
  | x :: L, i, j, hi, h, hj => by
    have hx := h x (List.mem_cons_self)
    cases i with
    | zero =>
      rw [List.flatten_cons, Nat.zero_mul, Nat.zero_add, List.set_append_left _ _ (by omega)]
      rfl
    | succ i =>
      rw [List.flatten_cons, List.set_append_right _ _ (by rw [hx, Nat.add_mul]; omega), hx, show (i + 1) * sz + j - sz = i * sz + j from by rw [Nat.add_mul]; omega]
      rw [flat_set sz u L i j (by simpa using hi) (fun y hy => h y (List.mem_cons_of_mem _ hy)) hj]
      rfl
/-- How far a row is made: the first k by f, the others as they were made. -/
def part {α β : Type} (f : α → List β) (z : List β) (l : List α) (k : Nat) : List (List β) := (l.take k).map f ++ List.replicate (l.length - k) z
theorem part_len {α β : Type} (f : α → List β) (z : List β) (l : List α) (k : Nat) (hk : k ≤ l.length) : (part f z l k).length = l.length := by simp [part]; omega
theorem part_zero {α β : Type} (f : α → List β) (z : List β) (l : List α) : part f z l 0 = List.replicate l.length z := by simp [part]
theorem part_all {α β : Type} (f : α → List β) (z : List β) (l : List α) : part f z l l.length = l.map f := by simp [part]
theorem part_at {α β : Type} (f : α → List β) (z : List β) (l : List α) (k : Nat) (hk : k < l.length) : (part f z l k)[k]'(by rw [part_len f z l k (by omega)]; exact hk) = z := by
  unfold part
  rw [List.getElem_append_right (by simp; omega)]
  simp
theorem part_next {α β : Type} (f : α → List β) (z : List β) (l : List α) (k : Nat) (hk : k < l.length) : (part f z l k).set k (f l[k]) = part f z l (k + 1) := by
  unfold part
  rw [List.take_succ_eq_append_getElem hk, List.set_append_right _ _ (by simp; omega), show l.length - k = (l.length - (k + 1)) + 1 from by omega, List.replicate_succ, show k - ((l.take k).map f).length = 0 from by simp; omega]
  simp only [List.map_append, List.map_cons, List.map_nil, List.set_cons_zero, List.append_assoc, List.singleton_append]
theorem part_sz {α β : Type} (sz : Nat) (f : α → List β) (z : List β) (l : List α) (k : Nat) (hf : ∀ a, (f a).length = sz) (hz : z.length = sz) : ∀ x ∈ part f z l k, x.length = sz := by
  intro x hx
  unfold part at hx
  rcases List.mem_append.1 hx with h | h
  · obtain ⟨a, _, rfl⟩ := List.mem_map.1 h; exact hf a
  · rw [(List.mem_replicate.1 h).2]; exact hz
theorem made_flat (zs : Array Value) (sz n : Nat) (hz : zs.size = sz) (h0 : 0 < sz) : (madeCells zs (n * sz)).toList = (List.replicate n zs.toList).flatten := by
  have hr : ∀ x ∈ List.replicate n zs.toList, x.length = sz := fun x hx => by rw [(List.mem_replicate.1 hx).2]; simpa using hz
  apply List.ext_getElem?
  intro t
  by_cases ht : t < n * sz
  · have h1 : t / sz < n := by rw [Nat.div_lt_iff_lt_mul h0]; exact ht
    have h2 : t % sz < sz := Nat.mod_lt _ h0
    have e := flat_get sz (List.replicate n zs.toList) (t / sz) (t % sz) (by simpa using h1) hr h2
    rw [show t / sz * sz + t % sz = t from by rw [Nat.mul_comm]; exact Nat.div_add_mod t sz] at e
    rw [e]
    have h3 : t % sz < zs.size := by rw [hz]; exact h2
    simp [madeCells, ht, hz]
    rw [getElem!_pos zs _ h3, Array.getElem?_eq_getElem h3]
  · rw [List.getElem?_eq_none (by simp [madeCells]; omega), List.getElem?_eq_none (by rw [flat_len sz _ hr]; simp; omega)]
/-- The block B of type t holds the cells cs, and may be written. -/
def Blk (W : World) (B : Nat) (t : TypeId) (cs : List Value) : Prop := W.heap[B]? = some (.cells cs.toArray t (0, 0))
theorem Blk.lt {W : World} {B : Nat} {t : TypeId} {cs : List Value} (h : Blk W B t cs) : B < W.heap.size := (Array.getElem?_eq_some_iff.1 h).1
theorem Blk.cell {W : World} {B : Nat} {t : TypeId} {cs : List Value} (h : Blk W B t cs) (j : Nat) : W.cell? ⟨B, j, none⟩ = cs[j]? := by simp [World.cell?, show W.heap[B]? = _ from h]
theorem Blk.frozen {W : World} {B : Nat} {t : TypeId} {cs : List Value} (h : Blk W B t cs) (j : Nat) : W.frozen? ⟨B, j, none⟩ = false := by simp [World.frozen?, show W.heap[B]? = _ from h]
theorem Blk.new (W : World) (t : TypeId) (cs : List Value) : Blk (W.alloc (.cells cs.toArray t)) W.heap.size t cs := heap_alloc_new W _
theorem Blk.below {W V : World} {B K : Nat} {t : TypeId} {cs : List Value} (h : Blk W B t cs) (hb : Below K W V) (hK : B < K) : Blk V B t cs := (hb.block B hK).trans h
theorem grown_set (w : World) (g j : Nat) (u : Value) : w.grownBy (w.setCell ⟨g, j, none⟩ u) (some g) :=
  ⟨rfl, rfl, rfl, by simp, fun k _ hk => heap_setCell_other w ⟨g, j, none⟩ k u (fun e => hk (by simp [e]))⟩
theorem row_set {base : Nat} {w : World} {e : TypeId} {size : Nat} {v : Value} {n : Nat} {xs : List Value} (h : w.ownsRow base e size v n xs) (g j : Nat) (u : Value) (hne : ∀ k, v.ownBlock = some k → k ≠ g) : (w.setCell ⟨g, j, none⟩ u).ownsRow base e size v n xs := by
  refine World.ownsRow.kept h (grown_set w g j u) ?_
  cases hv : v.ownBlock with
  | none => exact .inl rfl
  | some k => exact .inr (fun e => hne k hv (by injection e))
theorem row_below {B base : Nat} {w w' : World} {e : TypeId} {size : Nat} {v : Value} {n : Nat} {xs : List Value} (h : w.ownsRow base e size v n xs) (hb : Below B w w') (hB : w.heap.size ≤ B) : w'.ownsRow base e size v n xs := by
  refine ⟨h.1, ?_⟩
  rcases h.2 with h' | ⟨g, cap, cur, hv, hbb, hg, r⟩
  · exact .inl h'
  · refine .inr ⟨g, cap, cur, hv, hbb, ?_, r⟩
    have hlt : g < w.heap.size := (Array.getElem?_eq_some_iff.1 hg).1
    rw [hb.block g (by omega)]; exact hg
theorem flat_put2 {α : Type} (L : List (List α)) (i : Nat) (a b : α) (hi : i < L.length) (h : ∀ x ∈ L, x.length = 2) : (L.flatten.set (i * 2) a).set (i * 2 + 1) b = (L.set i [a, b]).flatten := by
  have e0 := flat_set 2 a L i 0 hi h (by omega)
  rw [Nat.add_zero] at e0
  have hL : ∀ x ∈ L.set i (L[i].set 0 a), x.length = 2 := fun x hx => by
    rcases List.mem_or_eq_of_mem_set hx with h' | rfl
    · exact h x h'
    · simpa using h L[i] (List.getElem_mem hi)
  rw [e0, flat_set 2 b _ i 1 (by simpa using hi) hL (by omega)]
  have hl := h L[i] (List.getElem_mem hi)
  congr 1
  rw [List.set_set]
  congr 1
  simp only [List.getElem_set_self]
  match hx : L[i], hl with
  | [x, y], _ => rfl
/-- The rows L, and behind them as many z as there are to be n. -/
def prt {α : Type} (L : List (List α)) (z : List α) (n : Nat) : List (List α) := L ++ List.replicate (n - L.length) z
theorem prt_len {α : Type} (L : List (List α)) (z : List α) (n : Nat) (h : L.length ≤ n) : (prt L z n).length = n := by simp [prt]; omega
theorem prt_zero {α : Type} (z : List α) (n : Nat) : prt [] z n = List.replicate n z := by simp [prt]
theorem prt_all {α : Type} (L : List (List α)) (z : List α) (n : Nat) (h : L.length = n) : prt L z n = L := by simp [prt, h]
theorem prt_at {α : Type} (L : List (List α)) (z : List α) (n k : Nat) (hk : k = L.length) (h : k < n) : (prt L z n)[k]'(by rw [prt_len L z n (by omega)]; exact h) = z := by
  subst hk
  unfold prt
  rw [List.getElem_append_right (Nat.le_refl _)]
  simp
theorem prt_next {α : Type} (L : List (List α)) (z x : List α) (n k : Nat) (hk : k = L.length) (h : k < n) : (prt L z n).set k x = prt (L ++ [x]) z n := by
  subst hk
  unfold prt
  rw [List.set_append_right _ _ (Nat.le_refl _), Nat.sub_self, show n - L.length = (n - (L ++ [x]).length) + 1 from by simp; omega, List.replicate_succ, List.set_cons_zero, List.append_assoc]
  rfl
theorem prt_sz {α : Type} (sz : Nat) (L : List (List α)) (z : List α) (n : Nat) (hL : ∀ x ∈ L, x.length = sz) (hz : z.length = sz) : ∀ x ∈ prt L z n, x.length = sz := by
  intro x hx
  rcases List.mem_append.1 hx with h | h
  · exact hL x h
  · rw [(List.mem_replicate.1 h).2]; exact hz
theorem flat_put5 {α : Type} (L : List (List α)) (i : Nat) (a b c d e : α) (hi : i < L.length) (h : ∀ x ∈ L, x.length = 5) : ((((L.flatten.set (i * 5) a).set (i * 5 + 1) b).set (i * 5 + 2) c).set (i * 5 + 3) d).set (i * 5 + 4) e = (L.set i [a, b, c, d, e]).flatten := by
  have st : ∀ (M : List (List α)) (y : List α) (j : Nat) (u : α), M.length = L.length → (∀ x ∈ M, x.length = 5) → y.length = 5 → j < 5 → (M.set i y).flatten.set (i * 5 + j) u = (M.set i (y.set j u)).flatten := by
    intro M y j u hM hx hy hj
    have hS : ∀ x ∈ M.set i y, x.length = 5 := fun x hm => by
      rcases List.mem_or_eq_of_mem_set hm with h' | rfl
      · exact hx x h'
      · exact hy
    rw [flat_set 5 u (M.set i y) i j (by rw [List.length_set, hM]; exact hi) hS hj, List.set_set]
    simp only [List.getElem_set_self]
  have hl := h L[i] (List.getElem_mem hi)
  have e0 : L = L.set i L[i] := by simp
  have r0 := st L L[i] 0 a rfl h hl (by omega)
  rw [← e0, Nat.add_zero] at r0
  rw [r0, st L _ 1 b rfl h (by simp [hl]) (by omega), st L _ 2 c rfl h (by simp [hl]) (by omega), st L _ 3 d rfl h (by simp [hl]) (by omega), st L _ 4 e rfl h (by simp [hl]) (by omega)]
  congr 2
  match hx : L[i], hl with
  | [y0, y1, y2, y3, y4], _ => rfl
end Go.Proofs.YtdelegamcebflaaDoor

namespace Go.Proofs.YtdelegamcebflaaDoor
open Go.RowKit
set_option linter.unusedVariables false

/-- What the slice v reads as: pairs of numbers (an amount, an epoch). -/
def RdL (w : World) (v : Value) (l : List (Int × Int)) : Prop :=
  (∃ a cap, v = .slice a 0 cap ∧ l = [] ∧ (a = none → cap = 0)) ∨
  ∃ b off cap, l ≠ [] ∧ v = .slice (some ⟨b, off, none⟩) l.length cap ∧ l.length ≤ cap ∧ cap ≤ maxLen ∧ b < w.heap.size ∧
    ∀ i (h : i < l.length), w.cell? ⟨b, off + i * 2, none⟩ = some (.int .i64 l[i].1) ∧ w.cell? ⟨b, off + i * 2 + 1, none⟩ = some (.int .i64 l[i].2)
theorem RdL.shape {w : World} {v : Value} {l : List (Int × Int)} (h : RdL w v l) : ∃ a cap, v = .slice a l.length cap := by
  rcases h with ⟨a, cap, rfl, rfl, -⟩ | ⟨b, off, cap, h0, rfl, _⟩
  · exact ⟨a, cap, rfl⟩
  · exact ⟨_, cap, rfl⟩
theorem RdL.below {B : Nat} {w w' : World} {v : Value} {l : List (Int × Int)} (h : RdL w v l) (hb : Below B w w') (hB : w.heap.size ≤ B) : RdL w' v l := by
  rcases h with h | ⟨b, off, cap, h0, hv, h1, h2, h3, h4⟩
  · exact .inl h
  · exact .inr ⟨b, off, cap, h0, hv, h1, h2, by have := hb.size; omega, fun i hi => ⟨(hb.cell (p := ⟨b, off + i * 2, none⟩) (by show b < B; omega)).trans (h4 i hi).1, (hb.cell (p := ⟨b, off + i * 2 + 1, none⟩) (by show b < B; omega)).trans (h4 i hi).2⟩⟩
def lvC (p : Int × Int) : List Value := [.int .i64 p.1, .int .i64 p.2]
/-- The slice v, of the call's own from block 'base' on, reads as the pairs l. -/
def OwnL (base : Nat) (w : World) (v : Value) (l : List (Int × Int)) : Prop := w.ownsRow base 37 2 v l.length (l.map lvC).flatten
theorem Tryd.infoLv : (Tryd.prog.info? 37).map (fun i => (i.zero, i.size, i.bytes)) = some (some (.agg #[.int .i64 0, .int .i64 0]), 2, 16) := by kernel_rfl
theorem lvC_sz (p : Int × Int) : (lvC p).length = 2 := rfl
theorem lvP_sz (l : List (Int × Int)) (k : Nat) : ∀ x ∈ part lvC [Value.int .i64 0, Value.int .i64 0] l k, x.length = 2 := part_sz 2 _ _ _ _ lvC_sz rfl
theorem lvM_sz (l : List (Int × Int)) : ∀ x ∈ l.map lvC, x.length = 2 := fun x hx => by obtain ⟨p, _, rfl⟩ := List.mem_map.1 hx; rfl
theorem OwnL.rd {base : Nat} {w : World} {v : Value} {l : List (Int × Int)} (h : OwnL base w v l) : RdL w v l := by
  rcases h.2 with ⟨hv, hn⟩ | ⟨g, cap, cur, hv, hb, hg, hnc, hcm, hcs, ht⟩
  · exact .inl ⟨none, 0, hv, List.length_eq_zero_iff.1 hn, fun _ => rfl⟩
  · by_cases hl : l = []
    · subst hl; exact .inl ⟨_, _, hv, rfl, fun h => by cases h⟩
    · refine .inr ⟨g, 0, cap, hl, hv, hnc, hcm, (Array.getElem?_eq_some_iff.1 hg).1, ?_⟩
      intro i hi
      have h' : w.ownsRow base 37 2 (.slice (some ⟨g, 0, none⟩) l.length cap) l.length (l.map lvC).flatten := hv ▸ h
      have e0 := flat_get 2 (l.map lvC) i 0 (by simpa using hi) (lvM_sz l) (by omega)
      have e1 := flat_get 2 (l.map lvC) i 1 (by simpa using hi) (lvM_sz l) (by omega)
      rw [Nat.zero_add, h'.cellAt (i * 2) (by omega), h'.cellAt (i * 2 + 1) (by omega)]
      rw [Nat.add_zero] at e0
      rw [e0, e1]
      simp [lvC]

theorem OwnL.mono {base base' : Nat} {w : World} {v : Value} {l : List (Int × Int)} (h : OwnL base w v l) (hB : base' ≤ base) : OwnL base' w v l := by
  refine ⟨h.1, ?_⟩
  rcases h.2 with h' | ⟨g, cap, cur, hv, hbb, r⟩
  · exact .inl h'
  · exact .inr ⟨g, cap, cur, hv, by omega, r⟩
theorem OwnL.ge {base : Nat} {w : World} {v : Value} {l : List (Int × Int)} (h : OwnL base w v l) : ∀ k, v.ownBlock = some k → base ≤ k := fun k hk => (World.ownsRow.lt h k hk).1
theorem OwnL.lt {base : Nat} {w : World} {v : Value} {l : List (Int × Int)} (h : OwnL base w v l) : ∀ k, v.ownBlock = some k → k < w.heap.size := fun k hk => (World.ownsRow.lt h k hk).2
theorem OwnL.below {B base : Nat} {w w' : World} {v : Value} {l : List (Int × Int)} (h : OwnL base w v l) (hb : Below B w w') (hB : w.heap.size ≤ B) : OwnL base w' v l := row_below h hb hB
theorem OwnL.kept {base : Nat} {w w' : World} {v : Value} {l : List (Int × Int)} {row : Option Nat} (h : OwnL base w v l) (hg : w.grownBy w' row) (hne : v.ownBlock = none ∨ v.ownBlock ≠ row) : OwnL base w' v l := World.ownsRow.kept h hg hne

end Go.Proofs.YtdelegamcebflaaDoor
