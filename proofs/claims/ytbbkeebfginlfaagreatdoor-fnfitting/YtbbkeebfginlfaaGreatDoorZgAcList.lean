/- The library's functions by which the book's names are listed in order (maps.Keys, slices.Sorted, slices.Sort), laid at this seat: which of its numbers each is. The landed code's book of accounts: a map by name (plain facts, its look-up, its stores). The names of the book, in order: maps.Keys and slices.Sorted at this seat, by the library's contracts. The book's accounts, in the order of their names: the landed code's listed. -/
import Derived.Shelf.SlGeneric
import Derived.Shelf.SlIter.Nil
import Derived.Shelf.SortM.Plain
import Derived.Shelf.SortM.SortNone
import Derived.Ground.GgzProg
import Derived.Ground.SlgmProg
import Derived.Test.YtbbkeebfginlfaaGreatDoorProg
import Derived.Test.YtbbkeebfginlfaaGreatDoorZgAcMark
import Derived.Maps.OwnSet
import Derived.StringKeys
import Derived.Sort.KeysCollected
namespace Go.Proofs.YtbbkeebfginlfaaGreatDoor
open Go.Shelf
def Tryz.keysL_ren : Go.Shelf.Ren := ⟨fun | 7 => 110 | 10 => 113 | n => n, fun | 23 => 169 | 26 => 9 | 3 => 51 | 28 => 177 | 0 => 0 | 27 => 176 | 33 => 101 | 4 => 4 | n => n, fun | n => n⟩
theorem Tryz.keysL : Go.Proofs.SlLaysZ.n7 Tryz.prog Tryz.keysL_ren := {
  mixed := by kernel_rfl
  f7 := ⟨Tryz.f110.name, by decide, Tryz.func110.trans (congrArg some (by kernel_rfl))⟩
  f10 := ⟨Tryz.f113.name, by decide, Tryz.func113.trans (congrArg some (by kernel_rfl))⟩
  t0 := Tryz.underlying0
  a0 := Tryz.isAgg0
  z0 := Tryz.sizeOf0
  v0 := Tryz.zeroValue0
  t4 := Tryz.underlying4
  a4 := Tryz.isAgg4
  z4 := Tryz.sizeOf4
  v4 := Tryz.zeroValue4
  t23 := Tryz.underlying169
  a23 := Tryz.isAgg169
  z23 := Tryz.sizeOf169
  v23 := Tryz.zeroValue169
  t26 := Tryz.underlying9
  a26 := Tryz.isAgg9
  z26 := Tryz.sizeOf9
  v26 := Tryz.zeroValue9
  t27 := Tryz.underlying176
  a27 := Tryz.isAgg176
  z27 := Tryz.sizeOf176
  v27 := Tryz.zeroValue176
  t28 := Tryz.underlying177
  a28 := Tryz.isAgg177
  z28 := Tryz.sizeOf177
  v28 := Tryz.zeroValue177
  t33 := Tryz.underlying101
  a33 := Tryz.isAgg101
  z33 := Tryz.sizeOf101
  v33 := Tryz.zeroValue101 }
def Tryz.sortedL_ren : Go.Shelf.Ren := ⟨fun | 6 => 109 | 8 => 111 | 9 => 112 | 11 => 114 | 13 => 116 | 12 => 115 | 23 => 126 | 24 => 127 | 14 => 117 | 15 => 118 | 16 => 119 | 17 => 120 | 18 => 121 | 19 => 122 | 20 => 123 | 21 => 124 | 22 => 125 | 25 => 128 | 26 => 129 | 27 => 130 | 28 => 131 | 29 => 132 | 30 => 133 | 31 => 134 | n => n, fun | 26 => 9 | 28 => 177 | 24 => 139 | 0 => 0 | 3 => 3 | 37 => 141 | 48 => 193 | 50 => 195 | 4 => 4 | 40 => 185 | 39 => 184 | 45 => 190 | 5 => 5 | 9 => 9 | 51 => 196 | 55 => 200 | 57 => 202 | 58 => 203 | 33 => 101 | n => n, fun | n => n⟩
theorem Tryz.sortedL : Go.Proofs.SlLaysZ.n6 Tryz.prog Tryz.sortedL_ren := {
  mixed := by kernel_rfl
  f6 := ⟨Tryz.f109.name, by decide, Tryz.func109.trans (congrArg some (by kernel_rfl))⟩
  f8 := ⟨Tryz.f111.name, by decide, Tryz.func111.trans (congrArg some (by kernel_rfl))⟩
  f11 := ⟨Tryz.f114.name, by decide, Tryz.func114.trans (congrArg some (by kernel_rfl))⟩
  t0 := Tryz.underlying0
  a0 := Tryz.isAgg0
  z0 := Tryz.sizeOf0
  v0 := Tryz.zeroValue0
  t24 := Tryz.underlying139
  a24 := Tryz.isAgg139
  z24 := Tryz.sizeOf139
  v24 := Tryz.zeroValue139
  t26 := Tryz.underlying9
  a26 := Tryz.isAgg9
  z26 := Tryz.sizeOf9
  v26 := Tryz.zeroValue9
  t28 := Tryz.underlying177
  a28 := Tryz.isAgg177
  z28 := Tryz.sizeOf177
  v28 := Tryz.zeroValue177
  i26 := by kernel_rfl }
def Tryz.sortL_ren : Go.Shelf.Ren := ⟨fun | 6 => 112 | 8 => 116 | 9 => 115 | 19 => 126 | 20 => 127 | 21 => 117 | 22 => 118 | 23 => 119 | 24 => 120 | 25 => 121 | 26 => 122 | 27 => 123 | 28 => 124 | 29 => 125 | 36 => 128 | 31 => 129 | 32 => 130 | 37 => 131 | 38 => 132 | 39 => 133 | 41 => 134 | n => n, fun | 27 => 139 | 29 => 9 | 3 => 3 | 32 => 141 | 26 => 139 | 0 => 0 | 44 => 193 | 46 => 195 | 4 => 4 | 36 => 185 | 35 => 184 | 41 => 190 | 5 => 5 | 9 => 9 | 53 => 196 | 57 => 200 | 63 => 202 | 64 => 203 | n => n, fun | n => n⟩
theorem Tryz.sortL : Go.Proofs.SlLaysM.n6 Tryz.prog Tryz.sortL_ren := {
  mixed := by kernel_rfl
  f6 := ⟨Tryz.f112.name, by decide, Tryz.func112.trans (congrArg some (by kernel_rfl))⟩
  f8 := Tryz.func116.trans (congrArg some (by kernel_rfl))
  f9 := ⟨Tryz.f115.name, by decide, Tryz.func115.trans (congrArg some (by kernel_rfl))⟩
  f19 := Tryz.func126.trans (congrArg some (by kernel_rfl))
  f20 := Tryz.func127.trans (congrArg some (by kernel_rfl))
  f21 := ⟨Tryz.f117.name, by decide, Tryz.func117.trans (congrArg some (by kernel_rfl))⟩
  f22 := ⟨Tryz.f118.name, by decide, Tryz.func118.trans (congrArg some (by kernel_rfl))⟩
  f23 := ⟨Tryz.f119.name, by decide, Tryz.func119.trans (congrArg some (by kernel_rfl))⟩
  f24 := ⟨Tryz.f120.name, by decide, Tryz.func120.trans (congrArg some (by kernel_rfl))⟩
  f25 := ⟨Tryz.f121.name, by decide, Tryz.func121.trans (congrArg some (by kernel_rfl))⟩
  f26 := ⟨Tryz.f122.name, by decide, Tryz.func122.trans (congrArg some (by kernel_rfl))⟩
  f27 := ⟨Tryz.f123.name, by decide, Tryz.func123.trans (congrArg some (by kernel_rfl))⟩
  f28 := ⟨Tryz.f124.name, by decide, Tryz.func124.trans (congrArg some (by kernel_rfl))⟩
  f29 := ⟨Tryz.f125.name, by decide, Tryz.func125.trans (congrArg some (by kernel_rfl))⟩
  f31 := Tryz.func129.trans (congrArg some (by kernel_rfl))
  f32 := Tryz.func130.trans (congrArg some (by kernel_rfl))
  f36 := ⟨Tryz.f128.name, by decide, Tryz.func128.trans (congrArg some (by kernel_rfl))⟩
  f37 := ⟨Tryz.f131.name, by decide, Tryz.func131.trans (congrArg some (by kernel_rfl))⟩
  f38 := ⟨Tryz.f132.name, by decide, Tryz.func132.trans (congrArg some (by kernel_rfl))⟩
  f39 := ⟨Tryz.f133.name, by decide, Tryz.func133.trans (congrArg some (by kernel_rfl))⟩
  f41 := ⟨Tryz.f134.name, by decide, Tryz.func134.trans (congrArg some (by kernel_rfl))⟩
  t0 := Tryz.underlying0
  a0 := Tryz.isAgg0
  z0 := Tryz.sizeOf0
  v0 := Tryz.zeroValue0
  t3 := Tryz.underlying3
  a3 := Tryz.isAgg3
  z3 := Tryz.sizeOf3
  v3 := Tryz.zeroValue3
  t4 := Tryz.underlying4
  a4 := Tryz.isAgg4
  z4 := Tryz.sizeOf4
  v4 := Tryz.zeroValue4
  t5 := Tryz.underlying5
  a5 := Tryz.isAgg5
  z5 := Tryz.sizeOf5
  v5 := Tryz.zeroValue5
  t9 := Tryz.underlying9
  a9 := Tryz.isAgg9
  z9 := Tryz.sizeOf9
  v9 := Tryz.zeroValue9
  t26 := Tryz.underlying139
  a26 := Tryz.isAgg139
  z26 := Tryz.sizeOf139
  v26 := Tryz.zeroValue139
  t27 := Tryz.underlying139
  a27 := Tryz.isAgg139
  z27 := Tryz.sizeOf139
  v27 := Tryz.zeroValue139
  t29 := Tryz.underlying9
  a29 := Tryz.isAgg9
  z29 := Tryz.sizeOf9
  v29 := Tryz.zeroValue9
  t32 := Tryz.underlying141
  a32 := Tryz.isAgg141
  z32 := Tryz.sizeOf141
  v32 := Tryz.zeroValue141
  t35 := Tryz.underlying184
  a35 := Tryz.isAgg184
  z35 := Tryz.sizeOf184
  v35 := Tryz.zeroValue184
  t36 := Tryz.underlying185
  a36 := Tryz.isAgg185
  z36 := Tryz.sizeOf185
  v36 := Tryz.zeroValue185
  t41 := Tryz.underlying190
  a41 := Tryz.isAgg190
  z41 := Tryz.sizeOf190
  v41 := Tryz.zeroValue190
  t44 := Tryz.underlying193
  a44 := Tryz.isAgg193
  z44 := Tryz.sizeOf193
  v44 := Tryz.zeroValue193
  t46 := Tryz.underlying195
  a46 := Tryz.isAgg195
  z46 := Tryz.sizeOf195
  v46 := Tryz.zeroValue195
  t53 := Tryz.underlying196
  a53 := Tryz.isAgg196
  z53 := Tryz.sizeOf196
  v53 := Tryz.zeroValue196
  t57 := Tryz.underlying200
  a57 := Tryz.isAgg200
  z57 := Tryz.sizeOf200
  v57 := Tryz.zeroValue200
  t63 := Tryz.underlying202
  a63 := Tryz.isAgg202
  z63 := Tryz.sizeOf202
  v63 := Tryz.zeroValue202
  t64 := Tryz.underlying203
  a64 := Tryz.isAgg203
  z64 := Tryz.sizeOf203
  v64 := Tryz.zeroValue203 }
end Go.Proofs.YtbbkeebfginlfaaGreatDoor

namespace Go.Proofs.YtbbkeebfginlfaaGreatDoor
open Go.RowKit Go.Maps
set_option linter.unusedVariables false

/-- How a value of the book is read: as itself. -/
abbrev RV (v : Value) : Option (DataW Value × List MemPlace) := some (.held v, [])
def keyB (s : ByteArray) : Lit := .string s.data.toList
def ent (q : Ac × Value) : Lit × DataW Value := (keyB q.1.1, .held (acV q.1 q.2))
/-- The book of the accounts Z. -/
def bookD (Z : List (Ac × Value)) : DataW Value := .map (Z.map ent)
theorem bytesBefore_eq : ∀ x y : List UInt8, bytesBefore x y = Op.bytesLess x y
  | [], [] => rfl
  | [], _ :: _ => rfl
  | _ :: _, [] => rfl
  | a :: x, b :: y => by unfold bytesBefore Op.bytesLess; rw [bytesBefore_eq x y]
theorem key_before (s t : ByteArray) : (keyB s).before (keyB t) = Op.bytesLess s.toList t.toList := by
  show bytesBefore s.data.toList t.data.toList = _
  rw [bytesBefore_eq, ByteArray.toList_eq, ByteArray.toList_eq]
theorem key_same {s t : ByteArray} (h : s = t) : (keyB s).sameKey (keyB t) = true := by subst h; simp [keyB, Lit.sameKey]
theorem key_not {s t : ByteArray} (h : s ≠ t) : (keyB s).sameKey (keyB t) = false := by
  simp only [keyB, Lit.sameKey, beq_eq_false_iff_ne]
  intro e
  exact h (ByteArray.ext (Array.toList_inj.1 e))
theorem filt_all (s : ByteArray) (t : List (Ac × Value)) (h : ∀ x ∈ t, x.1.1 ≠ s) : (t.map ent).filter (fun p => !p.1.sameKey (keyB s)) = t.map ent := by
  rw [List.filter_eq_self]
  intro p hp
  obtain ⟨x, hx, rfl⟩ := List.mem_map.1 hp
  show (!(keyB x.1.1).sameKey (keyB s)) = true
  rw [key_not (h x hx)]
  rfl
theorem insert_book (q : Ac × Value) : ∀ Z : List (Ac × Value), Asc Z → DataW.insert (ent q) ((Z.map ent).filter (fun p => !p.1.sameKey (keyB q.1.1))) = (insZ q Z).map ent
  | [], _ => rfl
  | x :: t, h => by
    obtain ⟨h1, h2⟩ := List.pairwise_cons.1 h
    by_cases hl : Lt x.1.1 q.1.1
    · have hne : x.1.1 ≠ q.1.1 := fun e => by rw [e] at hl; exact lt_no _ hl
      rw [insZ_lt hl, List.map_cons, List.filter_cons_of_pos (by show (!(keyB x.1.1).sameKey (keyB q.1.1)) = true; rw [key_not hne]; rfl), DataW.insert, if_neg, insert_book q t h2]
      · rfl
      · show ¬ (keyB q.1.1).before (keyB x.1.1) = true
        rw [key_before]; exact lt_as hl
    · by_cases he : x.1.1 = q.1.1
      · have hab : ∀ y ∈ t, Lt q.1.1 y.1.1 := fun y hy => by rw [← he]; exact h1 y hy
        rw [insZ_eq he, List.map_cons, List.filter_cons_of_neg (by show ¬ (!(keyB x.1.1).sameKey (keyB q.1.1)) = true; rw [key_same he]; simp), filt_all q.1.1 t (fun y hy e => by have := hab y hy; rw [e] at this; exact lt_no _ this)]
        cases t with
        | nil => rfl
        | cons y t =>
          rw [List.map_cons, DataW.insert, if_pos]
          · rfl
          · show (keyB q.1.1).before (keyB y.1.1) = true
            rw [key_before]; exact hab y List.mem_cons_self
      · have hlt := lt_or hl he
        have hab : ∀ y ∈ x :: t, y.1.1 ≠ q.1.1 := fun y hy e => by
          rcases List.mem_cons.1 hy with rfl | hy
          · exact he e
          · have := lt_tr hlt (h1 y hy); rw [e] at this; exact lt_no _ this
        rw [insZ_gt hlt, filt_all q.1.1 _ hab, List.map_cons, DataW.insert, if_pos]
        · rfl
        · show (keyB q.1.1).before (keyB x.1.1) = true
          rw [key_before]; exact hlt
theorem put_book (Z : List (Ac × Value)) (ha : Asc Z) (q : Ac × Value) : (bookD Z).put (keyB q.1.1) (.held (acV q.1 q.2)) = bookD (insZ q Z) := by
  show DataW.map _ = DataW.map _
  exact congrArg _ (insert_book q Z ha)
theorem at_book (s : ByteArray) (z : DataW Value) : ∀ Z : List (Ac × Value), (bookD Z).atKey (keyB s) z = match getZ s Z with
    | some q => .held (acV q.1 q.2)
    | none => z
  | [] => rfl
  | x :: t => by
    have ih := at_book s z t
    unfold bookD DataW.atKey at ih ⊢
    unfold getZ
    simp only [List.map_cons, List.find?_cons]
    by_cases he : x.1.1 = s
    · rw [if_pos he, show (ent x).1.sameKey (keyB s) = true from key_same he]
      rfl
    · rw [if_neg he, show (ent x).1.sameKey (keyB s) = false from key_not he]
      exact ih
theorem has_book (s : ByteArray) : ∀ Z : List (Ac × Value), Maps.has (bookD Z) (keyB s) = (getZ s Z).isSome
  | [] => rfl
  | x :: t => by
    have ih := has_book s t
    unfold bookD at ih ⊢
    rw [Maps.has_eq] at ih ⊢
    unfold getZ
    simp only [List.map_cons, List.any_cons]
    by_cases he : x.1.1 = s
    · rw [if_pos he, show (ent x).1.sameKey (keyB s) = true from key_same he]
      rfl
    · rw [if_neg he, show (ent x).1.sameKey (keyB s) = false from key_not he, Bool.false_or]
      exact ih
theorem filt_insert (k : Lit) (d : DataW Value) (hk : k.sameKey k = true) : ∀ es : List (Lit × DataW Value), (DataW.insert (k, d) es).filter (fun p => !p.1.sameKey k) = es.filter (fun p => !p.1.sameKey k)
  | [] => by simp [DataW.insert, hk]
  | y :: r => by
    unfold DataW.insert
    split
    · rw [List.filter_cons_of_neg (by simp [hk])]
    · rw [List.filter_cons, List.filter_cons, filt_insert k d hk r]
theorem del_put (Z : List (Ac × Value)) (s : ByteArray) (d : DataW Value) (h : getZ s Z = none) : ((bookD Z).put (keyB s) d).del (keyB s) = bookD Z := by
  show DataW.map ((DataW.insert (keyB s, d) ((Z.map ent).filter (fun p => !p.1.sameKey (keyB s)))).filter (fun p => !p.1.sameKey (keyB s))) = DataW.map (Z.map ent)
  rw [filt_insert _ _ (key_same rfl), filt_all s Z (getZ_none h), filt_all s Z (getZ_none h)]
theorem size_book (Z : List (Ac × Value)) : Maps.size (bookD Z) = Z.length := by simp [bookD, Maps.size]
theorem keys_book (Z : List (Ac × Value)) : strKeys (bookD Z) = Z.map (fun q => q.1.1.data.toList) := by
  simp only [bookD, strKeys, List.map_map]
  rfl
/-- The names in order. -/
theorem sorted_book (Z : List (Ac × Value)) (ha : Asc Z) {ss : List (List UInt8)} (h : ss.Perm (strKeys (bookD Z))) : ss.mergeSort (fun x y => decide (x ≤ y)) = Z.map (fun q => q.1.1.data.toList) := by
  rw [show ss.mergeSort (fun x y => decide (x ≤ y)) = (strKeys (bookD Z)).mergeSort leB from mergeSort_of_perm h, keys_book]
  refine List.mergeSort_of_pairwise ?_
  rw [List.pairwise_map]
  refine List.Pairwise.imp ?_ ha
  intro a b hab
  rw [lt_iff, ByteArray.toList_eq, ByteArray.toList_eq] at hab
  simp only [leB, decide_eq_true_eq]
  exact List.le_of_lt hab
theorem get_at : ∀ {Z : List (Ac × Value)}, Asc Z → ∀ k (h : k < Z.length), getZ Z[k].1.1 Z = some Z[k]
  | [], _, k, h => by simp at h
  | x :: t, ha, 0, h => by simp [getZ]
  | x :: t, ha, k + 1, h => by
    obtain ⟨h1, h2⟩ := List.pairwise_cons.1 ha
    have hk : k < t.length := by simpa using h
    have hlt := h1 t[k] (List.getElem_mem hk)
    simp only [List.getElem_cons_succ]
    unfold getZ
    rw [if_neg (fun e => by rw [e] at hlt; exact lt_no _ hlt)]
    exact get_at h2 k hk

theorem key_law : Keyed Tryz.prog 9 := string_keyed Tryz.underlying9
theorem zeroAc (w : World) : (zeroValue 51).run Tryz.prog w = .ok (acV (ByteArray.empty, 0, 0, 0, []) (.slice none 0 0)) w := by kernel_rfl
theorem key_of (s : ByteArray) (h : s.size ≤ maxLen) : keyOf Tryz.prog 9 (.string s) = some (keyB s) := Go.WideMaps.keyOf_string_mk Tryz.underlying9 h

/-- What a look-up in the book gives. -/
def lookB (s : ByteArray) (Z : List (Ac × Value)) : Value := match getZ s Z with
  | some q => acV q.1 q.2
  | none => acV (ByteArray.empty, 0, 0, 0, []) (.slice none 0 0)
theorem run_look (c : Bool) {w : World} {b n : Nat} {Z : List (Ac × Value)} (hown : w.ownsMap Tryz.prog 9 RV b n (bookD Z)) (s : ByteArray) (hs : s.size ≤ maxLen) :
    (Instr.lookup 169 (.map (some b)) (.string s) c).run Tryz.prog w = .ok (if c then .tuple #[lookB s Z, .bool (getZ s Z).isSome] else lookB s Z) w := by
  obtain ⟨es, clock, hb, F, hsz, hD⟩ := hown
  have hat := fun z => at_book s z Z
  rw [hD] at hat
  rcases Maps.fit_look (R := RV) c key_law Tryz.underlying169 (zeroAc w) hb F (key_of s hs) with ⟨hrun, _, h⟩ | ⟨e0, y, _, _, hrun, hRv, h, _⟩
  · cases hg : getZ s Z with
    | none => rw [hrun]; simp [lookB, hg]
    | some q =>
      have h1 := hat (.held (.bool true))
      have h2 := hat (.held (.bool false))
      rw [h, hg] at h1 h2
      simp at h1 h2
      rw [← h1] at h2
      simp at h2
  · have h1 := hat (.held (.bool true))
    have h2 := hat (.held (.bool false))
    rw [h] at h1 h2
    cases hg : getZ s Z with
    | none =>
      rw [hg] at h1 h2
      simp only at h1 h2
      rw [h1] at h2
      simp at h2
    | some q =>
      rw [hg] at h1
      simp only at h1
      have hv : y = (.held e0.val, []) := by simpa [RV] using hRv.symm
      rw [hv] at h1
      simp at h1
      rw [hrun, h1]
      simp [lookB, hg]
theorem step_look {ops : Array Oper} {rest : List Oper} {o : Oper} {a : Act} {Q : Exit → Act → World → Prop} (w : World) (hg : o.guard = none) (m x : Operand) (c : Bool) (hop : o.op = Op.lookup 169 m x c)
    (b n : Nat) (Z : List (Ac × Value)) (s : ByteArray) (hm : a.eval m = .map (some b)) (hx : a.eval x = .string s) (hown : w.ownsMap Tryz.prog 9 RV b n (bookD Z)) (hs : s.size ≤ maxLen)
    (hK : wpList Tryz.prog ops Q rest (a.put o.dst (if c then .tuple #[lookB s Z, .bool (getZ s Z).isSome] else lookB s Z)) w) : wpList Tryz.prog ops Q (o :: rest) a w := by
  refine wpList_plain hg fun K' hK' => ?_
  have hrun := run_look c hown s hs
  unfold Oper.wp
  simp [execOp, hop, hm, hx, hrun, Result.andThen]
  exact hK' _ _ (by simpa using hK)
theorem book_below {B : Nat} {w w' : World} {b n : Nat} {D : DataW Value} (h : w.ownsMap Tryz.prog 9 RV b n D) (hb : Below B w w') (hB : b < B) : w'.ownsMap Tryz.prog 9 RV b n D := by
  obtain ⟨es, clock, hm, r⟩ := h
  exact ⟨es, clock, (hb.block b hB).trans hm, r⟩
end Go.Proofs.YtbbkeebfginlfaaGreatDoor

namespace Go.Proofs.YtbbkeebfginlfaaGreatDoor
open Go.RowKit Go.Maps Go.Sort Go.Shelf
set_option linter.unusedVariables false

theorem sorts_at (m : Nat) : AnyZ.SortsIn Tryz.prog Tryz.sortedL_ren Fence.wide m :=
  ⟨fun blk off cap ss W hH hblk hsz => callsIn_wide.2 (AnyM.slices_Sort_string Tryz.sortL blk off cap ss W hH hblk hsz),
   fun p cap W => callsIn_wide.2 (AnyM.slices_Sort_string_none Tryz.sortL p cap W)⟩
theorem keys_any (mb : Option Nat) (W : World) : Calls Tryz.prog 110 #[.map mb] W fun e w' => e = .returned (.func (.func 113) #[] #[.pointer (some ⟨W.heap.size, 0, none⟩)]) ∧ w' = W.alloc (.cells #[.map mb] 169) :=
  (callsIn_wide (n := 5)).1 (AnyZ.keys_in Tryz.keysL Fence.wide 5 trivial rfl mb W)
set_option maxHeartbeats 1000000 in
theorem sorted_any {H : Type} (b nn : Nat) (D0 : DataW H) (R : Value → Option (DataW H × List MemPlace)) (w : World) (hown : w.ownsMap Tryz.prog 9 R b nn D0) (hmax : Maps.size D0 ≤ maxLen) (hbytes : Maps.size D0 * 16 ≤ 140737488355328) :
    Calls Tryz.prog 109 #[.func (.func 113) #[] #[.pointer (some ⟨w.heap.size, 0, none⟩)]] (w.alloc (.cells #[.map (some b)] 169)) fun e w' => ∃ (v : Value) (ss : List (List UInt8)), e = .returned v ∧ ss.Perm (strKeys D0) ∧
      w'.ownsRow (w.alloc (.cells #[.map (some b)] 169)).heap.size 9 1 v ss.length ((ss.mergeSort (fun x y => decide (x ≤ y))).map encStr) ∧ (v = .slice none 0 0 ↔ ss = []) ∧ Below (w.alloc (.cells #[.map (some b)] 169)).heap.size (w.alloc (.cells #[.map (some b)] 169)) w' := by
  have hbl := hown.lt
  have hseq : SeqGives Fence.wide 2 Tryz.prog 113 #[.pointer (some ⟨w.heap.size, 0, none⟩)] encStr (fun ss => ss.Perm (strKeys D0)) (Maps.size D0) (w.alloc (.cells #[.map (some b)] 169)) :=
    AnyZ.keys_gives (ρ := Tryz.keysL_ren) { Tryz.keysL with } Fence.wide _ trivial rfl (by omega) w.heap.size b nn D0 _ (by simp) (by simp) (by
      obtain ⟨es, clock, hb, Ft, hs, hD⟩ := hown
      exact ⟨es, clock, (Below.heap_alloc _ _ b hbl).trans hb, Ft, hs, hD⟩)
  exact (callsIn_wide (n := 5)).1 (AnyZ.sorted_in Tryz.sortedL Fence.wide 5 trivial trivial trivial trivial rfl (by omega) (sorts_at _) (enters_of Tryz.func112 (by kernel_rfl) rfl) 113 #[.pointer (some ⟨w.heap.size, 0, none⟩)] trivial (enters_of Tryz.func113 (by kernel_rfl) rfl) _ _ hmax hbytes _ hseq)

/-- What maps.Keys hands back, sorted: the names in order, in memory of the call's own. -/
theorem names_any (b n : Nat) (Z : List (Ac × Value)) (w : World) (hown : w.ownsMap Tryz.prog 9 RV b n (bookD Z)) (ha : Asc Z) (hl : Z.length ≤ 4000000) :
    Calls Tryz.prog 109 #[.func (.func 113) #[] #[.pointer (some ⟨w.heap.size, 0, none⟩)]] (w.alloc (.cells #[.map (some b)] 169)) fun e w' => ∃ (v : Value), e = .returned v ∧
      w'.ownsRow (w.heap.size + 1) 9 1 v Z.length (Z.map (fun q => Value.string q.1.1)) ∧ Below (w.heap.size + 1) (w.alloc (.cells #[.map (some b)] 169)) w' := by
  refine (sorted_any b n (bookD Z) RV w hown (by rw [size_book]; unfold maxLen; omega) (by rw [size_book]; omega)).mono ?_
  rintro e w' ⟨v, ss, rfl, hp, hrow, -, hb⟩
  have hlen : ss.length = Z.length := by rw [hp.length_eq, keys_book]; simp
  rw [sorted_book Z ha hp, hlen, List.map_map] at hrow
  rw [World.size_alloc] at hrow hb
  refine ⟨v, rfl, ?_, hb⟩
  have e : (Z.map (encStr ∘ fun q => q.1.1.data.toList)) = Z.map (fun q => Value.string q.1.1) := by
    apply List.map_congr_left
    intro q _
    simp [encStr]
  rw [e] at hrow
  exact hrow
end Go.Proofs.YtbbkeebfginlfaaGreatDoor

namespace Go.Proofs.YtbbkeebfginlfaaGreatDoor
open Go.RowKit Go.Maps
set_option linter.unusedVariables false

theorem step_len {ops : Array Oper} {rest : List Oper} {o : Oper} {a : Act} {Q : Exit → Act → World → Prop} (w : World) (hg : o.guard = none) (m : Operand) (hop : o.op = Op.call { callee := Callee.builtin Builtin.len, args := #[m], argTypes := #[169] })
    (b n : Nat) (Z : List (Ac × Value)) (hm : a.eval m = .map (some b)) (hown : w.ownsMap Tryz.prog 9 RV b n (bookD Z))
    (hK : wpList Tryz.prog ops Q rest (a.put o.dst (.int .i64 (Z.length : Int))) w) : wpList Tryz.prog ops Q (o :: rest) a w := by
  refine wpList_len_own w hg m 169 hop 9 51 Tryz.underlying169 RV b n (bookD Z) hm hown ?_
  rw [size_book]
  exact hK

set_option maxRecDepth 20000 in
set_option maxHeartbeats 1000000 in
theorem listed_any (b n : Nat) (Z : List (Ac × Value)) (w : World) (hown : w.ownsMap Tryz.prog 9 RV b n (bookD Z)) (ha : Asc Z) (hl : Z.length ≤ 4000000) (hnm : ∀ q ∈ Z, q.1.1.size ≤ maxLen) (hsl : ∀ q ∈ Z, ∃ a m c, q.2 = .slice a m c) :
    Calls Tryz.prog 107 #[.map (some b)] w fun e w' => ∃ g cap, e = .returned (.slice (some ⟨g, 0, none⟩) Z.length cap) ∧ RowA w.heap.size w' (.slice (some ⟨g, 0, none⟩) Z.length cap) Z ∧ Below w.heap.size w w' := by
  obtain ⟨i0, hi, hz0, hz1, hz2⟩ := info_parts Tryz.infoAc
  have Ho := hide hown
  have hbl := hown.lt
  clear hown
  go_enter Tryz.func107, Tryz.ntmps107
  go_wp2_with (first
    | (at_len; refine step_len _ rfl _ rfl b n Z rfl Ho.out ?_)
    | (refine wpList_make_own _ rfl _ _ 31 rfl w.heap.size 51 i0 (.agg #[.string { data := #[] }, .int .i64 0, .int .i64 0, .int .i64 0, .slice none 0 0]) 5 Tryz.underlying31 hi hz0 hz1 .i64 .i64 _ Z.length rfl rfl rfl (by rw [hz2]; omega) (by unfold maxLen; omega) (Nat.le_refl _) ?_; intro w1 hrow1 hgr1; have hb1 : Below w.heap.size w w1 := (Below.refl _ _).grown hgr1 (Nat.le_refl _) (by intro k hk; cases hk); have Ho1 := hide (book_below Ho.out hb1 hbl))
    | (go_at_call 110; refine (keys_any _ _).mono ?_; rintro e w2 ⟨rfl, rfl⟩))
  refine (names_any b n Z w1 Ho1.out ha hl).mono ?_
  rintro e w3 ⟨v, rfl, hrow3, hb3⟩
  have hlt1 : w.heap.size < w1.heap.size := (World.ownsRow.lt hrow1 w.heap.size rfl).2
  have hb13 : Below w1.heap.size w1 w3 := ((Below.refl _ w1).alloc (Nat.le_refl _) _).trans (hb3.mono (by omega))
  have hB3 : Below w.heap.size w w3 := hb1.trans (hb13.mono hb1.size)
  have Hr3 : Hid (RowA w.heap.size w3 (.slice (some ⟨w.heap.size, 0, none⟩) 0 Z.length) []) := hide (row_below hrow1 hb13 (Nat.le_refl _))
  clear hrow1 hgr1 hb3 Ho1
  have Hrow := hide hrow3
  rcases hrow3.2 with ⟨rfl, hz⟩ | ⟨gv, cv, cur, rfl, hgv, hgc, h1, h2, h3, h4⟩
  · have e : Z = [] := List.length_eq_zero_iff.1 hz
    subst e
    clear hrow3
    go_wp2
    refine wp_loop_rounds 1 ?_
    rw [rounds_succ]
    go_wp2
    go_ret
    exact ⟨_, _, rfl, Hr3.out, hB3⟩
  · clear hrow3 hgc h4 h3
    go_wp2
    go_loopw [3, 13] (fun ov iv wr => ∃ (k g c : Nat), k ≤ Z.length ∧ iv = .int .i64 k ∧ ov = .slice (some ⟨g, 0, none⟩) k c ∧ RowA w.heap.size wr ov (Z.take k) ∧ wr.ownsRow (w1.heap.size + 1) 9 1 (.slice (some ⟨gv, 0, none⟩) Z.length cv) Z.length (Z.map (fun q => Value.string q.1.1)) ∧ gv ≠ g ∧ Below w.heap.size w wr) (fun _ iv _ => Z.length - (intOf iv).toNat)
    case atStart => exact ⟨0, _, _, Nat.zero_le _, rfl, rfl, Hr3.out, Hrow.out, by omega, hB3⟩
    case round =>
      obtain ⟨k, g, c, hk, rfl, rfl, ho, hns, hne, hb⟩ := hrel
      clear hB3 Hr3 Hrow hb13
      have hzl : (Z.take k).length = k := by simp; omega
      by_cases hlt : k < Z.length
      · have hc : wr.cell? ⟨gv, k, none⟩ = some (.string Z[k].1.1) := by
          have := hns.cellAt k (by omega)
          rw [this]
          simp [hlt]
        have hli : (k : Int) < (Z.length : Int) := by omega
        have hgl : g < wr.heap.size := ho.lt g rfl
        have hgw : w.heap.size ≤ g := ho.ge g rfl
        have hgvl : gv < wr.heap.size := (World.ownsRow.lt hns gv rfl).2
        have hws := hb.size
        have HoK := hide (book_below Ho.out hb hbl)
        have hsz := hnm Z[k] (List.getElem_mem _)
        have hlook : Hid (lookB Z[k].1.1 Z = acV Z[k].1 Z[k].2) := hide (by unfold lookB; rw [get_at ha k hlt])
        have Hnx : Hid (Z.take (k + 1) = Z.take k ++ [Z[k]]) := hide (List.take_succ_eq_append_getElem hlt)
        have hshape := hsl Z[k] (List.getElem_mem _)
        have Hro := hide ho
        have Hns := hide hns
        clear ho hns
        generalize Z[k] = q at hc hsz hlook Hnx hshape
        obtain ⟨⟨nm, fr, no, st, ls⟩, lv⟩ := q
        obtain ⟨a', m', c', hlv⟩ := hshape
        simp only at hlv hc hsz hlook
        subst hlv
        simp only [acV] at hlook
        go_wp2_with (first
          | (at_lookup; refine step_look _ rfl _ _ false rfl b n Z nm rfl rfl HoK.out hsz ?_; rw [hlook.out]; simp only [Bool.false_eq_true, if_false])
          | (at_builtin; refine app_ownA _ rfl _ _ rfl w.heap.size (.slice (some ⟨g, 0, none⟩) k c) _ (Z.take k) ((nm, fr, no, st, ls), .slice a' m' c') rfl rfl (World.ownsRow.alloc Hro.out _) (Blk.new' _ _ (acC ((nm, fr, no, st, ls), .slice a' m' c')) _ (by simp)) rfl (by simp; omega) (by simp; omega) ?_; intro v' w4 hrow4 hgr4 hnn4 hloc4; obtain ⟨g', c'', rfl⟩ := hrow4.shapeN hnn4 (k + 1) (by simp; omega)))
        go_roundw
        case rel =>
          refine ⟨k + 1, g', c'', by omega, by go_num, rfl, by rw [Hnx.out]; exact hrow4, World.ownsRow.kept (World.ownsRow.alloc Hns.out _) hgr4 (.inr (by simp [Value.ownBlock]; exact hne)), ?_, (hb.alloc hws _).grown hgr4 (by simp; omega) (fun j hj => by cases hj; exact hgw)⟩
          rcases hloc4 with h | h
          · have : g' = g := by simpa [Value.ownBlock] using h
            omega
          · have : g' = wr.heap.size + 1 := by simpa [Value.ownBlock] using h
            omega
        case measure => simp [intOf]; omega
      · have e : k = Z.length := by omega
        subst e
        rw [List.take_length] at ho
        go_wp2
        go_ret
        exact ⟨_, _, rfl, ho, hb⟩
end Go.Proofs.YtbbkeebfginlfaaGreatDoor
