/- The library's functions by which the book's names are listed in order (maps.Keys, slices.Sorted, slices.Sort), laid at this seat: which of its numbers each is. The landed code's book of accounts: a map by name (plain facts, its look-up, its stores). -/
import Derived.Shelf.SlGeneric
import Derived.Shelf.SlIter.Nil
import Derived.Shelf.SortM.Plain
import Derived.Shelf.SortM.SortNone
import Derived.Ground.GgzProg
import Derived.Ground.SlgmProg
import Derived.Test.YtggkonpboahdeaaGreatDoorProg
import Derived.Test.YtggkonpboahdeaaGreatDoorZlAcWith
import Derived.Maps.OwnSet
import Derived.StringKeys
import Derived.Sort.KeysCollected
namespace Go.Proofs.YtggkonpboahdeaaGreatDoor
open Go.Shelf
def Tryz.keysL_ren : Go.Shelf.Ren := ⟨fun | 7 => 145 | 10 => 148 | n => n, fun | 23 => 218 | 26 => 9 | 3 => 91 | 28 => 226 | 0 => 0 | 27 => 225 | 33 => 116 | 4 => 4 | n => n, fun | n => n⟩
theorem Tryz.keysL : Go.Proofs.SlLaysZ.n7 Tryz.prog Tryz.keysL_ren := {
  mixed := by kernel_rfl
  f7 := ⟨Tryz.f145.name, by decide, Tryz.func145.trans (congrArg some (by kernel_rfl))⟩
  f10 := ⟨Tryz.f148.name, by decide, Tryz.func148.trans (congrArg some (by kernel_rfl))⟩
  t0 := Tryz.underlying0
  a0 := Tryz.isAgg0
  z0 := Tryz.sizeOf0
  v0 := Tryz.zeroValue0
  t4 := Tryz.underlying4
  a4 := Tryz.isAgg4
  z4 := Tryz.sizeOf4
  v4 := Tryz.zeroValue4
  t23 := Tryz.underlying218
  a23 := Tryz.isAgg218
  z23 := Tryz.sizeOf218
  v23 := Tryz.zeroValue218
  t26 := Tryz.underlying9
  a26 := Tryz.isAgg9
  z26 := Tryz.sizeOf9
  v26 := Tryz.zeroValue9
  t27 := Tryz.underlying225
  a27 := Tryz.isAgg225
  z27 := Tryz.sizeOf225
  v27 := Tryz.zeroValue225
  t28 := Tryz.underlying226
  a28 := Tryz.isAgg226
  z28 := Tryz.sizeOf226
  v28 := Tryz.zeroValue226
  t33 := Tryz.underlying116
  a33 := Tryz.isAgg116
  z33 := Tryz.sizeOf116
  v33 := Tryz.zeroValue116 }
def Tryz.sortedL_ren : Go.Shelf.Ren := ⟨fun | 6 => 144 | 8 => 146 | 9 => 147 | 11 => 149 | 13 => 151 | 12 => 150 | 23 => 161 | 24 => 162 | 14 => 152 | 15 => 153 | 16 => 154 | 17 => 155 | 18 => 156 | 19 => 157 | 20 => 158 | 21 => 159 | 22 => 160 | 25 => 163 | 26 => 164 | 27 => 165 | 28 => 166 | 29 => 167 | 30 => 168 | 31 => 169 | n => n, fun | 26 => 9 | 28 => 226 | 24 => 43 | 0 => 0 | 3 => 3 | 37 => 171 | 48 => 241 | 50 => 243 | 4 => 4 | 40 => 234 | 39 => 233 | 45 => 150 | 5 => 5 | 9 => 9 | 51 => 244 | 55 => 248 | 57 => 250 | 58 => 251 | 33 => 116 | n => n, fun | n => n⟩
theorem Tryz.sortedL : Go.Proofs.SlLaysZ.n6 Tryz.prog Tryz.sortedL_ren := {
  mixed := by kernel_rfl
  f6 := ⟨Tryz.f144.name, by decide, Tryz.func144.trans (congrArg some (by kernel_rfl))⟩
  f8 := ⟨Tryz.f146.name, by decide, Tryz.func146.trans (congrArg some (by kernel_rfl))⟩
  f11 := ⟨Tryz.f149.name, by decide, Tryz.func149.trans (congrArg some (by kernel_rfl))⟩
  t0 := Tryz.underlying0
  a0 := Tryz.isAgg0
  z0 := Tryz.sizeOf0
  v0 := Tryz.zeroValue0
  t24 := Tryz.underlying43
  a24 := Tryz.isAgg43
  z24 := Tryz.sizeOf43
  v24 := Tryz.zeroValue43
  t26 := Tryz.underlying9
  a26 := Tryz.isAgg9
  z26 := Tryz.sizeOf9
  v26 := Tryz.zeroValue9
  t28 := Tryz.underlying226
  a28 := Tryz.isAgg226
  z28 := Tryz.sizeOf226
  v28 := Tryz.zeroValue226
  i26 := by kernel_rfl }
def Tryz.sortL_ren : Go.Shelf.Ren := ⟨fun | 6 => 147 | 8 => 151 | 9 => 150 | 19 => 161 | 20 => 162 | 21 => 152 | 22 => 153 | 23 => 154 | 24 => 155 | 25 => 156 | 26 => 157 | 27 => 158 | 28 => 159 | 29 => 160 | 36 => 163 | 31 => 164 | 32 => 165 | 37 => 166 | 38 => 167 | 39 => 168 | 41 => 169 | n => n, fun | 27 => 43 | 29 => 9 | 3 => 3 | 32 => 171 | 26 => 43 | 0 => 0 | 44 => 241 | 46 => 243 | 4 => 4 | 36 => 234 | 35 => 233 | 41 => 150 | 5 => 5 | 9 => 9 | 53 => 244 | 57 => 248 | 63 => 250 | 64 => 251 | n => n, fun | n => n⟩
theorem Tryz.sortL : Go.Proofs.SlLaysM.n6 Tryz.prog Tryz.sortL_ren := {
  mixed := by kernel_rfl
  f6 := ⟨Tryz.f147.name, by decide, Tryz.func147.trans (congrArg some (by kernel_rfl))⟩
  f8 := Tryz.func151.trans (congrArg some (by kernel_rfl))
  f9 := ⟨Tryz.f150.name, by decide, Tryz.func150.trans (congrArg some (by kernel_rfl))⟩
  f19 := Tryz.func161.trans (congrArg some (by kernel_rfl))
  f20 := Tryz.func162.trans (congrArg some (by kernel_rfl))
  f21 := ⟨Tryz.f152.name, by decide, Tryz.func152.trans (congrArg some (by kernel_rfl))⟩
  f22 := ⟨Tryz.f153.name, by decide, Tryz.func153.trans (congrArg some (by kernel_rfl))⟩
  f23 := ⟨Tryz.f154.name, by decide, Tryz.func154.trans (congrArg some (by kernel_rfl))⟩
  f24 := ⟨Tryz.f155.name, by decide, Tryz.func155.trans (congrArg some (by kernel_rfl))⟩
  f25 := ⟨Tryz.f156.name, by decide, Tryz.func156.trans (congrArg some (by kernel_rfl))⟩
  f26 := ⟨Tryz.f157.name, by decide, Tryz.func157.trans (congrArg some (by kernel_rfl))⟩
  f27 := ⟨Tryz.f158.name, by decide, Tryz.func158.trans (congrArg some (by kernel_rfl))⟩
  f28 := ⟨Tryz.f159.name, by decide, Tryz.func159.trans (congrArg some (by kernel_rfl))⟩
  f29 := ⟨Tryz.f160.name, by decide, Tryz.func160.trans (congrArg some (by kernel_rfl))⟩
  f31 := Tryz.func164.trans (congrArg some (by kernel_rfl))
  f32 := Tryz.func165.trans (congrArg some (by kernel_rfl))
  f36 := ⟨Tryz.f163.name, by decide, Tryz.func163.trans (congrArg some (by kernel_rfl))⟩
  f37 := ⟨Tryz.f166.name, by decide, Tryz.func166.trans (congrArg some (by kernel_rfl))⟩
  f38 := ⟨Tryz.f167.name, by decide, Tryz.func167.trans (congrArg some (by kernel_rfl))⟩
  f39 := ⟨Tryz.f168.name, by decide, Tryz.func168.trans (congrArg some (by kernel_rfl))⟩
  f41 := ⟨Tryz.f169.name, by decide, Tryz.func169.trans (congrArg some (by kernel_rfl))⟩
  t0 := Tryz.underlying0
  a0 := Tryz.isAgg0
  z0 := Tryz.sizeOf0
  v0 := Tryz.zeroValue0
  t3 := Tryz.underlying3
  a3 := Tryz.isAgg3
  z3 := Tryz.sizeOf3
  v3 := Tryz.zeroValue3
  t4 := Tryz.underlying4
  a4 := Tryz.isAgg4
  z4 := Tryz.sizeOf4
  v4 := Tryz.zeroValue4
  t5 := Tryz.underlying5
  a5 := Tryz.isAgg5
  z5 := Tryz.sizeOf5
  v5 := Tryz.zeroValue5
  t9 := Tryz.underlying9
  a9 := Tryz.isAgg9
  z9 := Tryz.sizeOf9
  v9 := Tryz.zeroValue9
  t26 := Tryz.underlying43
  a26 := Tryz.isAgg43
  z26 := Tryz.sizeOf43
  v26 := Tryz.zeroValue43
  t27 := Tryz.underlying43
  a27 := Tryz.isAgg43
  z27 := Tryz.sizeOf43
  v27 := Tryz.zeroValue43
  t29 := Tryz.underlying9
  a29 := Tryz.isAgg9
  z29 := Tryz.sizeOf9
  v29 := Tryz.zeroValue9
  t32 := Tryz.underlying171
  a32 := Tryz.isAgg171
  z32 := Tryz.sizeOf171
  v32 := Tryz.zeroValue171
  t35 := Tryz.underlying233
  a35 := Tryz.isAgg233
  z35 := Tryz.sizeOf233
  v35 := Tryz.zeroValue233
  t36 := Tryz.underlying234
  a36 := Tryz.isAgg234
  z36 := Tryz.sizeOf234
  v36 := Tryz.zeroValue234
  t41 := Tryz.underlying150
  a41 := Tryz.isAgg150
  z41 := Tryz.sizeOf150
  v41 := Tryz.zeroValue150
  t44 := Tryz.underlying241
  a44 := Tryz.isAgg241
  z44 := Tryz.sizeOf241
  v44 := Tryz.zeroValue241
  t46 := Tryz.underlying243
  a46 := Tryz.isAgg243
  z46 := Tryz.sizeOf243
  v46 := Tryz.zeroValue243
  t53 := Tryz.underlying244
  a53 := Tryz.isAgg244
  z53 := Tryz.sizeOf244
  v53 := Tryz.zeroValue244
  t57 := Tryz.underlying248
  a57 := Tryz.isAgg248
  z57 := Tryz.sizeOf248
  v57 := Tryz.zeroValue248
  t63 := Tryz.underlying250
  a63 := Tryz.isAgg250
  z63 := Tryz.sizeOf250
  v63 := Tryz.zeroValue250
  t64 := Tryz.underlying251
  a64 := Tryz.isAgg251
  z64 := Tryz.sizeOf251
  v64 := Tryz.zeroValue251 }
end Go.Proofs.YtggkonpboahdeaaGreatDoor

namespace Go.Proofs.YtggkonpboahdeaaGreatDoor
open Go.RowKit Go.Maps
set_option linter.unusedVariables false

/-- How a value of the book is read: as itself. -/
abbrev RV (v : Value) : Option (DataW Value × List MemPlace) := some (.held v, [])
def keyB (s : ByteArray) : Lit := .string s.data.toList
def ent (q : Ac × Value) : Lit × DataW Value := (keyB q.1.1, .held (acV q.1 q.2))
/-- The book of the accounts Z. -/
def bookD (Z : List (Ac × Value)) : DataW Value := .map (Z.map ent)
theorem bytesBefore_eq : ∀ x y : List UInt8, bytesBefore x y = Op.bytesLess x y
  | [], [] => rfl
  | [], _ :: _ => rfl
  | _ :: _, [] => rfl
  | a :: x, b :: y => by unfold bytesBefore Op.bytesLess; rw [bytesBefore_eq x y]
theorem key_before (s t : ByteArray) : (keyB s).before (keyB t) = Op.bytesLess s.toList t.toList := by
  show bytesBefore s.data.toList t.data.toList = _
  rw [bytesBefore_eq, ByteArray.toList_eq, ByteArray.toList_eq]
theorem key_same {s t : ByteArray} (h : s = t) : (keyB s).sameKey (keyB t) = true := by subst h; simp [keyB, Lit.sameKey]
theorem key_not {s t : ByteArray} (h : s ≠ t) : (keyB s).sameKey (keyB t) = false := by
  simp only [keyB, Lit.sameKey, beq_eq_false_iff_ne]
  intro e
  exact h (ByteArray.ext (Array.toList_inj.1 e))
theorem filt_all (s : ByteArray) (t : List (Ac × Value)) (h : ∀ x ∈ t, x.1.1 ≠ s) : (t.map ent).filter (fun p => !p.1.sameKey (keyB s)) = t.map ent := by
  rw [List.filter_eq_self]
  intro p hp
  obtain ⟨x, hx, rfl⟩ := List.mem_map.1 hp
  show (!(keyB x.1.1).sameKey (keyB s)) = true
  rw [key_not (h x hx)]
  rfl
theorem insert_book (q : Ac × Value) : ∀ Z : List (Ac × Value), Asc Z → DataW.insert (ent q) ((Z.map ent).filter (fun p => !p.1.sameKey (keyB q.1.1))) = (insZ q Z).map ent
  | [], _ => rfl
  | x :: t, h => by
    obtain ⟨h1, h2⟩ := List.pairwise_cons.1 h
    by_cases hl : Lt x.1.1 q.1.1
    · have hne : x.1.1 ≠ q.1.1 := fun e => by rw [e] at hl; exact lt_no _ hl
      rw [insZ_lt hl, List.map_cons, List.filter_cons_of_pos (by show (!(keyB x.1.1).sameKey (keyB q.1.1)) = true; rw [key_not hne]; rfl), DataW.insert, if_neg, insert_book q t h2]
      · rfl
      · show ¬ (keyB q.1.1).before (keyB x.1.1) = true
        rw [key_before]; exact lt_as hl
    · by_cases he : x.1.1 = q.1.1
      · have hab : ∀ y ∈ t, Lt q.1.1 y.1.1 := fun y hy => by rw [← he]; exact h1 y hy
        rw [insZ_eq he, List.map_cons, List.filter_cons_of_neg (by show ¬ (!(keyB x.1.1).sameKey (keyB q.1.1)) = true; rw [key_same he]; simp), filt_all q.1.1 t (fun y hy e => by have := hab y hy; rw [e] at this; exact lt_no _ this)]
        cases t with
        | nil => rfl
        | cons y t =>
          rw [List.map_cons, DataW.insert, if_pos]
          · rfl
          · show (keyB q.1.1).before (keyB y.1.1) = true
            rw [key_before]; exact hab y List.mem_cons_self
      · have hlt := lt_or hl he
        have hab : ∀ y ∈ x :: t, y.1.1 ≠ q.1.1 := fun y hy e => by
          rcases List.mem_cons.1 hy with rfl | hy
          · exact he e
          · have := lt_tr hlt (h1 y hy); rw [e] at this; exact lt_no _ this
        rw [insZ_gt hlt, filt_all q.1.1 _ hab, List.map_cons, DataW.insert, if_pos]
        · rfl
        · show (keyB q.1.1).before (keyB x.1.1) = true
          rw [key_before]; exact hlt
theorem put_book (Z : List (Ac × Value)) (ha : Asc Z) (q : Ac × Value) : (bookD Z).put (keyB q.1.1) (.held (acV q.1 q.2)) = bookD (insZ q Z) := by
  show DataW.map _ = DataW.map _
  exact congrArg _ (insert_book q Z ha)
theorem at_book (s : ByteArray) (z : DataW Value) : ∀ Z : List (Ac × Value), (bookD Z).atKey (keyB s) z = match getZ s Z with
    | some q => .held (acV q.1 q.2)
    | none => z
  | [] => rfl
  | x :: t => by
    have ih := at_book s z t
    unfold bookD DataW.atKey at ih ⊢
    unfold getZ
    simp only [List.map_cons, List.find?_cons]
    by_cases he : x.1.1 = s
    · rw [if_pos he, show (ent x).1.sameKey (keyB s) = true from key_same he]
      rfl
    · rw [if_neg he, show (ent x).1.sameKey (keyB s) = false from key_not he]
      exact ih
theorem has_book (s : ByteArray) : ∀ Z : List (Ac × Value), Maps.has (bookD Z) (keyB s) = (getZ s Z).isSome
  | [] => rfl
  | x :: t => by
    have ih := has_book s t
    unfold bookD at ih ⊢
    rw [Maps.has_eq] at ih ⊢
    unfold getZ
    simp only [List.map_cons, List.any_cons]
    by_cases he : x.1.1 = s
    · rw [if_pos he, show (ent x).1.sameKey (keyB s) = true from key_same he]
      rfl
    · rw [if_neg he, show (ent x).1.sameKey (keyB s) = false from key_not he, Bool.false_or]
      exact ih
theorem filt_insert (k : Lit) (d : DataW Value) (hk : k.sameKey k = true) : ∀ es : List (Lit × DataW Value), (DataW.insert (k, d) es).filter (fun p => !p.1.sameKey k) = es.filter (fun p => !p.1.sameKey k)
  | [] => by simp [DataW.insert, hk]
  | y :: r => by
    unfold DataW.insert
    split
    · rw [List.filter_cons_of_neg (by simp [hk])]
    · rw [List.filter_cons, List.filter_cons, filt_insert k d hk r]
theorem del_put (Z : List (Ac × Value)) (s : ByteArray) (d : DataW Value) (h : getZ s Z = none) : ((bookD Z).put (keyB s) d).del (keyB s) = bookD Z := by
  show DataW.map ((DataW.insert (keyB s, d) ((Z.map ent).filter (fun p => !p.1.sameKey (keyB s)))).filter (fun p => !p.1.sameKey (keyB s))) = DataW.map (Z.map ent)
  rw [filt_insert _ _ (key_same rfl), filt_all s Z (getZ_none h), filt_all s Z (getZ_none h)]
theorem size_book (Z : List (Ac × Value)) : Maps.size (bookD Z) = Z.length := by simp [bookD, Maps.size]
theorem keys_book (Z : List (Ac × Value)) : strKeys (bookD Z) = Z.map (fun q => q.1.1.data.toList) := by
  simp only [bookD, strKeys, List.map_map]
  rfl
/-- The names in order. -/
theorem sorted_book (Z : List (Ac × Value)) (ha : Asc Z) {ss : List (List UInt8)} (h : ss.Perm (strKeys (bookD Z))) : ss.mergeSort (fun x y => decide (x ≤ y)) = Z.map (fun q => q.1.1.data.toList) := by
  rw [show ss.mergeSort (fun x y => decide (x ≤ y)) = (strKeys (bookD Z)).mergeSort leB from mergeSort_of_perm h, keys_book]
  refine List.mergeSort_of_pairwise ?_
  rw [List.pairwise_map]
  refine List.Pairwise.imp ?_ ha
  intro a b hab
  rw [lt_iff, ByteArray.toList_eq, ByteArray.toList_eq] at hab
  simp only [leB, decide_eq_true_eq]
  exact List.le_of_lt hab
theorem get_at : ∀ {Z : List (Ac × Value)}, Asc Z → ∀ k (h : k < Z.length), getZ Z[k].1.1 Z = some Z[k]
  | [], _, k, h => by simp at h
  | x :: t, ha, 0, h => by simp [getZ]
  | x :: t, ha, k + 1, h => by
    obtain ⟨h1, h2⟩ := List.pairwise_cons.1 ha
    have hk : k < t.length := by simpa using h
    have hlt := h1 t[k] (List.getElem_mem hk)
    simp only [List.getElem_cons_succ]
    unfold getZ
    rw [if_neg (fun e => by rw [e] at hlt; exact lt_no _ hlt)]
    exact get_at h2 k hk

theorem key_law : Keyed Tryz.prog 9 := string_keyed Tryz.underlying9
theorem zeroAc (w : World) : (zeroValue 91).run Tryz.prog w = .ok (acV (ByteArray.empty, 0, 0, 0, []) (.slice none 0 0)) w := by kernel_rfl
theorem key_of (s : ByteArray) (h : s.size ≤ maxLen) : keyOf Tryz.prog 9 (.string s) = some (keyB s) := Go.WideMaps.keyOf_string_mk Tryz.underlying9 h

/-- What a look-up in the book gives. -/
def lookB (s : ByteArray) (Z : List (Ac × Value)) : Value := match getZ s Z with
  | some q => acV q.1 q.2
  | none => acV (ByteArray.empty, 0, 0, 0, []) (.slice none 0 0)
theorem run_look (c : Bool) {w : World} {b n : Nat} {Z : List (Ac × Value)} (hown : w.ownsMap Tryz.prog 9 RV b n (bookD Z)) (s : ByteArray) (hs : s.size ≤ maxLen) :
    (Instr.lookup 218 (.map (some b)) (.string s) c).run Tryz.prog w = .ok (if c then .tuple #[lookB s Z, .bool (getZ s Z).isSome] else lookB s Z) w := by
  obtain ⟨es, clock, hb, F, hsz, hD⟩ := hown
  have hat := fun z => at_book s z Z
  rw [hD] at hat
  rcases Maps.fit_look (R := RV) c key_law Tryz.underlying218 (zeroAc w) hb F (key_of s hs) with ⟨hrun, _, h⟩ | ⟨e0, y, _, _, hrun, hRv, h, _⟩
  · cases hg : getZ s Z with
    | none => rw [hrun]; simp [lookB, hg]
    | some q =>
      have h1 := hat (.held (.bool true))
      have h2 := hat (.held (.bool false))
      rw [h, hg] at h1 h2
      simp at h1 h2
      rw [← h1] at h2
      simp at h2
  · have h1 := hat (.held (.bool true))
    have h2 := hat (.held (.bool false))
    rw [h] at h1 h2
    cases hg : getZ s Z with
    | none =>
      rw [hg] at h1 h2
      simp only at h1 h2
      rw [h1] at h2
      simp at h2
    | some q =>
      rw [hg] at h1
      simp only at h1
      have hv : y = (.held e0.val, []) := by simpa [RV] using hRv.symm
      rw [hv] at h1
      simp at h1
      rw [hrun, h1]
      simp [lookB, hg]
theorem step_look {ops : Array Oper} {rest : List Oper} {o : Oper} {a : Act} {Q : Exit → Act → World → Prop} (w : World) (hg : o.guard = none) (m x : Operand) (c : Bool) (hop : o.op = Op.lookup 218 m x c)
    (b n : Nat) (Z : List (Ac × Value)) (s : ByteArray) (hm : a.eval m = .map (some b)) (hx : a.eval x = .string s) (hown : w.ownsMap Tryz.prog 9 RV b n (bookD Z)) (hs : s.size ≤ maxLen)
    (hK : wpList Tryz.prog ops Q rest (a.put o.dst (if c then .tuple #[lookB s Z, .bool (getZ s Z).isSome] else lookB s Z)) w) : wpList Tryz.prog ops Q (o :: rest) a w := by
  refine wpList_plain hg fun K' hK' => ?_
  have hrun := run_look c hown s hs
  unfold Oper.wp
  simp [execOp, hop, hm, hx, hrun, Result.andThen]
  exact hK' _ _ (by simpa using hK)
theorem book_below {B : Nat} {w w' : World} {b n : Nat} {D : DataW Value} (h : w.ownsMap Tryz.prog 9 RV b n D) (hb : Below B w w') (hB : b < B) : w'.ownsMap Tryz.prog 9 RV b n D := by
  obtain ⟨es, clock, hm, r⟩ := h
  exact ⟨es, clock, (hb.block b hB).trans hm, r⟩
end Go.Proofs.YtggkonpboahdeaaGreatDoor
