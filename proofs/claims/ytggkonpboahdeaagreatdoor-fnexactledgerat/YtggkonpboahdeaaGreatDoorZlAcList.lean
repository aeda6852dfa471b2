/- The names of the book, in order: maps.Keys and slices.Sorted at this seat, by the library's contracts. The book's accounts, in the order of their names: the landed code's listed. -/
import Derived.Test.YtggkonpboahdeaaGreatDoorZlAcBook
namespace Go.Proofs.YtggkonpboahdeaaGreatDoor
open Go.RowKit Go.Maps Go.Sort Go.Shelf
set_option linter.unusedVariables false

theorem sorts_at (m : Nat) : AnyZ.SortsIn Tryz.prog Tryz.sortedL_ren Fence.wide m :=
  ⟨fun blk off cap ss W hH hblk hsz => callsIn_wide.2 (AnyM.slices_Sort_string Tryz.sortL blk off cap ss W hH hblk hsz),
   fun p cap W => callsIn_wide.2 (AnyM.slices_Sort_string_none Tryz.sortL p cap W)⟩
theorem keys_any (mb : Option Nat) (W : World) : Calls Tryz.prog 145 #[.map mb] W fun e w' => e = .returned (.func (.func 148) #[] #[.pointer (some ⟨W.heap.size, 0, none⟩)]) ∧ w' = W.alloc (.cells #[.map mb] 218) :=
  (callsIn_wide (n := 5)).1 (AnyZ.keys_in Tryz.keysL Fence.wide 5 trivial rfl mb W)
set_option maxHeartbeats 1000000 in
theorem sorted_any {H : Type} (b nn : Nat) (D0 : DataW H) (R : Value → Option (DataW H × List MemPlace)) (w : World) (hown : w.ownsMap Tryz.prog 9 R b nn D0) (hmax : Maps.size D0 ≤ maxLen) (hbytes : Maps.size D0 * 16 ≤ 140737488355328) :
    Calls Tryz.prog 144 #[.func (.func 148) #[] #[.pointer (some ⟨w.heap.size, 0, none⟩)]] (w.alloc (.cells #[.map (some b)] 218)) fun e w' => ∃ (v : Value) (ss : List (List UInt8)), e = .returned v ∧ ss.Perm (strKeys D0) ∧
      w'.ownsRow (w.alloc (.cells #[.map (some b)] 218)).heap.size 9 1 v ss.length ((ss.mergeSort (fun x y => decide (x ≤ y))).map encStr) ∧ (v = .slice none 0 0 ↔ ss = []) ∧ Below (w.alloc (.cells #[.map (some b)] 218)).heap.size (w.alloc (.cells #[.map (some b)] 218)) w' := by
  have hbl := hown.lt
  have hseq : SeqGives Fence.wide 2 Tryz.prog 148 #[.pointer (some ⟨w.heap.size, 0, none⟩)] encStr (fun ss => ss.Perm (strKeys D0)) (Maps.size D0) (w.alloc (.cells #[.map (some b)] 218)) :=
    AnyZ.keys_gives (ρ := Tryz.keysL_ren) { Tryz.keysL with } Fence.wide _ trivial rfl (by omega) w.heap.size b nn D0 _ (by simp) (by simp) (by
      obtain ⟨es, clock, hb, Ft, hs, hD⟩ := hown
      exact ⟨es, clock, (Below.heap_alloc _ _ b hbl).trans hb, Ft, hs, hD⟩)
  exact (callsIn_wide (n := 5)).1 (AnyZ.sorted_in Tryz.sortedL Fence.wide 5 trivial trivial trivial trivial rfl (by omega) (sorts_at _) (enters_of Tryz.func147 (by kernel_rfl) rfl) 148 #[.pointer (some ⟨w.heap.size, 0, none⟩)] trivial (enters_of Tryz.func148 (by kernel_rfl) rfl) _ _ hmax hbytes _ hseq)

/-- What maps.Keys hands back, sorted: the names in order, in memory of the call's own. -/
theorem names_any (b n : Nat) (Z : List (Ac × Value)) (w : World) (hown : w.ownsMap Tryz.prog 9 RV b n (bookD Z)) (ha : Asc Z) (hl : Z.length ≤ 4000000) :
    Calls Tryz.prog 144 #[.func (.func 148) #[] #[.pointer (some ⟨w.heap.size, 0, none⟩)]] (w.alloc (.cells #[.map (some b)] 218)) fun e w' => ∃ (v : Value), e = .returned v ∧
      w'.ownsRow (w.heap.size + 1) 9 1 v Z.length (Z.map (fun q => Value.string q.1.1)) ∧ Below (w.heap.size + 1) (w.alloc (.cells #[.map (some b)] 218)) w' := by
  refine (sorted_any b n (bookD Z) RV w hown (by rw [size_book]; unfold maxLen; omega) (by rw [size_book]; omega)).mono ?_
  rintro e w' ⟨v, ss, rfl, hp, hrow, -, hb⟩
  have hlen : ss.length = Z.length := by rw [hp.length_eq, keys_book]; simp
  rw [sorted_book Z ha hp, hlen, List.map_map] at hrow
  rw [World.size_alloc] at hrow hb
  refine ⟨v, rfl, ?_, hb⟩
  have e : (Z.map (encStr ∘ fun q => q.1.1.data.toList)) = Z.map (fun q => Value.string q.1.1) := by
    apply List.map_congr_left
    intro q _
    simp [encStr]
  rw [e] at hrow
  exact hrow
end Go.Proofs.YtggkonpboahdeaaGreatDoor

namespace Go.Proofs.YtggkonpboahdeaaGreatDoor
open Go.RowKit Go.Maps
set_option linter.unusedVariables false

theorem step_len {ops : Array Oper} {rest : List Oper} {o : Oper} {a : Act} {Q : Exit → Act → World → Prop} (w : World) (hg : o.guard = none) (m : Operand) (hop : o.op = Op.call { callee := Callee.builtin Builtin.len, args := #[m], argTypes := #[218] })
    (b n : Nat) (Z : List (Ac × Value)) (hm : a.eval m = .map (some b)) (hown : w.ownsMap Tryz.prog 9 RV b n (bookD Z))
    (hK : wpList Tryz.prog ops Q rest (a.put o.dst (.int .i64 (Z.length : Int))) w) : wpList Tryz.prog ops Q (o :: rest) a w := by
  refine wpList_len_own w hg m 218 hop 9 91 Tryz.underlying218 RV b n (bookD Z) hm hown ?_
  rw [size_book]
  exact hK

set_option maxRecDepth 20000 in
set_option maxHeartbeats 1000000 in
theorem listed_any (b n : Nat) (Z : List (Ac × Value)) (w : World) (hown : w.ownsMap Tryz.prog 9 RV b n (bookD Z)) (ha : Asc Z) (hl : Z.length ≤ 4000000) (hnm : ∀ q ∈ Z, q.1.1.size ≤ maxLen) (hsl : ∀ q ∈ Z, ∃ a m c, q.2 = .slice a m c) :
    Calls Tryz.prog 142 #[.map (some b)] w fun e w' => ∃ g cap, e = .returned (.slice (some ⟨g, 0, none⟩) Z.length cap) ∧ RowA w.heap.size w' (.slice (some ⟨g, 0, none⟩) Z.length cap) Z ∧ Below w.heap.size w w' := by
  obtain ⟨i0, hi, hz0, hz1, hz2⟩ := info_parts Tryz.infoAc
  have Ho := hide hown
  have hbl := hown.lt
  clear hown
  go_enter Tryz.func142, Tryz.ntmps142
  go_wp2_with (first
    | (at_len; refine step_len _ rfl _ rfl b n Z rfl Ho.out ?_)
    | (refine wpList_make_own _ rfl _ _ 28 rfl w.heap.size 91 i0 (.agg #[.string { data := #[] }, .int .i64 0, .int .i64 0, .int .i64 0, .slice none 0 0]) 5 Tryz.underlying28 hi hz0 hz1 .i64 .i64 _ Z.length rfl rfl rfl (by rw [hz2]; omega) (by unfold maxLen; omega) (Nat.le_refl _) ?_; intro w1 hrow1 hgr1; have hb1 : Below w.heap.size w w1 := (Below.refl _ _).grown hgr1 (Nat.le_refl _) (by intro k hk; cases hk); have Ho1 := hide (book_below Ho.out hb1 hbl))
    | (go_at_call 145; refine (keys_any _ _).mono ?_; rintro e w2 ⟨rfl, rfl⟩))
  refine (names_any b n Z w1 Ho1.out ha hl).mono ?_
  rintro e w3 ⟨v, rfl, hrow3, hb3⟩
  have hlt1 : w.heap.size < w1.heap.size := (World.ownsRow.lt hrow1 w.heap.size rfl).2
  have hb13 : Below w1.heap.size w1 w3 := ((Below.refl _ w1).alloc (Nat.le_refl _) _).trans (hb3.mono (by omega))
  have hB3 : Below w.heap.size w w3 := hb1.trans (hb13.mono hb1.size)
  have Hr3 : Hid (RowA w.heap.size w3 (.slice (some ⟨w.heap.size, 0, none⟩) 0 Z.length) []) := hide (row_below hrow1 hb13 (Nat.le_refl _))
  clear hrow1 hgr1 hb3 Ho1
  have Hrow := hide hrow3
  rcases hrow3.2 with ⟨rfl, hz⟩ | ⟨gv, cv, cur, rfl, hgv, hgc, h1, h2, h3, h4⟩
  · have e : Z = [] := List.length_eq_zero_iff.1 hz
    subst e
    clear hrow3
    go_wp2
    refine wp_loop_rounds 1 ?_
    rw [rounds_succ]
    go_wp2
    go_ret
    exact ⟨_, _, rfl, Hr3.out, hB3⟩
  · clear hrow3 hgc h4 h3
    go_wp2
    go_loopw [3, 13] (fun ov iv wr => ∃ (k g c : Nat), k ≤ Z.length ∧ iv = .int .i64 k ∧ ov = .slice (some ⟨g, 0, none⟩) k c ∧ RowA w.heap.size wr ov (Z.take k) ∧ wr.ownsRow (w1.heap.size + 1) 9 1 (.slice (some ⟨gv, 0, none⟩) Z.length cv) Z.length (Z.map (fun q => Value.string q.1.1)) ∧ gv ≠ g ∧ Below w.heap.size w wr) (fun _ iv _ => Z.length - (intOf iv).toNat)
    case atStart => exact ⟨0, _, _, Nat.zero_le _, rfl, rfl, Hr3.out, Hrow.out, by omega, hB3⟩
    case round =>
      obtain ⟨k, g, c, hk, rfl, rfl, ho, hns, hne, hb⟩ := hrel
      clear hB3 Hr3 Hrow hb13
      have hzl : (Z.take k).length = k := by simp; omega
      by_cases hlt : k < Z.length
      · have hc : wr.cell? ⟨gv, k, none⟩ = some (.string Z[k].1.1) := by
          have := hns.cellAt k (by omega)
          rw [this]
          simp [hlt]
        have hli : (k : Int) < (Z.length : Int) := by omega
        have hgl : g < wr.heap.size := ho.lt g rfl
        have hgw : w.heap.size ≤ g := ho.ge g rfl
        have hgvl : gv < wr.heap.size := (World.ownsRow.lt hns gv rfl).2
        have hws := hb.size
        have HoK := hide (book_below Ho.out hb hbl)
        have hsz := hnm Z[k] (List.getElem_mem _)
        have hlook : Hid (lookB Z[k].1.1 Z = acV Z[k].1 Z[k].2) := hide (by unfold lookB; rw [get_at ha k hlt])
        have Hnx : Hid (Z.take (k + 1) = Z.take k ++ [Z[k]]) := hide (List.take_succ_eq_append_getElem hlt)
        have hshape := hsl Z[k] (List.getElem_mem _)
        have Hro := hide ho
        have Hns := hide hns
        clear ho hns
        generalize Z[k] = q at hc hsz hlook Hnx hshape
        obtain ⟨⟨nm, fr, no, st, ls⟩, lv⟩ := q
        obtain ⟨a', m', c', hlv⟩ := hshape
        simp only at hlv hc hsz hlook
        subst hlv
        simp only [acV] at hlook
        go_wp2_with (first
          | (at_lookup; refine step_look _ rfl _ _ false rfl b n Z nm rfl rfl HoK.out hsz ?_; rw [hlook.out]; simp only [Bool.false_eq_true, if_false])
          | (at_builtin; refine app_ownA _ rfl _ _ rfl w.heap.size (.slice (some ⟨g, 0, none⟩) k c) _ (Z.take k) ((nm, fr, no, st, ls), .slice a' m' c') rfl rfl (World.ownsRow.alloc Hro.out _) (Blk.new' _ _ (acC ((nm, fr, no, st, ls), .slice a' m' c')) _ (by simp)) rfl (by simp; omega) (by simp; omega) ?_; intro v' w4 hrow4 hgr4 hnn4 hloc4; obtain ⟨g', c'', rfl⟩ := hrow4.shapeN hnn4 (k + 1) (by simp; omega)))
        go_roundw
        case rel =>
          refine ⟨k + 1, g', c'', by omega, by go_num, rfl, by rw [Hnx.out]; exact hrow4, World.ownsRow.kept (World.ownsRow.alloc Hns.out _) hgr4 (.inr (by simp [Value.ownBlock]; exact hne)), ?_, (hb.alloc hws _).grown hgr4 (by simp; omega) (fun j hj => by cases hj; exact hgw)⟩
          rcases hloc4 with h | h
          · have : g' = g := by simpa [Value.ownBlock] using h
            omega
          · have : g' = wr.heap.size + 1 := by simpa [Value.ownBlock] using h
            omega
        case measure => simp [intOf]; omega
      · have e : k = Z.length := by omega
        subst e
        rw [List.take_length] at ho
        go_wp2
        go_ret
        exact ⟨_, _, rfl, ho, hb⟩
end Go.Proofs.YtggkonpboahdeaaGreatDoor
