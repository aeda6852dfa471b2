/- Rows of elements of several cells: copied into, widened, put in at a place. -/
import Derived.Test.YtljkmoffpgpeoaaFlat
import Derived.Lib.AppendZerosOnto
import Derived.Lib.Overlaps
import Derived.Lib.SliceRun
import Derived.Laws.IdiomCopy
import Derived.Laws.NewBlocks
namespace Go.Proofs.Ytljkmoffpgpeoaa
open Go.RowKit
set_option linter.unusedVariables false

/-- copy of elements of 's' cells each: all is read before anything is written. -/
theorem run_copy_cellsN {P : Program} (w : World) (dT sT ty elem : TypeId) (s b o dLen dCap : Nat) (a : Addr) (sLen sCap : Nat) (cs : List Value)
    (hu : P.underlying dT = some (.slice elem)) (hs : (P.info? elem).map (·.size) = some s) (hn : cs.length = Nat.min sLen dLen * s)
    (hsrc : ∀ j v, cs[j]? = some v → w.cell? (a.add j) = some v) (hc : ∀ j, j < cs.length → (w.cell? ⟨b, o + j, none⟩).isSome = true) (hf : ∀ j, j < cs.length → w.frozen? ⟨b, o + j, none⟩ = false) (h1 : ∀ v ∈ cs, v.oneCell' = true) :
    (Builtin.copy_ #[dT, sT] ty #[.slice (some ⟨b, o, none⟩) dLen dCap, .slice (some a) sLen sCap]).run P w = .ok (goInt (Nat.min sLen dLen)) (w.setCells b o cs) := by
  have hl := run_loadCells_list (P := P) w a cs hsrc
  have hst := run_storeCells_cells (P := P) b o cs 0 w (by simpa using hc) (by simpa using hf) h1
  cases hq : P.info? elem with
  | none => simp [hq] at hs
  | some i =>
    have hi : i.size = s := by simpa [hq] using hs
    simp [Builtin.copy_, run_underlying hu, Builtin.lenOf, Builtin.firstCells, sizeOf, typeInfo, hq, hi, ← hn, hl, hst]
/-- A list with a stretch written over. -/
def ovL (Y : List Value) (o : Nat) (vs : List Value) : List Value := Y.take o ++ vs ++ Y.drop (o + vs.length)
theorem ovL_cons {Y : List Value} {o : Nat} {v : Value} {vs : List Value} (h : o < Y.length) : ovL (Y.set o v) (o + 1) vs = ovL Y o (v :: vs) := by
  unfold ovL
  have e : (Y.take o ++ [Y[o]]).set o v = Y.take o ++ [v] := by
    have hlen : (Y.take o).length = o := by rw [List.length_take]; omega
    rw [List.set_append, if_neg (by omega), hlen, Nat.sub_self]
    rfl
  rw [List.take_set, List.drop_set, if_pos (by omega), List.take_succ_eq_append_getElem h, e, List.length_cons, show o + 1 + vs.length = o + (vs.length + 1) by omega]
  simp
theorem ownsRow_setCells {base g n cap s : Nat} {e : TypeId} : ∀ (vs : List Value) (o : Nat) (w : World) (Y : List Value), w.ownsRow base e s (.slice (some ⟨g, 0, none⟩) n cap) n Y → o + vs.length ≤ Y.length → (w.setCells g o vs).ownsRow base e s (.slice (some ⟨g, 0, none⟩) n cap) n (ovL Y o vs)
  | [], o, w, Y, h, _ => by
    have : ovL Y o [] = Y := by unfold ovL; simp
    rw [this]; exact h
  | v :: vs, o, w, Y, h, hl => by
    rw [List.length_cons] at hl
    have h1 := (h.stored o v).1
    have h2 := ownsRow_setCells vs (o + 1) _ _ h1 (by rw [List.length_set]; omega)
    rw [ovL_cons (by omega)] at h2
    exact h2
/-- A row with room, seen with one element more. -/
theorem ownsRow_wider {base g n cap s : Nat} {e : TypeId} {w : World} {Y : List Value} (h : w.ownsRow base e s (.slice (some ⟨g, 0, none⟩) n cap) n Y) (hc : n + 1 ≤ cap) : ∃ Z, w.ownsRow base e s (.slice (some ⟨g, 0, none⟩) (n + 1) cap) (n + 1) Z ∧ Z.take (n * s) = Y ∧ Z.length = (n + 1) * s := by
  rcases h.2 with ⟨h0, _⟩ | ⟨g', cap', cur, hv, hb, hg, h1, h2, h3, h4⟩
  · cases h0
  cases hv
  have hm : (n + 1) * s ≤ cap * s := Nat.mul_le_mul_right s hc
  have hZ : (cur.toList.take ((n + 1) * s)).length = (n + 1) * s := by rw [List.length_take, Array.length_toList, h3]; omega
  refine ⟨cur.toList.take ((n + 1) * s), ⟨hZ, .inr ⟨g, cap, cur, rfl, hb, hg, hc, h2, h3, rfl⟩⟩, ?_, hZ⟩
  rw [List.take_take, ← h4]
  congr 1
  rw [Nat.add_mul]; omega
/-- What stood from a place on goes one element up, and the new one comes there. -/
theorem ov_ins {Z Y vs : List Value} {n i s : Nat} (hZ : Z.take (n * s) = Y) (hl : Z.length = (n + 1) * s) (hi : i ≤ n) (hv : vs.length = s) : ovL (ovL Z ((i + 1) * s) (Y.drop (i * s))) (i * s) vs = Y.take (i * s) ++ vs ++ Y.drop (i * s) := by
  have hm : i * s ≤ n * s := Nat.mul_le_mul_right s hi
  have e1 : (i + 1) * s = i * s + s := by rw [Nat.add_mul, Nat.one_mul]
  have e2 : (n + 1) * s = n * s + s := by rw [Nat.add_mul, Nat.one_mul]
  have hY : Y.length = n * s := by rw [← hZ, List.length_take, hl]; omega
  have hd : (Y.drop (i * s)).length = n * s - i * s := by rw [List.length_drop, hY]
  have ht : Z.take (i * s) = Y.take (i * s) := by rw [← hZ, List.take_take]; congr 1; omega
  have a1 : ovL Z ((i + 1) * s) (Y.drop (i * s)) = Z.take ((i + 1) * s) ++ Y.drop (i * s) := by
    unfold ovL
    have : Z.drop ((i + 1) * s + (Y.drop (i * s)).length) = [] := List.drop_eq_nil_of_le (by rw [hd]; omega)
    rw [this, List.append_nil]
  rw [a1]
  unfold ovL
  rw [hv, List.take_append_of_le_length (by rw [List.length_take]; omega), List.take_take, Nat.min_eq_left (by omega), ht, ← e1]
  congr 1
  rw [List.drop_append_of_le_length (by rw [List.length_take]; omega), List.drop_take, Nat.sub_self, List.take_zero, List.nil_append]
theorem setCells_size (b : Nat) : ∀ (vs : List Value) (o : Nat) (w : World), (w.setCells b o vs).heap.size = w.heap.size
  | [], _, _ => rfl
  | v :: vs, o, w => by
    show ((w.setCell ⟨b, o, none⟩ v).setCells b (o + 1) vs).heap.size = _
    rw [setCells_size b vs]
    have := (grown_set w b o v).size
    simp [World.setCell]
theorem grown_setCells (b : Nat) : ∀ (vs : List Value) (o : Nat) (w : World), w.grownBy (w.setCells b o vs) (some b)
  | [], _, w => World.grownBy.refl _ _
  | v :: vs, o, w => by
    have h1 := grown_set w b o v
    have h2 := grown_setCells b vs (o + 1) (w.setCell ⟨b, o, none⟩ v)
    exact ⟨h2.os.trans h1.os, h2.tape.trans h1.tape, h2.output.trans h1.output, Nat.le_trans h1.size h2.size, fun k hk hn => (h2.block k (Nat.lt_of_lt_of_le hk h1.size) hn).trans (h1.block k hk hn)⟩
/-- The operation 'copy(d, s)' for the walk, where its run is known by an equation. -/
theorem wpList_copy_runN {P : Program} (w : World) {ops : Array Oper} {rest : List Oper} {o : Oper} {a : Act} {Q : Exit → Act → World → Prop} (hgd : o.guard = none) (d s : Operand) (t t' : TypeId)
    (ho : o.op = .call { callee := .builtin .copy, args := #[d, s], argTypes := #[t, t'] }) (v u : Value) (hd : a.eval d = v) (hs : a.eval s = u) {v' : Value} {w' : World}
    (hr : (Builtin.copy_ #[t, t'] o.type #[v, u]).run P w = .ok v' w') (h : wpList P ops Q rest (a.put o.dst v') w') : wpList P ops Q (o :: rest) a w :=
  wpList_plain hgd fun _ hK => by
    unfold Oper.wp execOp
    simp only [ho, resolve, invoke, builtin, Sem.run_bind, Sem.run_pure, Result.andThen_ok, List.map_toArray, List.map_cons, List.map_nil, hd, hs, hr]
    exact hK _ _ h
theorem step_copy_runN {P : Program} {ops : Array Oper} {o : Oper} {a : Act} {w : World} {K : Act → World → Prop} {Q : Exit → Act → World → Prop} {E : Prop}
    (hg : o.guard = none) (d x : Operand) (dT sT : TypeId) (hop : o.op = Op.call { callee := Callee.builtin Builtin.copy, args := #[d, x], argTypes := #[dT, sT] })
    (v u : Value) (hd : a.eval d = v) (hx : a.eval x = u) {v' : Value} {w' : World} (hr : (Builtin.copy_ #[dT, sT] o.type #[v, u]).run P w = .ok v' w') (hK : K (a.put o.dst v') w') :
    if Region.wanted o (yielded ops a.tmps) = true then Oper.wp P o a w K Q else E := by
  have hw : Region.wanted o (yielded ops a.tmps) = true := by simp [Region.wanted, hg]
  rw [if_pos hw]
  unfold Oper.wp
  simp [execOp, hop, resolve, invoke, builtin, hd, hx, hr, Result.andThen]
  exact hK
end Go.Proofs.Ytljkmoffpgpeoaa
