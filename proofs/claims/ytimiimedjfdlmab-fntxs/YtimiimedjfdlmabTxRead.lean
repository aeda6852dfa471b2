/- The landed code's reader: one part behind the other. -/
import Derived.Test.YtimiimedjfdlmabTxGet
namespace Go.Proofs.Ytimiimedjfdlmab
open Go.RowKit
set_option linter.unusedVariables false

theorem Blk.kept {W W' : World} {row : Option Nat} {B : Nat} {t : TypeId} {cs : List Value} (h : Blk W B t cs) (hg : W.grownBy W' row) (hne : some B ≠ row) : Blk W' B t cs := (hg.block B h.lt hne).trans h
theorem grown_two5 (w : World) (d g : Nat) (a b : Value) : w.grownBy (((w.drewN d).setCell ⟨g, 1, none⟩ a).setCell ⟨g, 2, none⟩ b) (some g) :=
  ⟨rfl, rfl, rfl, by simp, fun k _ hk => by
    have hne : k ≠ g := fun e => hk (by simp [e])
    rw [heap_setCell_other _ ⟨g, 2, none⟩ k _ hne, heap_setCell_other _ ⟨g, 1, none⟩ k _ hne]
    rfl⟩
theorem below_drewN5 (w : World) (d : Nat) : Below w.heap.size w (w.drewN d) := ⟨rfl, rfl, rfl, Nat.le_refl _, fun _ _ => rfl⟩
theorem blk_two5 {W : World} {B : Nat} {t : TypeId} {a0 a1 a2 : Value} (h : Blk W B t [a0, a1, a2]) (y1 y2 : Value) : Blk ((W.setCell ⟨B, 1, none⟩ y1).setCell ⟨B, 2, none⟩ y2) B t [a0, y1, y2] := by
  have e1 : Blk (W.setCell ⟨B, 1, none⟩ y1) B t [a0, y1, a2] := heap_setCell_same W B 1 #[a0, a1, a2] t y1 h
  exact heap_setCell_same _ B 2 #[a0, y1, a2] t y2 e1
/-- A reader at block B: the bytes v, the place p, whether all was there. -/
def Rdr (W : World) (B : Nat) (v : Value) (p : Int) (ok : Bool) : Prop := Blk W B 77 [v, .int .i64 p, .bool ok]

set_option maxRecDepth 20000 in
theorem readerAt_any (v : Value) (n c : Nat) (a : Option Addr) (p : Int) (w : World) (hv : v = .slice a n c) :
    Calls Try.prog 49 #[v, .int .i64 p] w fun e w' => e = .returned (.agg #[v, .int .i64 p, .bool true]) ∧ Below w.heap.size w w' := by
  subst hv
  go_enter Try.func49, Try.ntmps49
  go_wp2
  refine bodyPost_ret (v := .agg #[.slice a n c, .int .i64 p, .bool true]) (by simp [results, Try.f49, go_sem]) rfl ?_
  exact ⟨rfl, (Below.refl _ w).alloc (Nat.le_refl _) _⟩
set_option maxRecDepth 20000 in
set_option maxHeartbeats 1000000 in
theorem readNum_any (v : Value) (l : List UInt8) (p : Int) (ok : Bool) (B : Nat) (W : World) (hr : RdB W v l) (hk : Rdr W B v p ok) (hl : l.length ≤ 4000000) (hp1 : -9223372036854775808 ≤ p) (hp2 : p ≤ 9223372036854775807) :
    Calls Try.prog 50 #[.pointer (some ⟨B, 0, none⟩)] W fun e W' => e = .returned (.int .i64 (if ok = true then (getN l p).1 else 0)) ∧ Rdr W' B v (if ok = true then (getN l p).2.1 else p) (ok && (getN l p).2.2) ∧ W.grownBy W' (some B) := by
  have C := hide (fun W' h => implGetNum_any v l p W' h hl hp1 hp2)
  obtain ⟨n, x, o, h1⟩ : ∃ n x o, getN l p = (n, x, o) := ⟨_, _, _, rfl⟩
  rw [h1] at C ⊢
  simp only [tri] at C ⊢
  obtain ⟨a, cap, rfl⟩ := hr.shape
  have c0 := hk.cell 0
  have c1 := hk.cell 1
  have c2 := hk.cell 2
  simp only [List.getElem?_cons_zero, List.getElem?_cons_succ] at c0 c1 c2
  have f1 := hk.frozen 1
  have f2 := hk.frozen 2
  have HK := hide hk
  clear h1 hk
  cases ok
  · rw [if_neg (by simp), if_neg (by simp), Bool.false_and]
    clear C f1 f2 c1
    go_enter Try.func50, Try.ntmps50
    go_wp2
    go_ret
    exact ⟨rfl, HK.out, World.grownBy.refl _ _⟩
  · rw [if_pos rfl, if_pos rfl, Bool.true_and]
    have HC : Hid (∀ d : Nat, Calls Try.prog 67 #[.slice a l.length cap, .int .i64 p] (W.drewN d) fun e w' => e = .returned (.tuple #[.int .i64 n, .int .i64 x, .bool o]) ∧ w' = W.drewN d) := hide (fun d => C.out _ (hr.below (below_drewN5 W d) (Nat.le_refl _)))
    clear C hr
    go_enter Try.func50, Try.ntmps50
    go_wp2
    go_quiet ((go_at_call 67; exact Calls.quiet_of_same (HC.out _)))
    go_wp2
    go_ret
    exact ⟨rfl, blk_two5 HK.out _ _, grown_two5 _ _ _ _ _⟩
set_option maxRecDepth 20000 in
set_option maxHeartbeats 1000000 in
theorem readText_any (v : Value) (l : List UInt8) (p : Int) (ok : Bool) (B : Nat) (W : World) (hr : RdB W v l) (hk : Rdr W B v p ok) (hl : l.length ≤ 4000000) (hp1 : -9223372036854775808 ≤ p) (hp2 : p ≤ 9223372036854775807) :
    Calls Try.prog 51 #[.pointer (some ⟨B, 0, none⟩)] W fun e W' => e = .returned (.string ⟨(if ok = true then (getT l p).1 else []).toArray⟩) ∧ Rdr W' B v (if ok = true then (getT l p).2.1 else p) (ok && (getT l p).2.2) ∧ W.grownBy W' (some B) := by
  have C := hide (fun W' h => implGetText_any v l p W' h hl hp1 hp2)
  obtain ⟨n, x, o, h1⟩ : ∃ n x o, getT l p = (n, x, o) := ⟨_, _, _, rfl⟩
  rw [h1] at C ⊢
  simp only [trs] at C ⊢
  obtain ⟨a, cap, rfl⟩ := hr.shape
  have c0 := hk.cell 0
  have c1 := hk.cell 1
  have c2 := hk.cell 2
  simp only [List.getElem?_cons_zero, List.getElem?_cons_succ] at c0 c1 c2
  have f1 := hk.frozen 1
  have f2 := hk.frozen 2
  have HK := hide hk
  clear h1 hk
  cases ok
  · rw [if_neg (by simp), if_neg (by simp), Bool.false_and]
    clear C f1 f2 c1
    go_enter Try.func51, Try.ntmps51
    go_wp2
    go_ret
    exact ⟨rfl, HK.out, World.grownBy.refl _ _⟩
  · rw [if_pos rfl, if_pos rfl, Bool.true_and]
    have HC : Hid (∀ d : Nat, Calls Try.prog 68 #[.slice a l.length cap, .int .i64 p] (W.drewN d) fun e w' => e = .returned (.tuple #[.string ⟨n.toArray⟩, .int .i64 x, .bool o]) ∧ w' = W.drewN d) := hide (fun d => C.out _ (hr.below (below_drewN5 W d) (Nat.le_refl _)))
    clear C hr
    go_enter Try.func51, Try.ntmps51
    go_wp2
    go_quiet ((go_at_call 68; exact Calls.quiet_of_same (HC.out _)))
    go_wp2
    go_ret
    exact ⟨rfl, blk_two5 HK.out _ _, grown_two5 _ _ _ _ _⟩
end Go.Proofs.Ytimiimedjfdlmab
