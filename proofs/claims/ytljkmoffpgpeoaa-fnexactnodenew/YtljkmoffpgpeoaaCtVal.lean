/- A certificate of leavings by value: made, held against another, its size; the greatest High. -/
import Derived.Test.YtljkmoffpgpeoaaInts
import Derived.Test.YtljkmoffpgpeoaaFlat
namespace Go.Proofs.Ytljkmoffpgpeoaa
open Go.RowKit
set_option linter.unusedVariables false

/-- Its value: its round, its names being vw, its Highs vh. -/
def tcV (r : Int) (vw vh : Value) : Value := .agg #[.int .i64 r, vw, vh]
theorem OwnS.olderC {base : Nat} {w : World} {v : Value} {l : List ByteArray} (h : OwnS base w v l) {g : Nat} (hg : g < base) (j : Nat) (u : Value) : OwnS base (w.setCell ⟨g, j, none⟩ u) v l :=
  row_set h g j u (fun k hk => by have := h.ge k hk; omega)
theorem OwnI.olderC {base : Nat} {w : World} {v : Value} {l : List Int} (h : OwnI base w v l) {g : Nat} (hg : g < base) (j : Nat) (u : Value) : OwnI base (w.setCell ⟨g, j, none⟩ u) v l :=
  row_set h g j u (fun k hk => by have := h.ge k hk; omega)
theorem Blk.setC {W : World} {B : Nat} {t : TypeId} {cs : List Value} (h : Blk W B t cs) (j : Nat) (u : Value) : Blk (W.setCell ⟨B, j, none⟩ u) B t (cs.set j u) := by
  have e := heap_setCell_same W B j cs.toArray t u h
  simpa [Blk] using e
theorem Blk.otherC {W : World} {B : Nat} {t : TypeId} {cs : List Value} (h : Blk W B t cs) (g j : Nat) (u : Value) (hne : B ≠ g) : Blk (W.setCell ⟨g, j, none⟩ u) B t cs := (heap_setCell_other W ⟨g, j, none⟩ B u hne).trans h
set_option maxRecDepth 20000 in
set_option maxHeartbeats 1000000 in
theorem eqTc_any (r : Int) (vw1 vh1 vw2 vh2 : Value) (ws : List ByteArray) (hs : List Int) (w : World) (h1 : RdS w vw1 ws) (h2 : RdI w vh1 hs) (h3 : RdS w vw2 ws) (h4 : RdI w vh2 hs) (hlw : ws.length ≤ 4000000) (hlh : hs.length ≤ 4000000) :
    Calls Try.prog 27 #[tcV r vw1 vh1, tcV r vw2 vh2] w fun en w' => en = .returned (.bool true) ∧ Below w.heap.size w w' := by
  obtain ⟨a1, c1, rfl⟩ := h1.shape
  obtain ⟨a2, c2, rfl⟩ := h2.shape
  obtain ⟨a3, c3, rfl⟩ := h3.shape
  obtain ⟨a4, c4, rfl⟩ := h4.shape
  simp only [tcV] at *
  obtain ⟨w2, hw2⟩ : ∃ w2, (w.alloc (.cells #[.int .i64 r, .slice a1 ws.length c1, .slice a2 hs.length c2] 36)).alloc (.cells #[.int .i64 r, .slice a3 ws.length c3, .slice a4 hs.length c4] 36) = w2 := ⟨_, rfl⟩
  have hb2 : Below w.heap.size w w2 := by rw [← hw2]; exact ((Below.refl _ w).alloc (Nat.le_refl _) _).alloc (by simp) _
  have kA : Blk w2 w.heap.size 36 [.int .i64 r, .slice a1 ws.length c1, .slice a2 hs.length c2] := by
    rw [← hw2]
    exact (Blk.new w 36 [.int .i64 r, .slice a1 ws.length c1, .slice a2 hs.length c2]).below ((Below.refl (w.heap.size + 1) _).alloc (by simp) _) (by omega)
  have kB : Blk w2 (w.heap.size + 1) 36 [.int .i64 r, .slice a3 ws.length c3, .slice a4 hs.length c4] := by
    rw [← hw2]
    have h := Blk.new (w.alloc (.cells #[.int .i64 r, .slice a1 ws.length c1, .slice a2 hs.length c2] 36)) 36 [.int .i64 r, .slice a3 ws.length c3, .slice a4 hs.length c4]
    simp only [World.size_alloc] at h
    exact h
  have HE := hide (eqStringS_any _ _ ws ws w2 (h1.below hb2 (Nat.le_refl _)) (h3.below hb2 (Nat.le_refl _)) hlw hlw)
  rw [decide_eq_true rfl] at HE
  have HF := hide (fun V (hb : Below w.heap.size w V) => eqIntS_any (.slice a2 hs.length c2) (.slice a4 hs.length c4) hs hs V (h2.below hb (Nat.le_refl _)) (h4.below hb (Nat.le_refl _)) hlh hlh)
  rw [decide_eq_true rfl] at HF
  have x0 := kA.cell 0
  have x1 := kA.cell 1
  have x2 := kA.cell 2
  have y0 := kB.cell 0
  have y1 := kB.cell 1
  have y2 := kB.cell 2
  simp only [List.getElem?_cons_zero, List.getElem?_cons_succ] at x0 x1 x2 y0 y1 y2
  clear h1 h2 h3 h4
  go_enter Try.func27, Try.ntmps27
  go_wp2_with fail
  refine HE.out.mono ?_
  rintro en w3 ⟨rfl, hb3⟩
  have kA3 := kA.below (hb3 w2.heap.size) kA.lt
  have kB3 := kB.below (hb3 w2.heap.size) kB.lt
  have hB3 := hb2.trans (hb3 w.heap.size)
  have u2 := kA3.cell 2
  have z2 := kB3.cell 2
  simp only [List.getElem?_cons_zero, List.getElem?_cons_succ] at u2 z2
  clear x0 x1 x2 y0 y1 y2 kA kB kA3 kB3 hb3
  go_wp2_with fail
  refine (HF.out _ hB3).mono ?_
  rintro en w4 ⟨rfl, hb4⟩
  have hB4 := hB3.trans (hb4 w.heap.size)
  go_wp2
  go_ret
  exact ⟨rfl, hB4⟩
/-- The greatest of the numbers; 0. -/
def highI (hs : List Int) : Int := hs.foldl (fun n x => if n < x then x else n) 0
theorem high_snoc (hs : List Int) (k : Nat) (h : k < hs.length) : (hs.take (k + 1)).foldl (fun (n x : Int) => if n < x then x else n) 0 = (if (hs.take k).foldl (fun (n x : Int) => if n < x then x else n) 0 < hs[k] then hs[k] else (hs.take k).foldl (fun (n x : Int) => if n < x then x else n) 0) := by
  rw [List.take_succ_eq_append_getElem h, List.foldl_append]; rfl
end Go.Proofs.Ytljkmoffpgpeoaa
