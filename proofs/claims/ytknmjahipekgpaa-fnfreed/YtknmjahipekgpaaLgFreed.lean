/- The landed code's account in the next epoch. -/
import Derived.Test.YtknmjahipekgpaaLgNext
import Derived.Test.YtknmjahipekgpaaLgRow
import Derived.Test.YtknmjahipekgpaaLgImpl
import Derived.Test.YtknmjahipekgpaaLgLeave
namespace Go.Proofs.Ytknmjahipekgpaa
open Go.RowKit
set_option linter.unusedVariables false

set_option maxRecDepth 20000 in
set_option maxHeartbeats 4000000 in
theorem implFreed_any (a : Ac) (lv : Value) (e : Int) (w : World) (hr : RdL w lv a.2.2.2.2) (hl : a.2.2.2.2.length ≤ 4000000) :
    Calls Try.prog 35 #[acV a lv, .int .i64 e] w fun en w' => ∃ lv', en = .returned (acV (frA e a) lv') ∧ OwnL w.heap.size w' lv' (stL e a.2.2.2.2) ∧ Below w.heap.size w w' := by
  obtain ⟨nm, fr, no, st, ls⟩ := a
  obtain ⟨av, cv, rfl⟩ := hr.shape
  simp only [acV, frA] at *
  obtain ⟨w2, hw2⟩ : ∃ w2, (w.alloc (.cells #[.string nm, .int .i64 fr, .int .i64 no, .int .i64 st, .slice av ls.length cv] 31)).alloc (.cells #[.string { data := #[] }, .int .i64 0, .int .i64 0, .int .i64 0, .slice none 0 0] 31) = w2 := ⟨_, rfl⟩
  have hs2 : w2.heap.size = w.heap.size + 2 := by rw [← hw2]; simp
  have hb2 : Below w.heap.size w w2 := by rw [← hw2]; exact ((Below.refl _ w).alloc (Nat.le_refl _) _).alloc (by simp) _
  have k1 : Blk w2 w.heap.size 31 [.string nm, .int .i64 fr, .int .i64 no, .int .i64 st, .slice av ls.length cv] := by
    rw [← hw2]
    exact (Blk.new w _ _).below ((Below.refl (w.heap.size + 1) _).alloc (by simp) _) (by omega)
  have k2 : Blk w2 (w.heap.size + 1) 31 acZ := by
    rw [← hw2]
    have h := Blk.new (w.alloc (.cells #[.string nm, .int .i64 fr, .int .i64 no, .int .i64 st, .slice av ls.length cv] 31)) 31 acZ
    simp only [World.size_alloc] at h
    exact h
  have Hr := hide hr
  have Hb2 := hide hb2
  have K1 := hide k1
  have K2 := hide k2
  have c4 := k1.cell 4
  simp only [List.getElem?_cons_zero, List.getElem?_cons_succ] at c4
  clear hr hb2 k1 k2
  go_enter Try.func35, Try.ntmps35
  go_wp2
  go_loopw [5, 11] (fun sv iv wr => ∃ (k : Nat), k ≤ ls.length ∧ iv = .int .i64 (k : Int) ∧ OwnL (w.heap.size + 2) wr sv (stL e (ls.take k)) ∧ Below w.heap.size w wr ∧ Blk wr w.heap.size 31 [.string nm, .int .i64 (frF e fr (ls.take k)), .int .i64 no, .int .i64 st, .slice av ls.length cv] ∧ Blk wr (w.heap.size + 1) 31 acZ) (fun _ iv _ => ls.length - (intOf iv).toNat)
  case atStart => exact ⟨0, by omega, rfl, own_noneL w2 _, Hb2.out, K1.out, K2.out⟩
  case round =>
    obtain ⟨k, hk, rfl, ho, hb, j1, j2⟩ := hrel
    clear K1 K2 c4 hw2
    have hbs := hb.size
    have hs := j2.lt
    by_cases hlt : k < ls.length
    · obtain ⟨b, off, rfl, hc1, hc2, hbw, e0, e1⟩ := Hr.out.at hlt
      have f0 := (hb.cell (p := ⟨b, off + k * 2, none⟩) hbw).trans e0
      have f1 := (hb.cell (p := ⟨b, off + k * 2 + 1, none⟩) hbw).trans e1
      have HF := hide (frF_snoc e fr ls k hlt)
      have HS := hide (stL_snoc e ls k hlt)
      have hsl := stL_len e (ls.take k)
      have htl : (ls.take k).length ≤ k := by simp; omega
      generalize ls[k] = x at f0 f1 e0 e1 HF HS
      obtain ⟨xa, xt⟩ := x
      simp only at f0 f1 HF HS
      have hli : (k : Int) < (ls.length : Int) := by omega
      obtain ⟨w3, hw3⟩ : ∃ w3, wr.alloc (.cells #[.int .i64 xa, .int .i64 xt] 33) = w3 := ⟨_, rfl⟩
      have hb3 : Below w.heap.size w w3 := by rw [← hw3]; exact hb.alloc hbs _
      have ho3 : OwnL (w.heap.size + 2) w3 u5 (stL e (ls.take k)) := by rw [← hw3]; exact ho.alloc _
      have m1 : Blk w3 w.heap.size 31 [.string nm, .int .i64 (frF e fr (ls.take k)), .int .i64 no, .int .i64 st, .slice (some ⟨b, off, none⟩) ls.length cv] := by rw [← hw3]; exact j1.alloc _
      have m2 : Blk w3 (w.heap.size + 1) 31 acZ := by rw [← hw3]; exact j2.alloc _
      have m3 : Blk w3 wr.heap.size 33 [.int .i64 xa, .int .i64 xt] := by rw [← hw3]; exact Blk.new wr _ _
      have hs3 : w3.heap.size = wr.heap.size + 1 := by rw [← hw3]; simp
      have d1 := m1.cell 1
      have q1 := m1.frozen 1
      have x0 := m3.cell 0
      have x1 := m3.cell 1
      simp only [List.getElem?_cons_zero, List.getElem?_cons_succ] at d1 x0 x1
      have Ho := hide ho3
      have Hb := hide hb3
      have J1 := hide m1
      have J2 := hide m2
      clear e0 e1 ho hb j1 j2 m1 m2 m3 ho3 hb3
      by_cases h1 : xt ≤ e
      · rw [if_pos h1] at HF HS
        generalize frF e fr (ls.take k) = F at HF d1 J1
        go_wp2
        go_roundw
        case rel =>
          refine ⟨k + 1, by omega, by go_num, ?_, ?_, ?_, ?_⟩
          · rw [HS.out]; exact row_set Ho.out _ _ _ (fun j hj => by have := Ho.out.ge j hj; omega)
          · exact Hb.out.setCell (p := ⟨w.heap.size, 1, none⟩) (Nat.le_refl _) _
          · rw [HF.out]; exact J1.out.set 1 _
          · exact J2.out.other _ _ _ (by omega)
        case measure => simp [intOf]; omega
      · rw [if_neg h1] at HF HS
        go_wp2_with (at_builtin; refine app_ownLg _ rfl _ _ rfl (w.heap.size + 2) _ _ (stL e (ls.take k)) [(xa, xt)] rfl rfl (Ho.out.alloc _) (rd_one_lv _ _ xa xt (by first | rfl | omega)) (by simp; omega) (by first | omega | (simp; omega)) ?_; intro v1 w1 ho1 hg1)
        have HB := hide ((Hb.out.alloc (by omega) (.cells #[.int .i64 xa, .int .i64 xt] 33)).grown hg1 (by simp; omega) (fun k hk => by have := Ho.out.ge k hk; omega))
        go_roundw
        case rel =>
          refine ⟨k + 1, by omega, by go_num, ?_, HB.out, ?_, ?_⟩
          · rw [HS.out]; exact ho1
          · rw [HF.out]; exact (J1.out.alloc _).kept' hg1 (fun e => by have := Ho.out.ge _ e.symm; omega)
          · exact (J2.out.alloc _).kept' hg1 (fun e => by have := Ho.out.ge _ e.symm; omega)
        case measure => simp [intOf]; omega
    · have ek : k = ls.length := by omega
      subst ek
      rw [List.take_length] at ho j1
      obtain ⟨a4, cv4, rfl⟩ := ho.rd.shape
      have d0 := j1.cell 0
      have d1 := j1.cell 1
      have d2 := j1.cell 2
      have d3 := j1.cell 3
      have d4 := j1.cell 4
      have q4 := j1.frozen 4
      have r0 := j2.cell 0
      have r1 := j2.cell 1
      have r2 := j2.cell 2
      have r3 := j2.cell 3
      have r4 := j2.cell 4
      have g0 := j2.frozen 0
      have g1 := j2.frozen 1
      have g2 := j2.frozen 2
      have g3 := j2.frozen 3
      have g4 := j2.frozen 4
      simp only [acZ, List.getElem?_cons_zero, List.getElem?_cons_succ] at d0 d1 d2 d3 d4 r0 r1 r2 r3 r4
      have Ho := hide ho
      have Hb := hide hb
      have hge := ho.ge
      clear ho hb j1 j2
      go_wp2
      refine bodyPost_ret (v := .agg #[.string nm, .int .i64 (frF e fr ls), .int .i64 no, .int .i64 st, .slice a4 (stL e ls).length cv4]) (by simp [results, Try.f35, go_sem, r0, r1, r2, r3, r4]) rfl ?_
      have n1 : ∀ k, (Value.slice a4 (stL e ls).length cv4).ownBlock = some k → k ≠ w.heap.size := fun k hk => by have := hge k hk; omega
      have n2 : ∀ k, (Value.slice a4 (stL e ls).length cv4).ownBlock = some k → k ≠ w.heap.size + 1 := fun k hk => by have := hge k hk; omega
      refine ⟨_, rfl, row_set (row_set (row_set (row_set (row_set (row_set (Ho.out.mono (by omega)) _ _ _ n1) _ _ _ n2) _ _ _ n2) _ _ _ n2) _ _ _ n2) _ _ _ n2, ?_⟩
      exact (((((Hb.out.setCell (p := ⟨w.heap.size, 4, none⟩) (by show w.heap.size ≤ w.heap.size; omega) _).setCell (p := ⟨w.heap.size + 1, 0, none⟩) (by show w.heap.size ≤ w.heap.size + 1; omega) _).setCell (p := ⟨w.heap.size + 1, 1, none⟩) (by show w.heap.size ≤ w.heap.size + 1; omega) _).setCell (p := ⟨w.heap.size + 1, 2, none⟩) (by show w.heap.size ≤ w.heap.size + 1; omega) _).setCell (p := ⟨w.heap.size + 1, 3, none⟩) (by show w.heap.size ≤ w.heap.size + 1; omega) _).setCell (p := ⟨w.heap.size + 1, 4, none⟩) (by show w.heap.size ≤ w.heap.size + 1; omega) _
end Go.Proofs.Ytknmjahipekgpaa
