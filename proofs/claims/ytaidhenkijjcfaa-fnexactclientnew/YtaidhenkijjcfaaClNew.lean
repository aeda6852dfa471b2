/- The one who only follows, from a ledger: ClientNew, on both sides. -/
import Derived.Test.YtaidhenkijjcfaaVsSet
import Derived.Test.YtaidhenkijjcfaaClVal
import Derived.Deep.RegionHeldLaw
import Derived.Deep.MidRow
import Derived.Deep.Cut
import Derived.Laws.IdiomCopy
namespace Go.Proofs.Ytaidhenkijjcfaa
open Go.RowKit
set_option linter.unusedVariables false

/-- What ClientNew answers. -/
def cnA (e : Int) (l : List Ac) : Int × List Vl := if lgB e l = true then (e, setV l) else (0, [])
theorem own_noneV (w : World) (base : Nat) : OwnV base w (.slice none 0 0) [] := World.ownsRow_nil w base _ _
theorem Blk.set2 {W : World} {B : Nat} {t : TypeId} {a b : Value} (h : Blk W B t [a, b]) (x y : Value) : Blk (W.setCells B 0 [x, y]) B t [x, y] := by
  have h1 : Blk (W.setCell ⟨B, 0, none⟩ x) B t [x, b] := by
    have e := heap_setCell_same W B 0 [a, b].toArray t x h
    simpa [Blk] using e
  have h2 : Blk ((W.setCell ⟨B, 0, none⟩ x).setCell ⟨B, 1, none⟩ y) B t [x, y] := by
    have e := heap_setCell_same _ B 1 [x, b].toArray t y h1
    simpa [Blk] using e
  exact h2
theorem Blk.not2 {W : World} {B : Nat} {t : TypeId} {cs : List Value} (h : Blk W B t cs) {g : Nat} (hne : B ≠ g) (x y : Value) : Blk (W.setCells g 0 [x, y]) B t cs :=
  (heap_setCell_other _ ⟨g, 1, none⟩ B y hne).trans ((heap_setCell_other W ⟨g, 0, none⟩ B x hne).trans h)
theorem below_set2 {B : Nat} {w w' : World} (h : Below B w w') {g : Nat} (hg : B ≤ g) (x y : Value) : Below B w (w'.setCells g 0 [x, y]) :=
  (h.setCell (p := ⟨g, 0, none⟩) hg x).setCell (p := ⟨g, 1, none⟩) hg y
theorem Blk.range2 {w : World} {b : Nat} {t : TypeId} {cs : List Value} (h : Blk w b t cs) : w.rangeAt b 0 cs := fun j v hv => by rw [Nat.zero_add]; exact (h.cell j).trans hv
theorem Blk.there2 {W : World} {B n : Nat} {t : TypeId} {cs : List Value} (h : Blk W B t cs) (hn : cs.length = n) : W.there B 0 n := fun j hj => by
  rw [Nat.zero_add]
  exact ⟨by rw [h.cell j, List.getElem?_eq_getElem (by omega)]; rfl, h.frozen j⟩
theorem cnA_len (e : Int) (l : List Ac) : (cnA e l).2.length ≤ l.length := by
  unfold cnA
  split
  · exact setV_len l
  · simp
theorem OwnV.setsC {base : Nat} {w : World} {v : Value} {l : List Vl} (h : OwnV base w v l) {g : Nat} (hg : g < base) (x y : Value) : OwnV base (w.setCells g 0 [x, y]) v l := (h.olderC hg 0 x).olderC hg 1 y

theorem res_specCn {X : World} {a : Act} {R : Ending → World → Prop} {F : List Value} (g : Nat) (h : X.rangeAt g 0 F) (h2 : a.tmps[2]?.getD undef = .pointer (some ⟨g, 0, none⟩)) (hs : (Try.prog.info? 28).map (·.size) = some F.length) (hd : a.defers = []) (hR : R (.returned (.agg F.toArray)) X) : bodyPost Try.prog Try.f5 R .ret a X := by
  have hl := run_loadVar_mid (P := Try.prog) X g 0 28 F _ h Try.underlying28 rfl hs
  refine bodyPost_ret (v := .agg F.toArray) ?_ hd hR
  simp [results, Try.f5, h2, asAddr, hl]
set_option maxRecDepth 20000 in
set_option maxHeartbeats 2000000 in
theorem specClientNew_any (e : Int) (v : Value) (l : List Ac) (w : World) (hr : RdA w v l) (hl : l.length ≤ 4000000) (hall : ∀ a ∈ l, a.1.size ≤ maxLen ∧ a.2.2.2.2.length ≤ 4000000) :
    Calls Try.prog 5 #[lgV e v] w fun en w' => ∃ v', en = .returned (lgV (cnA e l).1 v') ∧ OwnV w.heap.size w' v' (cnA e l).2 ∧ Below w.heap.size w w' := by
  obtain ⟨av, cv, rfl⟩ := hr.shape
  obtain ⟨w1, hw1⟩ : ∃ w1, (w.alloc (.cells #[.int .i64 e, .slice av l.length cv] 32)).alloc (.cells #[.int .i64 0, .slice none 0 0] 28) = w1 := ⟨_, rfl⟩
  have hb1 : Below w.heap.size w w1 := by rw [← hw1]; exact ((Below.refl _ w).alloc (Nat.le_refl _) _).alloc (by simp) _
  have k1 : Blk w1 w.heap.size 32 [.int .i64 e, .slice av l.length cv] := by rw [← hw1]; exact (Blk.new w _ _).below ((Below.refl (w.heap.size + 1) _).alloc (by simp) _) (by omega)
  have r1 : Blk w1 (w.heap.size + 1) 28 [.int .i64 0, .slice none 0 0] := by rw [← hw1]; exact Blk.new' _ _ [.int .i64 0, .slice none 0 0] _ (by simp)
  have HK := hide (specLedgerOk_any e _ l w1 (hr.below hb1 (Nat.le_refl _)) hl hall)
  have HS := hide (fun w h => specL7Set_any e (.slice av l.length cv) l w h hl)
  have Hr := hide (hr.below hb1 (Nat.le_refl _))
  have Hx : Hid (cnA e l = if lgB e l = true then (e, setV l) else (0, [])) := hide rfl
  have Hy : Hid (setA e l = if lgB e l = true then setV l else []) := hide rfl
  have c0 := k1.cell 0
  have c1 := k1.cell 1
  simp only [List.getElem?_cons_zero, List.getElem?_cons_succ] at c0 c1
  simp only [lgV] at *
  clear hr hall
  generalize cnA e l = X at Hx ⊢
  cases hok : lgB e l
  · rw [hok] at HK Hx
    rw [if_neg (by simp)] at Hx
    have hx := Hx.out
    subst hx
    clear hok HS Hx Hy
    go_enter Try.func5, Try.ntmps5
    go_wp2_with fail
    refine HK.out.mono ?_
    rintro en w2 ⟨rfl, hb2⟩
    have hB2 := hb1.trans (hb2.mono hb1.size)
    have r2 := r1.below hb2 r1.lt
    have q0 := r2.cell 0
    have q1 := r2.cell 1
    have g0 := r2.frozen 0
    have g1 := r2.frozen 1
    simp only [List.getElem?_cons_zero, List.getElem?_cons_succ] at q0 q1
    clear c0 c1 k1 r1
    go_wp2
    refine bodyPost_ret (v := .agg #[.int .i64 0, .slice none 0 0]) (by simp [results, Try.f5, go_sem, q0, q1]) rfl ?_
    exact ⟨_, rfl, own_noneV _ _, (hB2.setCell (p := ⟨w.heap.size + 1, 0, none⟩) (show w.heap.size ≤ w.heap.size + 1 by omega) _).setCell (p := ⟨w.heap.size + 1, 1, none⟩) (show w.heap.size ≤ w.heap.size + 1 by omega) _⟩
  · rw [hok] at HK Hx Hy
    rw [if_pos rfl] at Hx Hy
    have hx := Hx.out
    subst hx
    have hy := Hy.out
    clear hok Hx Hy
    have HS := HS
    clear hy
    generalize setV l = Y at HS ⊢
    go_enter Try.func5, Try.ntmps5
    go_wp2_with fail
    refine HK.out.mono ?_
    rintro en w2 ⟨rfl, hb2⟩
    have hB2 := hb1.trans (hb2.mono hb1.size)
    have HB2 := hide hB2
    have bD : Below w2.heap.size w2 w2.drew := (Below.refl _ w2).drew
    have k2 := hide (k1.below hb2 k1.lt)
    have r2 := hide (r1.below hb2 r1.lt)
    have hs2 := (r1.below hb2 r1.lt).lt
    have HSS := hide (fun V (hV : Below w2.heap.size w2 V) => And.intro ((k2.out.below hV k2.out.lt).cell 0) ((k2.out.below hV k2.out.lt).cell 1))
    have hS := HSS.out _ bD
    have Hrr := hide (Hr.out.below hb2 (Nat.le_refl _))
    clear c0 c1 k1 r1 hb2 hb1 hB2 HK
    go_upto_region 3 with fail
    go_wp2
    refine wp_region_held_drew (S := fun W => W.cell? ⟨w.heap.size, 0, none⟩ = some (.int .i64 e) ∧ W.cell? ⟨w.heap.size, 1, none⟩ = some (.slice av l.length cv)) (by kernel_rfl) hS (fun hHeld => ?_)
    refine wpAnyH_take (i := 0) (v := .pointer (some ⟨w.heap.size, 0, none⟩)) rfl (by kernel_rfl) (by kernel_rfl) (by kernel_rfl) (fun _ _ _ h => h) (Or.inl ⟨by rfl, fun W hW => by (obtain ⟨q0, q1⟩ := hW; go_simp)⟩) (by assumption) ?_
    change wpAnyH Try.prog _ _ _ _ _ _ (Act.put _ (some 7) _) _
    simp only [Act.put, List.setIfInBounds_toArray, List.set_cons_zero, List.set_cons_succ]
    refine wpAnyH_take (i := 1) (v := .int .i64 e) rfl (by kernel_rfl) (by kernel_rfl) (by kernel_rfl) (fun _ _ _ h => h) (Or.inl ⟨by rfl, fun W hW => by (obtain ⟨q0, q1⟩ := hW; go_simp)⟩) (by assumption) ?_
    change wpAnyH Try.prog _ _ _ _ _ _ (Act.put _ (some 8) _) _
    simp only [Act.put, List.setIfInBounds_toArray, List.set_cons_zero, List.set_cons_succ]
    refine wpAnyH_take (i := 2) (v := .agg #[.int .i64 e, .slice av l.length cv]) rfl (by kernel_rfl) (by kernel_rfl) (by kernel_rfl) (fun _ _ _ h => h) (Or.inl ⟨by rfl, fun W hW => by (obtain ⟨q0, q1⟩ := hW; go_simp)⟩) (by assumption) ?_
    change wpAnyH Try.prog _ _ _ _ _ _ (Act.put _ (some 9) _) _
    simp only [Act.put, List.setIfInBounds_toArray, List.set_cons_zero, List.set_cons_succ]
    refine wpAnyH_ready (rs := [3]) (by kernel_rfl) (by simp) ?_
    refine AllReadyH.cons rfl (fun K hK => ?_) AllReadyH.nil
    go_simp
    go_wp2_with (go_at_call 15; (with_reducible refine (HS.out _ (Hrr.out.below bD (Nat.le_refl _))).mono ?_); rintro en w3 ⟨v3, rfl, o3, hb3⟩; obtain ⟨a3, cv3, hv3⟩ := o3.rd.shape; subst hv3; have b3 := bD.trans (hb3.mono bD.size); have hS3 := HSS.out _ b3; have kr := r2.out.below b3 r2.out.lt; have hS4 : (w3.setCells (w.heap.size + 1) 0 [.int .i64 e, .slice a3 Y.length cv3]).cell? ⟨w.heap.size, 0, none⟩ = some (.int .i64 e) ∧ (w3.setCells (w.heap.size + 1) 0 [.int .i64 e, .slice a3 Y.length cv3]).cell? ⟨w.heap.size, 1, none⟩ = some (.slice av l.length cv) := (have k := (k2.out.below b3 k2.out.lt).not2 (g := w.heap.size + 1) (by omega) (.int .i64 e) (.slice a3 Y.length cv3); ⟨k.cell 0, k.cell 1⟩))
    refine hK.out _ _ hS3 (fun hHeld => ?_)
    try simp only [Act.put, List.setIfInBounds_toArray, List.set_cons_zero, List.set_cons_succ]
    refine wpAnyH_take (i := 4) (v := .agg #[.int .i64 e, .slice a3 Y.length cv3]) rfl (by kernel_rfl) (by kernel_rfl) (by kernel_rfl) (fun _ _ _ h => h) (Or.inl ⟨by rfl, fun W hW => by (obtain ⟨q0, q1⟩ := hW; go_simp)⟩) (by assumption) ?_
    change wpAnyH Try.prog _ _ _ _ _ _ (Act.put _ (some 11) _) _
    simp only [Act.put, List.setIfInBounds_toArray, List.set_cons_zero, List.set_cons_succ]
    refine wpAnyH_ready (rs := [5]) (by kernel_rfl) (by simp) ?_
    refine AllReadyH.cons rfl (fun K hK => ?_) AllReadyH.nil
    refine wp_store_mid 28 _ _ rfl (w.heap.size + 1) 0 #[.int .i64 e, .slice a3 Y.length cv3] rfl rfl (kr.there2 (n := 2) rfl) (by kernel_rfl) (all_oneCell_toArray (cs := [.int .i64 e, .slice a3 Y.length cv3]) (List.all_eq_true.1 rfl)) ?_
    refine hK.out _ _ hS4 (fun hHeld => ?_)
    refine wpAnyH_done (by kernel_rfl) ?_ _
    have HX := hide (show Blk (w3.setCells (w.heap.size + 1) 0 [.int .i64 e, .slice a3 Y.length cv3]) (w.heap.size + 1) 28 [.int .i64 e, .slice a3 Y.length cv3] from kr.set2 _ _)
    have HB := hide (below_set2 (HB2.out.trans (b3.mono HB2.out.size)) (g := w.heap.size + 1) (by omega) (.int .i64 e) (.slice a3 Y.length cv3))
    have HO := hide ((o3.setsC (g := w.heap.size + 1) (Nat.lt_of_lt_of_le hs2 bD.size) (.int .i64 e) (.slice a3 Y.length cv3)).mono (show w.heap.size ≤ w2.drew.heap.size by have := bD.size; omega))
    clear HSS hS hS3 hS4 kr k2 r2 Hrr HS
    go_wp2
    refine res_specCn (F := [.int .i64 e, .slice a3 Y.length cv3]) (w.heap.size + 1) HX.out.range2 (by rfl) (by kernel_rfl) rfl ?_
    exact ⟨.slice a3 Y.length cv3, rfl, HO.out, HB.out⟩
theorem res_implCn {X : World} {a : Act} {R : Ending → World → Prop} {F : List Value} (g : Nat) (h : X.rangeAt g 0 F) (h2 : a.tmps[2]?.getD undef = .pointer (some ⟨g, 0, none⟩)) (hs : (Try.prog.info? 28).map (·.size) = some F.length) (hd : a.defers = []) (hR : R (.returned (.agg F.toArray)) X) : bodyPost Try.prog Try.f7 R .ret a X := by
  have hl := run_loadVar_mid (P := Try.prog) X g 0 28 F _ h Try.underlying28 rfl hs
  refine bodyPost_ret (v := .agg F.toArray) ?_ hd hR
  simp [results, Try.f7, h2, asAddr, hl]
set_option maxRecDepth 20000 in
set_option maxHeartbeats 2000000 in
theorem implClientNew_any (e : Int) (v : Value) (l : List Ac) (w : World) (hr : RdA w v l) (hl : l.length ≤ 4000000) (hall : ∀ a ∈ l, a.1.size ≤ maxLen ∧ a.2.2.2.2.length ≤ 4000000) :
    Calls Try.prog 7 #[lgV e v] w fun en w' => ∃ v', en = .returned (lgV (cnA e l).1 v') ∧ OwnV w.heap.size w' v' (cnA e l).2 ∧ Below w.heap.size w w' := by
  obtain ⟨av, cv, rfl⟩ := hr.shape
  obtain ⟨w1, hw1⟩ : ∃ w1, (w.alloc (.cells #[.int .i64 e, .slice av l.length cv] 32)).alloc (.cells #[.int .i64 0, .slice none 0 0] 28) = w1 := ⟨_, rfl⟩
  have hb1 : Below w.heap.size w w1 := by rw [← hw1]; exact ((Below.refl _ w).alloc (Nat.le_refl _) _).alloc (by simp) _
  have k1 : Blk w1 w.heap.size 32 [.int .i64 e, .slice av l.length cv] := by rw [← hw1]; exact (Blk.new w _ _).below ((Below.refl (w.heap.size + 1) _).alloc (by simp) _) (by omega)
  have r1 : Blk w1 (w.heap.size + 1) 28 [.int .i64 0, .slice none 0 0] := by rw [← hw1]; exact Blk.new' _ _ [.int .i64 0, .slice none 0 0] _ (by simp)
  have HK := hide (implLedgerOk_any e _ l w1 (hr.below hb1 (Nat.le_refl _)) hl hall)
  have HS := hide (fun w h => implSetOf_any e (.slice av l.length cv) l w h hl hall)
  have Hr := hide (hr.below hb1 (Nat.le_refl _))
  have Hx : Hid (cnA e l = if lgB e l = true then (e, setV l) else (0, [])) := hide rfl
  have Hy : Hid (setA e l = if lgB e l = true then setV l else []) := hide rfl
  have c0 := k1.cell 0
  have c1 := k1.cell 1
  simp only [List.getElem?_cons_zero, List.getElem?_cons_succ] at c0 c1
  simp only [lgV] at *
  clear hr hall
  generalize cnA e l = X at Hx ⊢
  cases hok : lgB e l
  · rw [hok] at HK Hx
    rw [if_neg (by simp)] at Hx
    have hx := Hx.out
    subst hx
    clear hok HS Hx Hy
    go_enter Try.func7, Try.ntmps7
    go_wp2_with fail
    refine HK.out.mono ?_
    rintro en w2 ⟨rfl, hb2⟩
    have hB2 := hb1.trans (hb2.mono hb1.size)
    have r2 := r1.below hb2 r1.lt
    have q0 := r2.cell 0
    have q1 := r2.cell 1
    have g0 := r2.frozen 0
    have g1 := r2.frozen 1
    simp only [List.getElem?_cons_zero, List.getElem?_cons_succ] at q0 q1
    clear c0 c1 k1 r1
    go_wp2
    refine bodyPost_ret (v := .agg #[.int .i64 0, .slice none 0 0]) (by simp [results, Try.f7, go_sem, q0, q1]) rfl ?_
    exact ⟨_, rfl, own_noneV _ _, (hB2.setCell (p := ⟨w.heap.size + 1, 0, none⟩) (show w.heap.size ≤ w.heap.size + 1 by omega) _).setCell (p := ⟨w.heap.size + 1, 1, none⟩) (show w.heap.size ≤ w.heap.size + 1 by omega) _⟩
  · rw [hok] at HK Hx Hy
    rw [if_pos rfl] at Hx Hy
    have hx := Hx.out
    subst hx
    have hy := Hy.out
    clear hok Hx Hy
    rw [hy] at HS
    clear hy
    generalize setV l = Y at HS ⊢
    go_enter Try.func7, Try.ntmps7
    go_wp2_with fail
    refine HK.out.mono ?_
    rintro en w2 ⟨rfl, hb2⟩
    have hB2 := hb1.trans (hb2.mono hb1.size)
    have HB2 := hide hB2
    have bD : Below w2.heap.size w2 w2.drew := (Below.refl _ w2).drew
    have k2 := hide (k1.below hb2 k1.lt)
    have r2 := hide (r1.below hb2 r1.lt)
    have hs2 := (r1.below hb2 r1.lt).lt
    have HSS := hide (fun V (hV : Below w2.heap.size w2 V) => And.intro ((k2.out.below hV k2.out.lt).cell 0) ((k2.out.below hV k2.out.lt).cell 1))
    have hS := HSS.out _ bD
    have Hrr := hide (Hr.out.below hb2 (Nat.le_refl _))
    clear c0 c1 k1 r1 hb2 hb1 hB2 HK
    go_upto_region 3 with fail
    go_wp2
    refine wp_region_held_drew (S := fun W => W.cell? ⟨w.heap.size, 0, none⟩ = some (.int .i64 e) ∧ W.cell? ⟨w.heap.size, 1, none⟩ = some (.slice av l.length cv)) (by kernel_rfl) hS (fun hHeld => ?_)
    refine wpAnyH_take (i := 0) (v := .pointer (some ⟨w.heap.size, 0, none⟩)) rfl (by kernel_rfl) (by kernel_rfl) (by kernel_rfl) (fun _ _ _ h => h) (Or.inl ⟨by rfl, fun W hW => by (obtain ⟨q0, q1⟩ := hW; go_simp)⟩) (by assumption) ?_
    change wpAnyH Try.prog _ _ _ _ _ _ (Act.put _ (some 7) _) _
    simp only [Act.put, List.setIfInBounds_toArray, List.set_cons_zero, List.set_cons_succ]
    refine wpAnyH_take (i := 1) (v := .int .i64 e) rfl (by kernel_rfl) (by kernel_rfl) (by kernel_rfl) (fun _ _ _ h => h) (Or.inl ⟨by rfl, fun W hW => by (obtain ⟨q0, q1⟩ := hW; go_simp)⟩) (by assumption) ?_
    change wpAnyH Try.prog _ _ _ _ _ _ (Act.put _ (some 8) _) _
    simp only [Act.put, List.setIfInBounds_toArray, List.set_cons_zero, List.set_cons_succ]
    refine wpAnyH_take (i := 2) (v := .agg #[.int .i64 e, .slice av l.length cv]) rfl (by kernel_rfl) (by kernel_rfl) (by kernel_rfl) (fun _ _ _ h => h) (Or.inl ⟨by rfl, fun W hW => by (obtain ⟨q0, q1⟩ := hW; go_simp)⟩) (by assumption) ?_
    change wpAnyH Try.prog _ _ _ _ _ _ (Act.put _ (some 9) _) _
    simp only [Act.put, List.setIfInBounds_toArray, List.set_cons_zero, List.set_cons_succ]
    refine wpAnyH_ready (rs := [3]) (by kernel_rfl) (by simp) ?_
    refine AllReadyH.cons rfl (fun K hK => ?_) AllReadyH.nil
    go_simp
    go_wp2_with (go_at_call 18; (with_reducible refine (HS.out _ (Hrr.out.below bD (Nat.le_refl _))).mono ?_); rintro en w3 ⟨v3, rfl, o3, hb3⟩; obtain ⟨a3, cv3, hv3⟩ := o3.rd.shape; subst hv3; have b3 := bD.trans (hb3.mono bD.size); have hS3 := HSS.out _ b3; have kr := r2.out.below b3 r2.out.lt; have hS4 : (w3.setCells (w.heap.size + 1) 0 [.int .i64 e, .slice a3 Y.length cv3]).cell? ⟨w.heap.size, 0, none⟩ = some (.int .i64 e) ∧ (w3.setCells (w.heap.size + 1) 0 [.int .i64 e, .slice a3 Y.length cv3]).cell? ⟨w.heap.size, 1, none⟩ = some (.slice av l.length cv) := (have k := (k2.out.below b3 k2.out.lt).not2 (g := w.heap.size + 1) (by omega) (.int .i64 e) (.slice a3 Y.length cv3); ⟨k.cell 0, k.cell 1⟩))
    refine hK.out _ _ hS3 (fun hHeld => ?_)
    try simp only [Act.put, List.setIfInBounds_toArray, List.set_cons_zero, List.set_cons_succ]
    refine wpAnyH_take (i := 4) (v := .agg #[.int .i64 e, .slice a3 Y.length cv3]) rfl (by kernel_rfl) (by kernel_rfl) (by kernel_rfl) (fun _ _ _ h => h) (Or.inl ⟨by rfl, fun W hW => by (obtain ⟨q0, q1⟩ := hW; go_simp)⟩) (by assumption) ?_
    change wpAnyH Try.prog _ _ _ _ _ _ (Act.put _ (some 11) _) _
    simp only [Act.put, List.setIfInBounds_toArray, List.set_cons_zero, List.set_cons_succ]
    refine wpAnyH_ready (rs := [5]) (by kernel_rfl) (by simp) ?_
    refine AllReadyH.cons rfl (fun K hK => ?_) AllReadyH.nil
    refine wp_store_mid 28 _ _ rfl (w.heap.size + 1) 0 #[.int .i64 e, .slice a3 Y.length cv3] rfl rfl (kr.there2 (n := 2) rfl) (by kernel_rfl) (all_oneCell_toArray (cs := [.int .i64 e, .slice a3 Y.length cv3]) (List.all_eq_true.1 rfl)) ?_
    refine hK.out _ _ hS4 (fun hHeld => ?_)
    refine wpAnyH_done (by kernel_rfl) ?_ _
    have HX := hide (show Blk (w3.setCells (w.heap.size + 1) 0 [.int .i64 e, .slice a3 Y.length cv3]) (w.heap.size + 1) 28 [.int .i64 e, .slice a3 Y.length cv3] from kr.set2 _ _)
    have HB := hide (below_set2 (HB2.out.trans (b3.mono HB2.out.size)) (g := w.heap.size + 1) (by omega) (.int .i64 e) (.slice a3 Y.length cv3))
    have HO := hide ((o3.setsC (g := w.heap.size + 1) (Nat.lt_of_lt_of_le hs2 bD.size) (.int .i64 e) (.slice a3 Y.length cv3)).mono (show w.heap.size ≤ w2.drew.heap.size by have := bD.size; omega))
    clear HSS hS hS3 hS4 kr k2 r2 Hrr HS
    go_wp2
    refine res_implCn (F := [.int .i64 e, .slice a3 Y.length cv3]) (w.heap.size + 1) HX.out.range2 (by rfl) (by kernel_rfl) rfl ?_
    exact ⟨.slice a3 Y.length cv3, rfl, HO.out, HB.out⟩
end Go.Proofs.Ytaidhenkijjcfaa
