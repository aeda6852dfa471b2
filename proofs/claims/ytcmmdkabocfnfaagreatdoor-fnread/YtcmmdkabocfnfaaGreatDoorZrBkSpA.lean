/- The model's reader: a number, a text, names, by where it is. -/
import Derived.Test.YtcmmdkabocfnfaaGreatDoorZrBkRdC
import Derived.Test.YtcmmdkabocfnfaaGreatDoorZrGetNum
import Derived.Test.YtcmmdkabocfnfaaGreatDoorZrRoundText
namespace Go.Proofs.YtcmmdkabocfnfaaGreatDoor
open Go.RowKit
set_option linter.unusedVariables false

theorem getN_zero (l : List UInt8) (p : Int) : (getN l p).2.2 = false → (getN l p).1 = 0 := by
  unfold getN
  split
  · split
    · intro _; rfl
    · split
      · intro _; rfl
      · intro h; cases h
  · intro _; rfl
theorem getT_zero (l : List UInt8) (p : Int) : (getT l p).2.2 = false → (getT l p).1 = [] := by
  unfold getT
  split
  · intro h; cases h
  · intro _; rfl
theorem getNs_zero (l : List UInt8) (p : Int) : (getNs l p).2.2 = false → (getNs l p).1 = [] := by
  unfold getNs
  split
  · split
    · intro _; rfl
    · intro h; cases h
  · intro _; rfl
/-- The model's reader in block B is at s, over the bytes l. -/
def Spr (W : World) (B : Nat) (v : Value) (p : Int) (bad : Bool) : Prop := Blk W B 46 [v, .int .i64 p, .bool bad]
structure Sp9 (w0 W : World) (B : Nat) (v : Value) (l : List UInt8) (s : St) : Prop where
  blk : ∃ p bad, Spr W B v p bad ∧ s = (if bad = true then none else some p) ∧ 0 ≤ p ∧ p ≤ l.length
  rd : RdB w0 v l
  low : Below w0.heap.size w0 W
  lo : w0.heap.size ≤ B
  few : l.length ≤ 4000000
theorem Sp9.lt {w0 W : World} {B : Nat} {v : Value} {l : List UInt8} {s : St} (h : Sp9 w0 W B v l s) : B < W.heap.size := by
  obtain ⟨p, ok, hk, -⟩ := h.blk
  exact Blk.lt hk
theorem Sp9.oth {w0 W W' : World} {B : Nat} {v : Value} {l : List UInt8} {s : St} {S : Nat → Prop} (h : Sp9 w0 W B v l s) (O : Oth S W W') (hS : ∀ g, S g → g ≠ B ∧ w0.heap.size ≤ g) : Sp9 w0 W' B v l s := by
  obtain ⟨⟨p, ok, hk, h1⟩, h2, h3, h4, h5⟩ := h
  refine ⟨⟨p, ok, (O.block B (Blk.lt hk) (fun e => (hS B e).1 rfl)).trans hk, h1⟩, h2, h3.trans (O.below (fun g e => (hS g e).2) h3.size), h4, h5⟩
theorem Sp9.bel {w0 W W' : World} {B : Nat} {v : Value} {l : List UInt8} {s : St} (h : Sp9 w0 W B v l s) (hb : Below W.heap.size W W') : Sp9 w0 W' B v l s := h.oth (S := fun _ => False) (Oth.of_below hb) (fun _ e => e.elim)
theorem Sp9.al {w0 W : World} {B : Nat} {v : Value} {l : List UInt8} {s : St} (h : Sp9 w0 W B v l s) (o : Obj) : Sp9 w0 (W.alloc o) B v l s := h.bel ((Below.refl _ W).alloc (Nat.le_refl _) o)
theorem Sp9.set {w0 W : World} {B : Nat} {v : Value} {l : List UInt8} {s : St} (h : Sp9 w0 W B v l s) {g : Nat} (hg : g ≠ B) (hl : w0.heap.size ≤ g) (j : Nat) (u : Value) : Sp9 w0 (W.setCell ⟨g, j, none⟩ u) B v l s :=
  h.oth (S := fun k => k = g) (Oth.of_grown (grown_set W g j u) (fun k e => by cases e; rfl)) (fun k e => by subst e; exact ⟨hg, hl⟩)
theorem Sp9.none_set {w0 W : World} {B : Nat} {v : Value} {l : List UInt8} {p : Int} {bad : Bool} (hk : Spr W B v p bad) (h0 : 0 ≤ p) (h1 : p ≤ l.length) (h2 : RdB w0 v l) (h3 : Below w0.heap.size w0 W) (h4 : w0.heap.size ≤ B) (h5 : l.length ≤ 4000000) : Sp9 w0 (W.setCell ⟨B, 2, none⟩ (.bool true)) B v l none :=
  ⟨⟨p, true, Blk.setC hk 2 (.bool true), rfl, h0, h1⟩, h2, low_of h3 h4 ((Oth.refl (fun g => g = B) W).set rfl 2 _), h4, h5⟩
theorem Sp9.at_set {w0 W : World} {B : Nat} {v : Value} {l : List UInt8} {p q : Int} (hk : Spr W B v p false) (h0 : 0 ≤ q) (h1 : q ≤ l.length) (h2 : RdB w0 v l) (h3 : Below w0.heap.size w0 W) (h4 : w0.heap.size ≤ B) (h5 : l.length ≤ 4000000) : Sp9 w0 (W.setCell ⟨B, 1, none⟩ (.int .i64 q)) B v l (some q) :=
  ⟨⟨q, false, Blk.setC hk 1 (.int .i64 q), rfl, h0, h1⟩, h2, low_of h3 h4 ((Oth.refl (fun g => g = B) W).set rfl 1 _), h4, h5⟩
theorem Sp9.stay_bad {w0 W : World} {B : Nat} {v : Value} {l : List UInt8} {p : Int} (hk : Spr W B v p true) (h0 : 0 ≤ p) (h1 : p ≤ l.length) (h2 : RdB w0 v l) (h3 : Below w0.heap.size w0 W) (h4 : w0.heap.size ≤ B) (h5 : l.length ≤ 4000000) : Sp9 w0 W B v l none :=
  ⟨⟨p, true, hk, rfl, h0, h1⟩, h2, h3, h4, h5⟩
set_option maxRecDepth 20000 in
set_option maxHeartbeats 2000000 in
theorem spNum_any {w0 W : World} {B : Nat} {v : Value} {l : List UInt8} {s : St} (h : Sp9 w0 W B v l s) :
    Calls Tryz.prog 22 #[.pointer (some ⟨B, 0, none⟩)] W fun e W' => e = .returned (.int .i64 (rN l s)) ∧ Sp9 w0 W' B v l (sN l s) ∧ Oth (fun g => g = B) W W' := by
  obtain ⟨⟨p, bad, hk, hs, h0, h1⟩, h2, h3, h4, h5⟩ := h
  obtain ⟨a, cap, rfl⟩ := h2.shape
  have hrW := h2.below h3 (Nat.le_refl _)
  have HC : Hid (∀ d : Nat, Calls Tryz.prog 71 #[.slice a l.length cap, .int .i64 p] (W.drewN d) fun e w' => e = .returned (tri (getN l p)) ∧ w' = W.drewN d) := hide (fun d => specGetNum_any _ l p _ (hrW.below (below_drewN5 W d) (Nat.le_refl _)) h5 (by omega) (by omega))
  have HF : Hid (rN l (some p) = (getN l p).1 ∧ sN l (some p) = if (getN l p).2.2 = true then some (getN l p).2.1 else none) := hide ⟨rfl, rfl⟩
  have hbd := (getN_bd l p).2.2
  have hz := getN_zero l p
  have c0 := Blk.cell hk 0
  have c1 := Blk.cell hk 1
  have c2 := Blk.cell hk 2
  have f1 := Blk.frozen hk 1
  have f2 := Blk.frozen hk 2
  simp only [List.getElem?_cons_zero, List.getElem?_cons_succ] at c0 c1 c2
  subst hs
  generalize getN l p = G at HC HF hbd hz
  obtain ⟨n, x, o⟩ := G
  simp only [tri] at HC HF hbd hz
  clear hrW
  cases bad
  · have e0 : (if false = true then (none : St) else some p) = some p := rfl
    rw [e0, HF.out.1, HF.out.2]
    cases o
    · have hn : n = 0 := hz rfl
      subst hn
      have HR := fun W' (hW : Spr W' B (.slice a l.length cap) p false) (hb : Below w0.heap.size w0 W') => Sp9.none_set (l := l) hW h0 h1 h2 hb h4 h5
      have HK := hide hk
      have H3 := hide h3
      clear hk h2 h3
      go_enter Tryz.func22, Tryz.ntmps22
      go_wp2
      go_quiet ((go_at_call 71; exact Calls.quiet_of_same (HC.out _)))
      go_wp2
      go_ret
      exact ⟨rfl, HR _ HK.out (H3.out.trans (below_drewN (Below.refl _ _) _)), ((Oth.of_below (S := fun g => g = B) (below_drewN5 W _)).set rfl 2 _)⟩
    · have HR := fun W' (hW : Spr W' B (.slice a l.length cap) p false) (hb : Below w0.heap.size w0 W') => Sp9.at_set (l := l) hW hbd.1 hbd.2 h2 hb h4 h5
      have HK := hide hk
      have H3 := hide h3
      clear hk h2 h3
      go_enter Tryz.func22, Tryz.ntmps22
      go_wp2
      go_quiet ((go_at_call 71; exact Calls.quiet_of_same (HC.out _)))
      go_wp2
      go_ret
      exact ⟨rfl, HR _ HK.out (H3.out.trans (below_drewN (Below.refl _ _) _)), ((Oth.of_below (S := fun g => g = B) (below_drewN5 W _)).set rfl 1 _)⟩
  · have HR := fun W' (hW : Spr W' B (.slice a l.length cap) p true) (hb : Below w0.heap.size w0 W') => Sp9.none_set (l := l) hW h0 h1 h2 hb h4 h5
    have HK := hide hk
    have H3 := hide h3
    clear hk h2 h3
    go_enter Tryz.func22, Tryz.ntmps22
    go_wp2
    go_quiet ((go_at_call 71; exact Calls.quiet_of_same (HC.out _)))
    go_wp2
    go_ret
    exact ⟨rfl, HR _ HK.out (H3.out.trans (below_drewN (Below.refl _ _) _)), ((Oth.of_below (S := fun g => g = B) (below_drewN5 W _)).set rfl 2 _)⟩
set_option maxRecDepth 20000 in
set_option maxHeartbeats 2000000 in
theorem spText_any {w0 W : World} {B : Nat} {v : Value} {l : List UInt8} {s : St} (h : Sp9 w0 W B v l s) :
    Calls Tryz.prog 23 #[.pointer (some ⟨B, 0, none⟩)] W fun e W' => e = .returned (.string (rT l s)) ∧ Sp9 w0 W' B v l (sT l s) ∧ Oth (fun g => g = B) W W' := by
  obtain ⟨⟨p, bad, hk, hs, h0, h1⟩, h2, h3, h4, h5⟩ := h
  obtain ⟨a, cap, rfl⟩ := h2.shape
  have hrW := h2.below h3 (Nat.le_refl _)
  have HC : Hid (∀ d : Nat, Calls Tryz.prog 72 #[.slice a l.length cap, .int .i64 p] (W.drewN d) fun e w' => e = .returned (trs (getT l p)) ∧ w' = W.drewN d) := hide (fun d => specGetText_any _ l p _ (hrW.below (below_drewN5 W d) (Nat.le_refl _)) h5 (by omega) (by omega))
  have HF : Hid (rT l (some p) = ⟨(getT l p).1.toArray⟩ ∧ sT l (some p) = if (getT l p).2.2 = true then some (getT l p).2.1 else none) := hide ⟨rfl, rfl⟩
  have hbd := getT_bd l p
  have hz := getT_zero l p
  have c0 := Blk.cell hk 0
  have c1 := Blk.cell hk 1
  have c2 := Blk.cell hk 2
  have f1 := Blk.frozen hk 1
  have f2 := Blk.frozen hk 2
  simp only [List.getElem?_cons_zero, List.getElem?_cons_succ] at c0 c1 c2
  subst hs
  generalize getT l p = G at HC HF hbd hz
  obtain ⟨n, x, o⟩ := G
  simp only [trs] at HC HF hbd hz
  clear hrW
  cases bad
  · have e0 : (if false = true then (none : St) else some p) = some p := rfl
    rw [e0, HF.out.1, HF.out.2]
    cases o
    · have hn : n = [] := hz rfl
      subst hn
      have HR := fun W' (hW : Spr W' B (.slice a l.length cap) p false) (hb : Below w0.heap.size w0 W') => Sp9.none_set (l := l) hW h0 h1 h2 hb h4 h5
      have HK := hide hk
      have H3 := hide h3
      clear hk h2 h3
      go_enter Tryz.func23, Tryz.ntmps23
      go_wp2
      go_quiet ((go_at_call 72; exact Calls.quiet_of_same (HC.out _)))
      go_wp2
      go_ret
      exact ⟨rfl, HR _ HK.out (H3.out.trans (below_drewN (Below.refl _ _) _)), ((Oth.of_below (S := fun g => g = B) (below_drewN5 W _)).set rfl 2 _)⟩
    · have HR := fun W' (hW : Spr W' B (.slice a l.length cap) p false) (hb : Below w0.heap.size w0 W') => Sp9.at_set (l := l) hW hbd.1 hbd.2 h2 hb h4 h5
      have HK := hide hk
      have H3 := hide h3
      clear hk h2 h3
      go_enter Tryz.func23, Tryz.ntmps23
      go_wp2
      go_quiet ((go_at_call 72; exact Calls.quiet_of_same (HC.out _)))
      go_wp2
      go_ret
      exact ⟨rfl, HR _ HK.out (H3.out.trans (below_drewN (Below.refl _ _) _)), ((Oth.of_below (S := fun g => g = B) (below_drewN5 W _)).set rfl 1 _)⟩
  · have HR := fun W' (hW : Spr W' B (.slice a l.length cap) p true) (hb : Below w0.heap.size w0 W') => Sp9.none_set (l := l) hW h0 h1 h2 hb h4 h5
    have HK := hide hk
    have H3 := hide h3
    clear hk h2 h3
    go_enter Tryz.func23, Tryz.ntmps23
    go_wp2
    go_quiet ((go_at_call 72; exact Calls.quiet_of_same (HC.out _)))
    go_wp2
    go_ret
    exact ⟨rfl, HR _ HK.out (H3.out.trans (below_drewN (Below.refl _ _) _)), ((Oth.of_below (S := fun g => g = B) (below_drewN5 W _)).set rfl 2 _)⟩
set_option maxRecDepth 20000 in
set_option maxHeartbeats 2000000 in
theorem spNames_any {w0 W : World} {B : Nat} {v : Value} {l : List UInt8} {s : St} (h : Sp9 w0 W B v l s) :
    Calls Tryz.prog 24 #[.pointer (some ⟨B, 0, none⟩)] W fun e W' => ∃ v', e = .returned v' ∧ OwnS W.heap.size W' v' (rS l s) ∧ Sp9 w0 W' B v l (sS l s) ∧ Oth (fun g => g = B) W W' := by
  have hBl := h.lt
  obtain ⟨⟨p, bad, hk, hs, h0, h1⟩, h2, h3, h4, h5⟩ := h
  obtain ⟨a, cap, rfl⟩ := h2.shape
  have HC := hide (fun V (hV : Below W.heap.size W V) => specGetNames_any (.slice a l.length cap) l p V (h2.below (h3.trans (hV.mono h3.size)) (Nat.le_refl _)) h5 (by omega) (by omega))
  have HF : Hid (rS l (some p) = (getNs l p).1 ∧ sS l (some p) = if (getNs l p).2.2 = true then some (getNs l p).2.1 else none) := hide ⟨rfl, rfl⟩
  have hbd := getNs_bd l p
  have hz := getNs_zero l p
  have c0 := Blk.cell hk 0
  have c1 := Blk.cell hk 1
  simp only [List.getElem?_cons_zero, List.getElem?_cons_succ] at c0 c1
  have HS : Hid (∀ V, Below W.heap.size W V → V.cell? ⟨B, 0, none⟩ = some (.slice a l.length cap) ∧ V.cell? ⟨B, 1, none⟩ = some (.int .i64 p)) := hide (fun V hV => ⟨(hV.cell (p := ⟨B, 0, none⟩) hBl).trans c0, (hV.cell (p := ⟨B, 1, none⟩) hBl).trans c1⟩)
  have bD : Below W.heap.size W W.drew := (Below.refl _ W).drew
  have HK := hide hk
  have H2 := hide h2
  have H3 := hide h3
  generalize getNs l p = G at HC HF hbd hz
  obtain ⟨ns, q, o⟩ := G
  simp only at HC HF hbd hz
  clear hk h2 h3
  subst hs
  have hdl : W.drew.heap.size = W.heap.size := rfl
  cases bad
  · have e0 : (if false = true then (none : St) else some p) = some p := rfl
    rw [e0, HF.out.1, HF.out.2]
    go_enter Tryz.func24, Tryz.ntmps24
    go_wp2
    clear c0 c1
    go_region_held_law (fun w' => w'.cell? ⟨B, 0, none⟩ = some (.slice a l.length cap) ∧ w'.cell? ⟨B, 1, none⟩ = some (.int .i64 p)) ((refine HS.out _ ?_; repeat (first | with_reducible exact bD | with_reducible exact c2 | with_reducible exact Below.refl _ _ | refine Below.drew ?_)))
      ((go_at_call 73; (with_reducible refine (HC.out _ bD).mono ?_); rintro e w2 ⟨v2, rfl, ho2, hb2⟩; have c2 := bD.trans (hb2.mono bD.size)))
    have k2 : Spr w2 B (.slice a l.length cap) p false := Blk.below HK.out c2 hBl
    have x1 := Blk.cell k2 1
    have x2 := Blk.cell k2 2
    have f1 := Blk.frozen k2 1
    have f2 := Blk.frozen k2 2
    simp only [List.getElem?_cons_zero, List.getElem?_cons_succ] at x1 x2
    obtain ⟨a2, c2', rfl⟩ := ho2.rd.shape
    have z2 := c2.size
    have hlow := H3.out.trans (c2.mono H3.out.size)
    cases o
    · have hn : ns = [] := hz rfl
      subst hn
      have HR := hide ((Sp9.none_set (l := l) k2 h0 h1 H2.out hlow h4 h5).al (.cells #[] 9))
      have HO := hide (((Oth.of_below (S := fun g => g = B) c2).set rfl 2 (.bool true)).trans (Oth.of_below ((Below.refl _ (w2.setCell ⟨B, 2, none⟩ (.bool true))).alloc (Nat.le_refl _) (.cells #[] 9))))
      have HW := hide (own_nilS (w2.setCell ⟨B, 2, none⟩ (.bool true)) W.heap.size (by simp; omega))
      clear k2 ho2 hb2 c2 hlow
      go_wp2
      go_ret
      exact ⟨_, rfl, by simpa using HW.out, HR.out, HO.out⟩
    · have HR := hide (Sp9.at_set (l := l) k2 hbd.1 hbd.2 H2.out hlow h4 h5)
      have HO := hide ((Oth.of_below (S := fun g => g = B) c2).set rfl 1 (.int .i64 q))
      have HW : Hid (OwnS W.heap.size (w2.setCell ⟨B, 1, none⟩ (.int .i64 q)) (.slice a2 ns.length c2') ns) := hide (OwnS.olderC ho2 (by rw [hdl]; exact hBl) 1 _)
      clear k2 ho2 hb2 c2 hlow
      go_wp2
      go_ret
      exact ⟨_, rfl, HW.out, HR.out, HO.out⟩
  · go_enter Tryz.func24, Tryz.ntmps24
    go_wp2
    clear c0 c1
    go_region_held_law (fun w' => w'.cell? ⟨B, 0, none⟩ = some (.slice a l.length cap) ∧ w'.cell? ⟨B, 1, none⟩ = some (.int .i64 p)) ((refine HS.out _ ?_; repeat (first | with_reducible exact bD | with_reducible exact c2 | with_reducible exact Below.refl _ _ | refine Below.drew ?_)))
      ((go_at_call 73; (with_reducible refine (HC.out _ bD).mono ?_); rintro e w2 ⟨v2, rfl, ho2, hb2⟩; have c2 := bD.trans (hb2.mono bD.size)))
    have k2 : Spr w2 B (.slice a l.length cap) p true := Blk.below HK.out c2 hBl
    have x2 := Blk.cell k2 2
    have f2 := Blk.frozen k2 2
    simp only [List.getElem?_cons_zero, List.getElem?_cons_succ] at x2
    have z2 := c2.size
    have hlow := H3.out.trans (c2.mono H3.out.size)
    have HR := hide ((Sp9.none_set (l := l) k2 h0 h1 H2.out hlow h4 h5).al (.cells #[] 9))
    have HO := hide (((Oth.of_below (S := fun g => g = B) c2).set rfl 2 (.bool true)).trans (Oth.of_below ((Below.refl _ (w2.setCell ⟨B, 2, none⟩ (.bool true))).alloc (Nat.le_refl _) (.cells #[] 9))))
    have HW := hide (own_nilS (w2.setCell ⟨B, 2, none⟩ (.bool true)) W.heap.size (by simp; omega))
    clear k2 ho2 hb2 c2 hlow
    go_wp2
    go_ret
    exact ⟨_, rfl, by simpa [rS] using HW.out, HR.out, HO.out⟩
end Go.Proofs.YtcmmdkabocfnfaaGreatDoor
