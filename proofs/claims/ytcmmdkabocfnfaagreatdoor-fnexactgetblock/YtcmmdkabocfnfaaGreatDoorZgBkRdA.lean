/- The landed code's certificates: what is right. The landed code's reader: a number, a text, names, an order, a count, by where it is. -/
import Derived.Test.YtcmmdkabocfnfaaGreatDoorZgTxVal
import Derived.Test.YtcmmdkabocfnfaaGreatDoorZgBkTo
import Derived.Test.YtcmmdkabocfnfaaGreatDoorZgTxRead
import Derived.Test.YtcmmdkabocfnfaaGreatDoorZgTxGetJ
namespace Go.Proofs.YtcmmdkabocfnfaaGreatDoor
open Go.RowKit
set_option linter.unusedVariables false

theorem implWithinC_any (x a b : Int) (w : World) :
    Calls Tryz.prog 106 #[.int .i64 x, .int .i64 a, .int .i64 b] w fun e w' => e = .returned (.bool (inB x a b)) ∧ w' = w := by
  by_cases h1 : a ≤ x
  · by_cases h2 : x ≤ b
    · have e : Hid (inB x a b = true) := hide (by simp [inB, h1, h2])
      go_enter Tryz.func106, Tryz.ntmps106
      go_wp2
      go_ret
      rw [e.out]; exact ⟨rfl, rfl⟩
    · have e : Hid (inB x a b = false) := hide (by simp [inB, h1, h2])
      go_enter Tryz.func106, Tryz.ntmps106
      go_wp2
      go_ret
      rw [e.out]; exact ⟨rfl, rfl⟩
  · have e : Hid (inB x a b = false) := hide (by simp [inB, h1])
    go_enter Tryz.func106, Tryz.ntmps106
    go_wp2
    go_ret
    rw [e.out]; exact ⟨rfl, rfl⟩
set_option maxRecDepth 20000 in
set_option maxHeartbeats 1000000 in
theorem implIsRootQc_any (r b : Int) (vw : Value) (ws : List ByteArray) (w : World) (hrw : RdS w vw ws) (hlw : ws.length ≤ 4000000) :
    Calls Tryz.prog 108 #[qcV r b vw] w fun e w' => e = .returned (.bool (rootB r b ws)) ∧ Below w.heap.size w w' := by
  obtain ⟨a, c, rfl⟩ := hrw.shape
  clear hrw
  simp only [qcV]
  have HB := hide ((Below.refl _ w).alloc (Nat.le_refl _) (.cells #[.int .i64 r, .int .i64 b, .slice a ws.length c] 25))
  by_cases h1 : r = 0
  · by_cases h2 : b = -1
    · by_cases h3 : ws.length = 0
      · have Hf : Hid (rootB r b ws = true) := hide (by unfold rootB; rw [decide_eq_true h1, decide_eq_true h2, decide_eq_true h3]; rfl)
        have h3i : ((ws.length : Int) == 0) = true := by rw [beq_iff_eq]; omega
        subst h1 h2
        generalize rootB 0 (-1) ws = X at Hf ⊢
        clear h3
        go_enter Tryz.func108, Tryz.ntmps108
        go_wp2
        go_ret
        exact ⟨ret_bool Hf.out.symm, HB.out⟩
      · have Hf : Hid (rootB r b ws = false) := hide (by unfold rootB; rw [decide_eq_false h3, Bool.and_false, Bool.and_false])
        have h3i : ((ws.length : Int) == 0) = false := by rw [beq_eq_false_iff_ne]; omega
        subst h1 h2
        generalize rootB 0 (-1) ws = X at Hf ⊢
        go_enter Tryz.func108, Tryz.ntmps108
        go_wp2
        go_ret
        exact ⟨ret_bool Hf.out.symm, HB.out⟩
    · have Hf : Hid (rootB r b ws = false) := hide (by unfold rootB; rw [decide_eq_false h2, Bool.false_and, Bool.and_false])
      have h2i : (b == -1) = false := by rw [beq_eq_false_iff_ne]; exact h2
      subst h1
      generalize rootB 0 b ws = X at Hf ⊢
      clear h2
      go_enter Tryz.func108, Tryz.ntmps108
      go_wp2
      go_ret
      exact ⟨ret_bool Hf.out.symm, HB.out⟩
  · have Hf : Hid (rootB r b ws = false) := hide (by unfold rootB; rw [decide_eq_false h1, Bool.false_and])
    have h1i : (r == 0) = false := by rw [beq_eq_false_iff_ne]; exact h1
    generalize rootB r b ws = X at Hf ⊢
    clear h1
    go_enter Tryz.func108, Tryz.ntmps108
    go_wp2
    go_ret
    exact ⟨ret_bool Hf.out.symm, HB.out⟩
end Go.Proofs.YtcmmdkabocfnfaaGreatDoor

namespace Go.Proofs.YtcmmdkabocfnfaaGreatDoor
open Go.RowKit
set_option linter.unusedVariables false

/-- The reader in block B is at s, over the bytes l, which lie in blocks older than w0's end. -/
structure Rd9 (w0 W : World) (B : Nat) (v : Value) (l : List UInt8) (s : St) : Prop where
  blk : ∃ p ok, Rdr W B v p ok ∧ s = (if ok = true then some p else none) ∧ 0 ≤ p ∧ p ≤ l.length
  rd : RdB w0 v l
  low : Below w0.heap.size w0 W
  lo : w0.heap.size ≤ B
  few : l.length ≤ 4000000
theorem Rd9.lt {w0 W : World} {B : Nat} {v : Value} {l : List UInt8} {s : St} (h : Rd9 w0 W B v l s) : B < W.heap.size := by
  obtain ⟨p, ok, hk, -⟩ := h.blk
  exact Blk.lt hk
theorem Rd9.oth {w0 W W' : World} {B : Nat} {v : Value} {l : List UInt8} {s : St} {S : Nat → Prop} (h : Rd9 w0 W B v l s) (O : Oth S W W') (hS : ∀ g, S g → g ≠ B ∧ w0.heap.size ≤ g) : Rd9 w0 W' B v l s := by
  obtain ⟨⟨p, ok, hk, h1⟩, h2, h3, h4, h5⟩ := h
  refine ⟨⟨p, ok, (O.block B (Blk.lt hk) (fun e => (hS B e).1 rfl)).trans hk, h1⟩, h2, h3.trans (O.below (fun g e => (hS g e).2) h3.size), h4, h5⟩
theorem Rd9.bel {w0 W W' : World} {B : Nat} {v : Value} {l : List UInt8} {s : St} (h : Rd9 w0 W B v l s) (hb : Below W.heap.size W W') : Rd9 w0 W' B v l s := h.oth (S := fun _ => False) (Oth.of_below hb) (fun _ e => e.elim)
theorem Rd9.al {w0 W : World} {B : Nat} {v : Value} {l : List UInt8} {s : St} (h : Rd9 w0 W B v l s) (o : Obj) : Rd9 w0 (W.alloc o) B v l s := h.bel ((Below.refl _ W).alloc (Nat.le_refl _) o)
theorem Rd9.set {w0 W : World} {B : Nat} {v : Value} {l : List UInt8} {s : St} (h : Rd9 w0 W B v l s) {g : Nat} (hg : g ≠ B) (hl : w0.heap.size ≤ g) (j : Nat) (u : Value) : Rd9 w0 (W.setCell ⟨g, j, none⟩ u) B v l s :=
  h.oth (S := fun k => k = g) (Oth.of_grown (grown_set W g j u) (fun k e => by cases e; rfl)) (fun k e => by subst e; exact ⟨hg, hl⟩)
theorem low_of {w0 W W' : World} {B : Nat} (h : Below w0.heap.size w0 W) (hl : w0.heap.size ≤ B) (O : Oth (fun g => g = B) W W') : Below w0.heap.size w0 W' :=
  h.trans (O.below (fun g e => by subst e; exact hl) h.size)
theorem rdNum_any {w0 W : World} {B : Nat} {v : Value} {l : List UInt8} {s : St} (h : Rd9 w0 W B v l s) :
    Calls Tryz.prog 121 #[.pointer (some ⟨B, 0, none⟩)] W fun e W' => e = .returned (.int .i64 (rN l s)) ∧ Rd9 w0 W' B v l (sN l s) ∧ Oth (fun g => g = B) W W' := by
  obtain ⟨⟨p, ok, hk, hs, h0, h1⟩, h2, h3, h4, h5⟩ := h
  refine (readNum_any v l p ok B W (h2.below h3 (Nat.le_refl _)) hk h5 (by omega) (by omega)).mono ?_
  rintro e W' ⟨rfl, hk', hg⟩
  have O : Oth (fun g => g = B) W W' := Oth.of_grown hg (fun k e => by cases e; rfl)
  have hbd := (getN_bd l p).2.2
  subst hs
  cases ok
  · exact ⟨rfl, ⟨⟨_, _, hk', rfl, h0, h1⟩, h2, low_of h3 h4 O, h4, h5⟩, O⟩
  · refine ⟨rfl, ⟨⟨_, _, hk', ?_, hbd.1, hbd.2⟩, h2, low_of h3 h4 O, h4, h5⟩, O⟩
    show (if (getN l p).2.2 = true then some (getN l p).2.1 else none) = _
    cases (getN l p).2.2 <;> rfl
theorem rdText_any {w0 W : World} {B : Nat} {v : Value} {l : List UInt8} {s : St} (h : Rd9 w0 W B v l s) :
    Calls Tryz.prog 122 #[.pointer (some ⟨B, 0, none⟩)] W fun e W' => e = .returned (.string (rT l s)) ∧ Rd9 w0 W' B v l (sT l s) ∧ Oth (fun g => g = B) W W' := by
  obtain ⟨⟨p, ok, hk, hs, h0, h1⟩, h2, h3, h4, h5⟩ := h
  refine (readText_any v l p ok B W (h2.below h3 (Nat.le_refl _)) hk h5 (by omega) (by omega)).mono ?_
  rintro e W' ⟨rfl, hk', hg⟩
  have O : Oth (fun g => g = B) W W' := Oth.of_grown hg (fun k e => by cases e; rfl)
  have hbd := getT_bd l p
  subst hs
  cases ok
  · exact ⟨rfl, ⟨⟨_, _, hk', rfl, h0, h1⟩, h2, low_of h3 h4 O, h4, h5⟩, O⟩
  · refine ⟨rfl, ⟨⟨_, _, hk', ?_, hbd.1, hbd.2⟩, h2, low_of h3 h4 O, h4, h5⟩, O⟩
    show (if (getT l p).2.2 = true then some (getT l p).2.1 else none) = _
    cases (getT l p).2.2 <;> rfl
theorem nil_ownS (base : Nat) (w : World) : OwnS base w (.slice none 0 0) [] := ⟨rfl, .inl ⟨rfl, rfl⟩⟩
theorem getNs_bd (l : List UInt8) (p : Int) : 0 ≤ (getNs l p).2.1 ∧ (getNs l p).2.1 ≤ l.length := by
  have hL : ∀ (n : Nat) (q : Int) (acc : List ByteArray) (a : List ByteArray) (x : Int), 0 ≤ q → q ≤ l.length → getL n l q acc = some (a, x) → 0 ≤ x ∧ x ≤ l.length := by
    intro n
    induction n with
    | zero => intro q acc a x h0 h1 h; simp only [getL, Option.some.injEq, Prod.mk.injEq] at h; omega
    | succ n ih =>
      intro q acc a x h0 h1 h
      unfold getL at h
      split at h
      · have := getT_bd l q
        exact ih _ _ _ _ this.1 this.2 h
      · cases h
  have hb := (getN_bd l p).2.2
  unfold getNs
  split
  · split
    · simp
    · rename_i a q hq
      exact hL _ _ _ _ _ hb.1 hb.2 hq
  · simp
theorem getX_bd (l : List UInt8) (p : Int) : 0 ≤ (getX l p).2.1 ∧ (getX l p).2.1 ≤ l.length := by
  unfold getX
  split
  · split
    · exact (getN_bd l _).2.2
    · simp
  · simp
set_option maxRecDepth 20000 in
set_option maxHeartbeats 1000000 in
theorem rdNames_any {w0 W : World} {B : Nat} {v : Value} {l : List UInt8} {s : St} (h : Rd9 w0 W B v l s) :
    Calls Tryz.prog 142 #[.pointer (some ⟨B, 0, none⟩)] W fun e W' => ∃ v', e = .returned v' ∧ OwnS W.heap.size W' v' (rS l s) ∧ Rd9 w0 W' B v l (sS l s) ∧ Oth (fun g => g = B) W W' := by
  have h' := h
  have hBl := h.lt
  obtain ⟨⟨p, ok, hk, hs, h0, h1⟩, h2, h3, h4, h5⟩ := h'
  obtain ⟨a, cap, rfl⟩ := h2.shape
  have c0 := hk.cell 0
  have c1 := hk.cell 1
  have c2 := hk.cell 2
  simp only [List.getElem?_cons_zero, List.getElem?_cons_succ] at c0 c1 c2
  subst hs
  cases ok
  · have H := hide h
    clear h h2 h3 hk
    go_enter Tryz.func142, Tryz.ntmps142
    go_wp2
    go_ret
    exact ⟨_, rfl, nil_ownS _ _, H.out, Oth.refl _ _⟩
  · have hbd := getNs_bd l p
    have HC := hide (fun V (hV : Below W.heap.size W V) => implGetNames_any (.slice a l.length cap) l p V (h2.below (h3.trans (hV.mono h3.size)) (Nat.le_refl _)) h5 (by omega) (by omega))
    have HS : Hid (∀ V, Below W.heap.size W V → V.cell? ⟨B, 0, none⟩ = some (.slice a l.length cap) ∧ V.cell? ⟨B, 1, none⟩ = some (.int .i64 p)) := hide (fun V hV => ⟨(hV.cell (p := ⟨B, 0, none⟩) hBl).trans c0, (hV.cell (p := ⟨B, 1, none⟩) hBl).trans c1⟩)
    have HF : Hid (rS l (some p) = (getNs l p).1 ∧ sS l (some p) = if (getNs l p).2.2 = true then some (getNs l p).2.1 else none) := hide ⟨rfl, rfl⟩
    have e0 : (if true = true then some p else none) = some p := rfl
    rw [e0]
    generalize rS l (some p) = R at HF ⊢
    generalize sS l (some p) = T at HF ⊢
    generalize getNs l p = G at HC HF hbd
    obtain ⟨ns, q, o⟩ := G
    simp only at HC HF hbd
    have bD : Below W.heap.size W W.drew := (Below.refl _ W).drew
    have HK := hide hk
    have H2 := hide h2
    have H3 := hide h3
    clear h h2 h3 hk
    go_enter Tryz.func142, Tryz.ntmps142
    go_wp2
    clear c0 c1 c2
    go_region_held_law (fun w' => w'.cell? ⟨B, 0, none⟩ = some (.slice a l.length cap) ∧ w'.cell? ⟨B, 1, none⟩ = some (.int .i64 p)) ((refine HS.out _ ?_; repeat (first | with_reducible exact bD | with_reducible exact c2 | with_reducible exact Below.refl _ _ | refine Below.drew ?_)))
      ((go_at_call 153; (with_reducible refine (HC.out _ bD).mono ?_); rintro e w2 ⟨v2, rfl, ho2, hb2⟩; have c2 := bD.trans (hb2.mono bD.size)))
    have k2 : Rdr w2 B (.slice a l.length cap) p true := HK.out.below c2 hBl
    have x1 := k2.cell 1
    have x2 := k2.cell 2
    have f1 := k2.frozen 1
    have f2 := k2.frozen 2
    simp only [List.getElem?_cons_zero, List.getElem?_cons_succ] at x1 x2
    obtain ⟨a2, c2', rfl⟩ := ho2.rd.shape
    have hk3 := blk_two5 k2 (.int .i64 q) (.bool o)
    have HR : Hid (Rd9 w0 ((w2.setCell ⟨B, 1, none⟩ (.int .i64 q)).setCell ⟨B, 2, none⟩ (.bool o)) B (.slice a l.length cap) l T) := hide (by
      have O : Oth (fun g => g = B) W ((w2.setCell ⟨B, 1, none⟩ (.int .i64 q)).setCell ⟨B, 2, none⟩ (.bool o)) := ((Oth.of_below c2).set (S := fun g => g = B) rfl 1 _).set rfl 2 _
      refine ⟨⟨q, o, hk3, ?_, hbd.1, hbd.2⟩, H2.out, low_of H3.out h4 O, h4, h5⟩
      rw [HF.out.2])
    have HO : Hid (Oth (fun g => g = B) W ((w2.setCell ⟨B, 1, none⟩ (.int .i64 q)).setCell ⟨B, 2, none⟩ (.bool o))) := hide (((Oth.of_below c2).set (S := fun g => g = B) rfl 1 _).set rfl 2 _)
    have hdl : W.drew.heap.size = W.heap.size := rfl
    have HN : Hid (OwnS W.heap.size ((w2.setCell ⟨B, 1, none⟩ (.int .i64 q)).setCell ⟨B, 2, none⟩ (.bool o)) (.slice a2 ns.length c2') R) := hide (by
      rw [HF.out.1]
      exact (OwnS.olderC ho2 (by rw [hdl]; exact hBl) 1 _).olderC (by rw [hdl]; exact hBl) 2 _)
    clear k2 hk3 ho2 hb2 c2
    go_wp2
    go_ret
    exact ⟨_, rfl, HN.out, HR.out, HO.out⟩
set_option maxRecDepth 20000 in
set_option maxHeartbeats 1000000 in
theorem rdCount_any {w0 W : World} {B : Nat} {v : Value} {l : List UInt8} {s : St} (m : Int) (h : Rd9 w0 W B v l s) :
    Calls Tryz.prog 143 #[.pointer (some ⟨B, 0, none⟩), .int .i64 m] W fun e W' => e = .returned (.int .i64 (cI l m s)) ∧ Rd9 w0 W' B v l (sC l m s) ∧ Oth (fun g => g = B) W W' := by
  have HN := hide (rdNum_any h)
  have HF : Hid (cI l m s = (if inB (rN l s) 0 m = true then rN l s else 0) ∧ sC l m s = if inB (rN l s) 0 m = true then sN l s else none) := hide ⟨rfl, rfl⟩
  generalize cI l m s = X at HF ⊢
  generalize sC l m s = Y at HF ⊢
  generalize rN l s = n at HF HN
  generalize sN l s = T at HF HN
  clear h
  cases hx : inB n 0 m
  · rw [hx, if_neg (by simp), if_neg (by simp)] at HF
    have HI := hide (fun V => implWithinC_any n 0 m V)
    rw [hx] at HI
    clear hx
    go_enter Tryz.func143, Tryz.ntmps143
    go_wp2_with fail
    refine HN.out.mono ?_
    rintro e w1 ⟨rfl, h1, O1⟩
    obtain ⟨⟨p, ok, hk, hs, h0, h1'⟩, h2, h3, h4, h5⟩ := h1
    have x2 := hk.cell 2
    have f2 := hk.frozen 2
    simp only [List.getElem?_cons_zero, List.getElem?_cons_succ] at x2
    have hk2 : Rdr (w1.setCell ⟨B, 2, none⟩ (.bool false)) B v p false := hk.setC 2 (.bool false)
    have O2 : Oth (fun g => g = B) W (w1.setCell ⟨B, 2, none⟩ (.bool false)) := O1.set rfl 2 _
    have HR : Hid (Rd9 w0 (w1.setCell ⟨B, 2, none⟩ (.bool false)) B v l Y) := hide ⟨⟨p, false, hk2, HF.out.2, h0, h1'⟩, h2, low_of h3 h4 ((Oth.refl (fun g => g = B) w1).set rfl 2 _), h4, h5⟩
    clear hk hs h2 h3 hk2
    go_wp2_with (go_at_call 106; refine (HI.out _).mono ?_; rintro e w4 ⟨rfl, rfl⟩)
    go_ret
    exact ⟨ret_int HF.out.1.symm, HR.out, O2⟩
  · rw [hx, if_pos rfl, if_pos rfl] at HF
    have HI := hide (fun V => implWithinC_any n 0 m V)
    rw [hx] at HI
    clear hx
    go_enter Tryz.func143, Tryz.ntmps143
    go_wp2_with fail
    refine HN.out.mono ?_
    rintro e w1 ⟨rfl, h1, O1⟩
    rw [← HF.out.2] at h1
    go_wp2_with (go_at_call 106; refine (HI.out _).mono ?_; rintro e w4 ⟨rfl, rfl⟩)
    go_ret
    exact ⟨ret_int HF.out.1.symm, h1, O1⟩
end Go.Proofs.YtcmmdkabocfnfaaGreatDoor
