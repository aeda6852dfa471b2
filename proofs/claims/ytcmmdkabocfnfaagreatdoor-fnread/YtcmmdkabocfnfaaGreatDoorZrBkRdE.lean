/- The landed code's reader: orders, and those who vote next. The landed code's reader: a certificate of leavings. -/
import Derived.Test.YtcmmdkabocfnfaaGreatDoorZrBkRdC
import Derived.Test.YtcmmdkabocfnfaaGreatDoorZrDrawVs
import Derived.Test.YtcmmdkabocfnfaaGreatDoorZrVsQuo
import Derived.Maps.AppendAt
import Derived.Deep.RegionLaw
namespace Go.Proofs.YtcmmdkabocfnfaaGreatDoor
open Go.RowKit
set_option linter.unusedVariables false

theorem app_ownT9 {ops : Array Oper} {rest : List Oper} {o : Oper} {a : Act} {Q : Exit → Act → World → Prop} (w : World) (hgd : o.guard = none) (s x : Operand)
    (ho : o.op = .call { callee := .builtin .append, args := #[s, x], argTypes := #[29, 29] })
    (base : Nat) (v : Value) (B : Nat) (l : List Tx5) (t : Tx5) (hs : a.eval s = v) (hx : a.eval x = .slice (some ⟨B, 0, none⟩) 1 1) (hown : OwnT base w v l) (hblk : Blk w B 52 (txC t))
    (hlen : l.length ≤ 100000000) (hbase : base ≤ w.heap.size)
    (h : ∀ v' w', OwnT base w' v' (l ++ [t]) → w.grownBy w' v.ownBlock → wpList Tryz.prog ops Q rest (a.put o.dst v') w') : wpList Tryz.prog ops Q (o :: rest) a w := by
  obtain ⟨i0, hi, hz0, hz1, hz2⟩ := info_parts Tryz.infoTx
  refine wpList_append_own_at w hgd s x 29 ho base 52 i0 _ 5 56 Tryz.underlying29 hi hz0 hz1 hz2 rfl (by decide) v l.length (l.map txC).flatten hs hown ⟨B, 0, none⟩ 1 1 (txC t) hx rfl ?_ ?_ (by unfold maxLen; omega) (by omega) hbase ?_
  · intro j u hj
    rw [add_flatR, Nat.zero_add, hblk.cell j]
    exact hj
  · intro u hu
    simp only [txC, List.mem_cons, List.not_mem_nil, or_false] at hu
    rcases hu with rfl | rfl | rfl | rfl | rfl <;> rfl
  · intro v' w' ho' hg _ hl
    exact h v' w' (by unfold OwnT; rw [List.length_append, List.map_append, List.flatten_append]; simpa using ho') hg
theorem cI_nat (l : List UInt8) (m : Int) (s : St) : ∃ k : Nat, cI l m s = (k : Int) := by
  unfold cI inB
  split
  · rename_i h
    simp only [decide_eq_true_eq] at h
    exact ⟨(rN l s).toNat, by omega⟩
  · exact ⟨0, rfl⟩
theorem cI_le (l : List UInt8) (m : Int) (s : St) (hm : 0 ≤ m) : cI l m s ≤ m := by
  unfold cI inB
  split
  · rename_i h
    simp only [decide_eq_true_eq] at h
    exact h.2
  · exact hm
set_option maxRecDepth 20000 in
set_option maxHeartbeats 2000000 in
theorem rdTxs_any {w0 W : World} {B : Nat} {v : Value} {l : List UInt8} {s : St} (h : Rd9 w0 W B v l s) :
    Calls Tryz.prog 125 #[.pointer (some ⟨B, 0, none⟩)] W fun e W' => ∃ v', e = .returned v' ∧ OwnT W.heap.size W' v' (rL (rX l) (sX l) (cI l 4 s).toNat (sC l 4 s)) ∧ Rd9 w0 W' B v l (sL (sX l) (cI l 4 s).toNat (sC l 4 s)) ∧ Oth (fun g => g = B) W W' := by
  have hBl := h.lt
  have hlo := h.lo
  have HC := hide (rdCount_any 4 h)
  have HX := fun (V : World) (t : St) (hV : Rd9 w0 V B v l t) => rdTx_any hV
  obtain ⟨m, hm⟩ := cI_nat l 4 s
  have hm4 := cI_le l 4 s (by omega)
  rw [hm] at HC hm4 ⊢
  rw [Int.toNat_natCast]
  generalize sC l 4 s = s1 at HC ⊢
  clear h hm
  go_enter Tryz.func125, Tryz.ntmps125
  go_wp2_with (go_at_call 143; refine HC.out.mono ?_; rintro e w1 ⟨rfl, h1, O1⟩)
  go_loopw [3, 6] (fun bv iv wr => ∃ k : Nat, k ≤ m ∧ iv = .int .i64 (k : Int) ∧ OwnT W.heap.size wr bv (rL (rX l) (sX l) k s1) ∧ Rd9 w0 wr B v l (sL (sX l) k s1) ∧ Oth (fun g => g = B ∨ W.heap.size ≤ g) W wr) (fun _ iv _ => m - (intOf iv).toNat)
  case atStart => exact ⟨0, Nat.zero_le _, rfl, nil_ownT _ _, h1, O1.wide⟩
  case round =>
    obtain ⟨k, hk, rfl, ho, hr, hO⟩ := hrel
    clear h1 O1 HC
    by_cases hlt : k < m
    · have hli : (k : Int) < (m : Int) := by omega
      have Hnx : Hid (rL (rX l) (sX l) (k + 1) s1 = rL (rX l) (sX l) k s1 ++ [rX l (sL (sX l) k s1)] ∧ sL (sX l) (k + 1) s1 = sX l (sL (sX l) k s1)) := hide ⟨rfl, rfl⟩
      have Hlen := hide (rL_len (rX l) (sX l) s1 k)
      have HT := hide (HX wr _ hr)
      have hz := hO.size
      obtain ⟨a5, c5, hv5⟩ := ho.rd.shape
      subst hv5
      generalize rL (rX l) (sX l) k s1 = L at ho Hnx Hlen
      generalize sL (sX l) k s1 = T at hr Hnx HT
      generalize rX l T = t at Hnx HT
      obtain ⟨kd, fr, tt, am, no⟩ := t
      simp only [txV] at HT
      have Ho := hide ho
      have HO := hide hO
      clear ho hr hO
      go_wp2_with fail
      refine HT.out.mono ?_
      rintro e w2 ⟨rfl, h2, O2⟩
      have hz2 := O2.size
      have ho2 : OwnT W.heap.size w2 (.slice a5 L.length c5) L := row_oth Ho.out O2 (fun g hg e => by have := (World.ownsRow.lt Ho.out g hg).1; omega)
      have hoA : OwnT W.heap.size (w2.alloc (.cells #[.int .i64 kd, .string fr, .string tt, .int .i64 am, .int .i64 no] 52)) (.slice a5 L.length c5) L := row_oth (S := fun _ => False) ho2 (Oth.of_below ((Below.refl _ w2).alloc (Nat.le_refl _) _)) (fun _ _ e => e)
      have HoA := hide hoA
      have HA := hide ((HO.out.trans O2.wide).trans (Oth.of_below (S := fun g => g = B ∨ W.heap.size ≤ g) ((Below.refl _ w2).alloc (Nat.le_refl _) (.cells #[.int .i64 kd, .string fr, .string tt, .int .i64 am, .int .i64 no] 52))))
      have HR := hide (h2.al (.cells #[.int .i64 kd, .string fr, .string tt, .int .i64 am, .int .i64 no] 52))
      clear ho2 hoA h2 O2
      go_wp2_with (at_builtin; refine app_ownT9 _ rfl _ _ rfl W.heap.size _ w2.heap.size L (kd, fr, tt, am, no) rfl rfl HoA.out (Blk.newR w2 _ [.int .i64 kd, .string fr, .string tt, .int .i64 am, .int .i64 no] _ rfl) (by have := Hlen.out; omega) (by simp; omega) ?_; intro v4 w4 ho4 hg4)
      have HA4 := hide (HA.out.trans (Oth.of_grown (S := fun g => g = B ∨ W.heap.size ≤ g) hg4 (fun g e => .inr (World.ownsRow.lt HoA.out g e).1)))
      have HR4 := hide (HR.out.oth (S := fun g => W.heap.size ≤ g) (Oth.of_grown hg4 (fun g e => (World.ownsRow.lt HoA.out g e).1)) (fun g e => ⟨by omega, by omega⟩))
      have Ho4 := hide ho4
      clear ho4 hg4 HA HR HoA
      try go_wp2
      go_roundw
      case rel => exact ⟨k + 1, by omega, by go_num, by rw [Hnx.out.1]; exact Ho4.out, by rw [Hnx.out.2]; exact HR4.out, HA4.out⟩
      case measure => simp [intOf]; omega
    · have e : k = m := by omega
      rw [e] at ho hr
      have HO := hide hO.tight
      clear e hO
      go_wp2
      go_ret
      exact ⟨_, rfl, ho, hr, HO.out⟩
set_option maxRecDepth 20000 in
set_option maxHeartbeats 2000000 in
theorem rdNext_any {w0 W : World} {B : Nat} {v : Value} {l : List UInt8} {s : St} (h : Rd9 w0 W B v l s) :
    Calls Tryz.prog 126 #[.pointer (some ⟨B, 0, none⟩)] W fun e W' => ∃ v', e = .returned v' ∧ OwnV W.heap.size W' v' (rL (rV l) (sV l) (cI l 12 s).toNat (sC l 12 s)) ∧ Rd9 w0 W' B v l (sL (sV l) (cI l 12 s).toNat (sC l 12 s)) ∧ Oth (fun g => g = B) W W' := by
  have hBl := h.lt
  have hlo := h.lo
  have HC := hide (rdCount_any 12 h)
  have HX := fun (V : World) (t : St) (hV : Rd9 w0 V B v l t) => rdText_any hV
  have HN := fun (V : World) (t : St) (hV : Rd9 w0 V B v l t) => rdNum_any hV
  obtain ⟨m, hm⟩ := cI_nat l 12 s
  have hm4 := cI_le l 12 s (by omega)
  rw [hm] at HC hm4 ⊢
  rw [Int.toNat_natCast]
  generalize sC l 12 s = s1 at HC ⊢
  clear h hm
  go_enter Tryz.func126, Tryz.ntmps126
  go_wp2_with (go_at_call 143; refine HC.out.mono ?_; rintro e w1 ⟨rfl, h1, O1⟩)
  go_loopw [3, 7] (fun bv iv wr => ∃ k : Nat, k ≤ m ∧ iv = .int .i64 (k : Int) ∧ OwnV W.heap.size wr bv (rL (rV l) (sV l) k s1) ∧ Rd9 w0 wr B v l (sL (sV l) k s1) ∧ Oth (fun g => g = B ∨ W.heap.size ≤ g) W wr) (fun _ iv _ => m - (intOf iv).toNat)
  case atStart => exact ⟨0, Nat.zero_le _, rfl, nil_ownV _ _, h1, O1.wide⟩
  case round =>
    obtain ⟨k, hk, rfl, ho, hr, hO⟩ := hrel
    clear h1 O1 HC
    by_cases hlt : k < m
    · have hli : (k : Int) < (m : Int) := by omega
      have Hnx : Hid (rL (rV l) (sV l) (k + 1) s1 = rL (rV l) (sV l) k s1 ++ [(rT l (sL (sV l) k s1), rN l (sT l (sL (sV l) k s1)))] ∧ sL (sV l) (k + 1) s1 = sN l (sT l (sL (sV l) k s1))) := hide ⟨rfl, rfl⟩
      have Hlen := hide (rL_len (rV l) (sV l) s1 k)
      have HT := hide (HX wr _ hr)
      have hz := hO.size
      obtain ⟨a5, c5, hv5⟩ := ho.rd.shape
      subst hv5
      generalize rL (rV l) (sV l) k s1 = L at ho Hnx Hlen
      generalize sL (sV l) k s1 = T at hr Hnx HT
      have Ho := hide ho
      have HO := hide hO
      clear ho hr hO
      go_wp2_with fail
      refine HT.out.mono ?_
      rintro e w2 ⟨rfl, h2, O2⟩
      have hz2 := O2.size
      have ho2 : OwnV W.heap.size w2 (.slice a5 L.length c5) L := row_oth Ho.out O2 (fun g hg e => by have := (World.ownsRow.lt Ho.out g hg).1; omega)
      have HN2 := hide (HN w2 _ h2)
      have HO2 := hide (HO.out.trans O2.wide)
      clear h2 O2 HT
      go_wp2_with fail
      refine HN2.out.mono ?_
      rintro e w3 ⟨rfl, h3, O3⟩
      have hz3 := O3.size
      have ho3 : OwnV W.heap.size w3 (.slice a5 L.length c5) L := row_oth ho2 O3 (fun g hg e => by have := (World.ownsRow.lt ho2 g hg).1; omega)
      generalize rT l T = nm at *
      generalize rN l (sT l T) = wt at *
      have hoA : OwnV W.heap.size (w3.alloc (.cells #[.string nm, .int .i64 wt] 56)) (.slice a5 L.length c5) L := ho3.alloc _
      have HoA := hide hoA
      have HA := hide ((HO2.out.trans O3.wide).trans (Oth.of_below (S := fun g => g = B ∨ W.heap.size ≤ g) ((Below.refl _ w3).alloc (Nat.le_refl _) (.cells #[.string nm, .int .i64 wt] 56))))
      have HR := hide (h3.al (.cells #[.string nm, .int .i64 wt] 56))
      clear ho2 ho3 hoA h3 O3
      go_wp2_with (at_builtin; refine app_ownV _ rfl _ _ rfl W.heap.size _ _ L [(nm, wt)] rfl rfl HoA.out (rd_one_v w3 _ nm wt rfl) (by have := Hlen.out; simp; omega) (by simp; omega) ?_; intro v4 w4 ho4 hg4 hb4)
      have HA4 := hide (HA.out.trans (Oth.of_grown (S := fun g => g = B ∨ W.heap.size ≤ g) hg4 (fun g e => .inr (World.ownsRow.lt HoA.out g e).1)))
      have HR4 := hide (HR.out.oth (S := fun g => W.heap.size ≤ g) (Oth.of_grown hg4 (fun g e => (World.ownsRow.lt HoA.out g e).1)) (fun g e => ⟨by omega, by omega⟩))
      have Ho4 := hide ho4
      clear ho4 hg4 hb4 HA HR HoA
      try go_wp2
      go_roundw
      case rel => exact ⟨k + 1, by omega, by go_num, by rw [Hnx.out.1]; exact Ho4.out, by rw [Hnx.out.2]; exact HR4.out, HA4.out⟩
      case measure => simp [intOf]; omega
    · have e : k = m := by omega
      rw [e] at ho hr
      have HO := hide hO.tight
      clear e hO
      go_wp2
      go_ret
      exact ⟨_, rfl, ho, hr, HO.out⟩
end Go.Proofs.YtcmmdkabocfnfaaGreatDoor

namespace Go.Proofs.YtcmmdkabocfnfaaGreatDoor
open Go.RowKit
set_option linter.unusedVariables false

theorem step_appI9 {ops : Array Oper} {o : Oper} {a : Act} {w : World} {K : Act → World → Prop} {Q : Exit → Act → World → Prop} {E : Prop} (hgd : o.guard = none) (s x : Operand)
    (ho : o.op = .call { callee := .builtin .append, args := #[s, x], argTypes := #[26, 26] })
    (base : Nat) (v : Value) (B : Nat) (l : List Int) (p : Int) (hs : a.eval s = v) (hx : a.eval x = .slice (some ⟨B, 0, none⟩) 1 1) (hown : OwnI base w v l) (hblk : Blk w B 3 [.int .i64 p])
    (hlen : l.length ≤ 100000000) (hbase : base ≤ w.heap.size)
    (h : ∀ v' w', OwnI base w' v' (l ++ [p]) → w.grownBy w' v.ownBlock → K (a.put o.dst v') w') : if Region.wanted o (yielded ops a.tmps) = true then Oper.wp Tryz.prog o a w K Q else E := by
  have hw : Region.wanted o (yielded ops a.tmps) = true := by simp [Region.wanted, hgd]
  rw [if_pos hw]
  obtain ⟨i0, hi, hz0, hz1, hz2⟩ := info_parts Tryz.infoI
  obtain ⟨v', w', hr, h2, h3, h4, h5⟩ := run_append_own_at (P := Tryz.prog) w base 26 o.type 3 i0 (.int .i64 0) 1 8 Tryz.underlying26 hi hz0 hz1 hz2 rfl (by decide) v l.length (l.map (Value.int .i64)) hown ⟨B, 0, none⟩ 1 1 [.int .i64 p] rfl (fun j u hj => by rw [add_flatR, Nat.zero_add, hblk.cell j]; exact hj) (fun u hu => by
    simp only [List.mem_cons, List.not_mem_nil, or_false] at hu
    subst hu; rfl) (by unfold maxLen; omega) (by omega) hbase
  unfold Oper.wp execOp
  simp only [ho, resolve, invoke, builtin, Sem.run_bind, Sem.run_pure, Result.andThen_ok, List.map_toArray, List.map_cons, List.map_nil, hs, hx, hr]
  exact h v' w' (by unfold OwnI; rw [List.length_append, List.map_append]; simpa using h2) h3
set_option maxRecDepth 20000 in
set_option maxHeartbeats 4000000 in
theorem rdTc_any {w0 W : World} {B : Nat} {v : Value} {l : List UInt8} {s : St} (h : Rd9 w0 W B v l s) :
    Calls Tryz.prog 124 #[.pointer (some ⟨B, 0, none⟩)] W fun e W' => ∃ v' u', e = .returned (tcV (rN l s) v' u') ∧ OwnS W.heap.size W' v' (rS l (sN l s)) ∧ OwnI W.heap.size W' u' (rL (rN l) (sN l) (rS l (sN l s)).length (sS l (sN l s))) ∧ Rd9 w0 W' B v l (sL (sN l) (rS l (sN l s)).length (sS l (sN l s))) ∧ Oth (fun g => g = B) W W' := by
  have hBl := h.lt
  have hlo := h.lo
  have HN := fun (V : World) (t : St) (hV : Rd9 w0 V B v l t) => rdNum_any hV
  have HS := fun (V : World) (t : St) (hV : Rd9 w0 V B v l t) => rdNames_any hV
  have hl20 := h.few
  obtain ⟨w2, hw2⟩ : ∃ x, (W.alloc (.cells #[.int .i64 0, .slice none 0 0, .slice none 0 0] 28)).alloc (.cells #[.int .i64 0, .slice none 0 0, .slice none 0 0] 28) = x := ⟨_, rfl⟩
  have b2 : Below W.heap.size W w2 := by rw [← hw2]; exact ((Below.refl _ W).alloc (Nat.le_refl _) _).alloc (by simp) _
  have s2 : w2.heap.size = W.heap.size + 2 := by rw [← hw2]; simp
  have mR : Blk w2 W.heap.size 28 [.int .i64 0, .slice none 0 0, .slice none 0 0] := by
    rw [← hw2]
    exact (Blk.new W 28 [.int .i64 0, .slice none 0 0, .slice none 0 0]).below ((Below.refl (W.heap.size + 1) _).alloc (by simp) _) (by omega)
  have mQ : Blk w2 (W.heap.size + 1) 28 [.int .i64 0, .slice none 0 0, .slice none 0 0] := by
    rw [← hw2]
    have h := Blk.new (W.alloc (.cells #[.int .i64 0, .slice none 0 0, .slice none 0 0] 28)) 28 [.int .i64 0, .slice none 0 0, .slice none 0 0]
    simp only [World.size_alloc] at h
    exact h
  have h2 := h.bel b2
  have O2 : Oth (fun g => g = B ∨ W.heap.size ≤ g) W w2 := Oth.of_below b2
  have hlen : (rS l (sN l s)).length ≤ 4000000 := by
    cases hq : sN l s with
    | none => simp [rS]
    | some p => have := getNs_len l p; simp only [rS]; omega
  obtain ⟨NS, hNS⟩ : ∃ x, rS l (sN l s) = x := ⟨_, rfl⟩
  obtain ⟨s1, hs1⟩ : ∃ x, sS l (sN l s) = x := ⟨_, rfl⟩
  obtain ⟨N1, hN1⟩ : ∃ x, rN l s = x := ⟨_, rfl⟩
  have C1 := HN w2 s h2
  rw [hN1] at C1
  rw [hNS] at hlen
  rw [hNS, hs1, hN1]
  clear h b2
  go_enter Tryz.func124, Tryz.ntmps124
  go_wp2_with fail
  refine C1.mono ?_
  rintro e w3 ⟨rfl, h3, O3⟩
  have mR3 := mR.oth O3 (by omega)
  have mQ3 := mQ.oth O3 (by omega)
  have O3' := O2.trans O3.wide
  have q0 := mQ3.cell 0
  have f0 := mQ3.frozen 0
  simp only [List.getElem?_cons_zero] at q0
  have h4 := h3.set (g := W.heap.size + 1) (by omega) (by omega) 0 (.int .i64 N1)
  have mR4 := mR3.otherC (W.heap.size + 1) 0 (.int .i64 N1) (by omega)
  have mQ4 := mQ3.setC 0 (.int .i64 N1)
  have O4 := O3'.set (g := W.heap.size + 1) (.inr (by omega)) 0 (.int .i64 N1)
  simp only [List.set_cons_zero] at mQ4
  clear hw2 mR mQ h2 O2 h3 O3 mR3 mQ3 O3' s2
  go_wp2_with fail
  obtain ⟨w4, hw4⟩ : ∃ x, w3.setCell ⟨W.heap.size + 1, 0, none⟩ (.int .i64 N1) = x := ⟨_, rfl⟩
  rw [hw4] at h4 mR4 mQ4 O4 ⊢
  have z4 := mQ4.lt
  have C2 := HS w4 _ h4
  rw [hNS, hs1] at C2
  refine C2.mono ?_
  rintro e w5 ⟨v5, rfl, o5, h5, O5⟩
  obtain ⟨a5, c5, rfl⟩ := o5.rd.shape
  have mR5 := mR4.oth O5 (by omega)
  have mQ5 := mQ4.oth O5 (by omega)
  have O5' := O4.trans O5.wide
  have q1 := mQ5.cell 1
  have f1 := mQ5.frozen 1
  simp only [List.getElem?_cons_zero, List.getElem?_cons_succ] at q1
  have h6 := h5.set (g := W.heap.size + 1) (by omega) (by omega) 1 (.slice a5 NS.length c5)
  have mR6 := mR5.otherC (W.heap.size + 1) 1 (.slice a5 NS.length c5) (by omega)
  have mQ6 := mQ5.setC 1 (.slice a5 NS.length c5)
  have O6 := O5'.set (g := W.heap.size + 1) (.inr (by omega)) 1 (.slice a5 NS.length c5)
  have o6 := o5.olderC (g := W.heap.size + 1) z4 1 (.slice a5 NS.length c5)
  have Hlt5 : Hid (∀ g, (Value.slice a5 NS.length c5).ownBlock = some g → w4.heap.size ≤ g ∧ g < w5.heap.size) := hide (fun g hg => World.ownsRow.lt o5 g hg)
  simp only [List.set_cons_zero, List.set_cons_succ] at mQ6
  obtain ⟨w6, hw6⟩ : ∃ x, w5.setCell ⟨W.heap.size + 1, 1, none⟩ (.slice a5 NS.length c5) = x := ⟨_, rfl⟩
  rw [hw6] at h6 mR6 mQ6 O6 o6
  have z6 : w6.heap.size = w5.heap.size := by rw [← hw6]; simp
  have z45 := O5.size
  have q61 := mQ6.cell 1
  simp only [List.getElem?_cons_zero, List.getElem?_cons_succ] at q61
  obtain ⟨w5s, hw5s⟩ : ∃ n, w5.heap.size = n := ⟨_, rfl⟩
  rw [hw5s] at z6 z45 Hlt5
  clear hw4 C2 mR4 mQ4 h4 O4 h5 O5 mR5 mQ5 O5' q0 f0 o5
  have HO6 := hide O6
  have Ho6 := hide o6
  have Hh6 := hide h6
  have HmQ := hide mQ6
  have HmR := hide mR6
  clear O6 o6 h6 mQ6 mR6
  go_wp2
  clear hw6 q1 f1 q61 hw5s
  have z4' : W.heap.size + 1 < w4.heap.size := z4
  go_loopw [13] (fun iv wr => ∃ (k : Nat) (hv : Value), k ≤ NS.length ∧ iv = .int .i64 (k : Int) ∧ Blk wr (W.heap.size + 1) 28 [.int .i64 N1, .slice a5 NS.length c5, hv] ∧ Blk wr W.heap.size 28 [.int .i64 0, .slice none 0 0, .slice none 0 0] ∧ OwnI w5s wr hv (rL (rN l) (sN l) k s1) ∧ OwnS w4.heap.size wr (.slice a5 NS.length c5) NS ∧ Rd9 w0 wr B v l (sL (sN l) k s1) ∧ Oth (fun g => g = B ∨ W.heap.size ≤ g) W wr ∧ w5s ≤ wr.heap.size) (fun iv _ => NS.length - (intOf iv).toNat)
  case atStart => exact ⟨0, .slice none 0 0, Nat.zero_le _, rfl, HmQ.out, HmR.out, nil_ownI _ _, Ho6.out, Hh6.out, HO6.out, by omega⟩
  case round =>
    obtain ⟨k, hv, hk, rfl, mQ, mR, oH, oS, hr, hO, hz⟩ := hrel
    clear HmQ HmR Ho6 Hh6 HO6
    by_cases hlt : k < NS.length
    · have hli : (k : Int) < (NS.length : Int) := by omega
      have Hnx : Hid (rL (rN l) (sN l) (k + 1) s1 = rL (rN l) (sN l) k s1 ++ [rN l (sL (sN l) k s1)] ∧ sL (sN l) (k + 1) s1 = sN l (sL (sN l) k s1)) := hide ⟨rfl, rfl⟩
      have Hlen := hide (rL_len (rN l) (sN l) s1 k)
      have bD : Below wr.heap.size wr wr.drew := (Below.refl _ wr).drew
      have C3 := hide (HN wr.drew _ (hr.bel bD))
      have x2 : wr.drew.cell? ⟨W.heap.size + 1, 2, none⟩ = some hv := by have := mQ.cell 2; simpa using this
      have hmQ := mQ.lt
      obtain ⟨a8, c8, hv8⟩ := oH.rd.shape
      subst hv8
      generalize rL (rN l) (sN l) k s1 = L at oH Hnx Hlen x2 mQ
      generalize sL (sN l) k s1 = T at hr Hnx C3
      generalize rN l T = p at Hnx C3
      have HmQ := hide (mQ.below bD mQ.lt)
      have HmR := hide (mR.below bD mR.lt)
      have HoH : Hid (OwnI w5s wr.drew (.slice a8 L.length c8) L) := hide (row_oth (S := fun _ => False) oH (Oth.of_below bD) (fun _ _ e => e))
      have HoS : Hid (OwnS w4.heap.size wr.drew (.slice a5 NS.length c5) NS) := hide (row_oth (S := fun _ => False) oS (Oth.of_below bD) (fun _ _ e => e))
      have HO := hide (hO.trans (Oth.of_below (S := fun g => g = B ∨ W.heap.size ≤ g) bD))
      clear mQ mR oH oS hr hO
      go_wp2
      go_region_law (first
        | (refine step_appI9 rfl _ _ rfl w5s (.slice a8 L.length c8) w6.heap.size L p (by rfl) (by rfl) Hoa.out (Blk.newR w6 _ [.int .i64 p] _ rfl) (by have := Hlen.out; omega) (by simp; omega) ?_; intro v7 w7 ho7 hg7; have hsh := ho7.rd.shape; rw [List.length_append, List.length_cons, List.length_nil, Nat.zero_add] at hsh; obtain ⟨a7, c7, hv7⟩ := hsh; subst hv7; have mQ7 := Blk.oth HmQa.out (Oth.of_grown (S := fun g => w5s ≤ g) hg7 (fun g e => (World.ownsRow.lt Hoa.out g e).1)) (by omega); have y2 := mQ7.cell 2; have g2 := mQ7.frozen 2; simp only [List.getElem?_cons_zero, List.getElem?_cons_succ] at y2)
        | (go_simp; go_at_call 121; (with_reducible refine C3.out.mono ?_); rintro e w6 ⟨rfl, h6, O6⟩; have z6 := O6.size; have z6' : wr.heap.size ≤ w6.heap.size := z6; have mQ6 := HmQ.out.oth (W' := w6) O6 (by omega); have o6 : OwnI w5s w6 (.slice a8 L.length c8) L := row_oth HoH.out O6 (fun g hg e => by have := (World.ownsRow.lt HoH.out g hg).1; omega); have Hoa : Hid (OwnI w5s (w6.alloc (.cells #[.int .i64 p] 3)) (.slice a8 L.length c8) L) := hide (row_oth (S := fun _ => False) o6 (Oth.of_below ((Below.refl _ w6).alloc (Nat.le_refl _) (.cells #[.int .i64 p] 3))) (fun _ _ e => e)); have HmQa := hide (mQ6.below ((Below.refl w6.heap.size w6).alloc (Nat.le_refl _) (.cells #[.int .i64 p] 3)) mQ6.lt); have y6 := mQ6.cell 2; have ya := Blk.cell HmQa.out 2; simp only [List.getElem?_cons_zero, List.getElem?_cons_succ] at y6 ya; have H6 := hide h6; have HO6 := hide O6))
      all_goals
        have mR6 := HmR.out.oth (W' := w6) HO6.out (by omega)
        have mRa := mR6.below ((Below.refl w6.heap.size w6).alloc (Nat.le_refl _) (.cells #[.int .i64 p] 3)) mR6.lt
        have mR7 := Blk.oth mRa (Oth.of_grown (S := fun g => w5s ≤ g) hg7 (fun g e => (World.ownsRow.lt Hoa.out g e).1)) (by omega)
        have oS6 : OwnS w4.heap.size w6 (.slice a5 NS.length c5) NS := row_oth HoS.out HO6.out (fun g hg e => by have := (World.ownsRow.lt HoS.out g hg).1; omega)
        have oSa : OwnS w4.heap.size (w6.alloc (.cells #[.int .i64 p] 3)) (.slice a5 NS.length c5) NS := row_oth (S := fun _ => False) oS6 (Oth.of_below ((Below.refl _ w6).alloc (Nat.le_refl _) _)) (fun _ _ e => e)
        have oS7 : OwnS w4.heap.size w7 (.slice a5 NS.length c5) NS := row_oth oSa (Oth.of_grown (S := fun g => w5s ≤ g) hg7 (fun g e => (World.ownsRow.lt Hoa.out g e).1)) (fun g hg e => by have := (Hlt5.out g hg).2; omega)
        have h7 := (H6.out.al (.cells #[.int .i64 p] 3)).oth (S := fun g => w5s ≤ g) (Oth.of_grown hg7 (fun g e => (World.ownsRow.lt Hoa.out g e).1)) (fun g e => ⟨by omega, by omega⟩)
        have O7 := ((HO.out.trans HO6.out.wide).trans (Oth.of_below (S := fun g => g = B ∨ W.heap.size ≤ g) ((Below.refl _ w6).alloc (Nat.le_refl _) (.cells #[.int .i64 p] 3)))).trans (Oth.of_grown (S := fun g => g = B ∨ W.heap.size ≤ g) hg7 (fun g e => .inr (by have := (World.ownsRow.lt Hoa.out g e).1; omega)))
        have z7 := hg7.size
        have Hrel : Hid (∃ (kk : Nat) (hv : Value), kk ≤ NS.length ∧ Value.int .i64 ((k : Int) + 1) = .int .i64 (kk : Int) ∧ Blk (w7.setCell ⟨W.heap.size + 1, 2, none⟩ (.slice a7 (L.length + 1) c7)) (W.heap.size + 1) 28 [.int .i64 N1, .slice a5 NS.length c5, hv] ∧ Blk (w7.setCell ⟨W.heap.size + 1, 2, none⟩ (.slice a7 (L.length + 1) c7)) W.heap.size 28 [.int .i64 0, .slice none 0 0, .slice none 0 0] ∧ OwnI w5s (w7.setCell ⟨W.heap.size + 1, 2, none⟩ (.slice a7 (L.length + 1) c7)) hv (rL (rN l) (sN l) kk s1) ∧ OwnS w4.heap.size (w7.setCell ⟨W.heap.size + 1, 2, none⟩ (.slice a7 (L.length + 1) c7)) (.slice a5 NS.length c5) NS ∧ Rd9 w0 (w7.setCell ⟨W.heap.size + 1, 2, none⟩ (.slice a7 (L.length + 1) c7)) B v l (sL (sN l) kk s1) ∧ Oth (fun g => g = B ∨ W.heap.size ≤ g) W (w7.setCell ⟨W.heap.size + 1, 2, none⟩ (.slice a7 (L.length + 1) c7)) ∧ w5s ≤ (w7.setCell ⟨W.heap.size + 1, 2, none⟩ (.slice a7 (L.length + 1) c7)).heap.size) := hide ⟨k + 1, (.slice a7 (L.length + 1) c7), by omega, by go_num, mQ7.setC 2 (.slice a7 (L.length + 1) c7), mR7.otherC _ 2 (.slice a7 (L.length + 1) c7) (by omega), by rw [Hnx.out.1]; exact ho7.olderC (by omega) 2 (.slice a7 (L.length + 1) c7), oS7.olderC (by omega) 2 (.slice a7 (L.length + 1) c7), by rw [Hnx.out.2]; exact h7.set (by omega) (by omega) 2 (.slice a7 (L.length + 1) c7), O7.set (.inr (by omega)) 2 (.slice a7 (L.length + 1) c7), by simp at z7 ⊢; omega⟩
        clear mR6 mRa mR7 oS6 oSa oS7 h7 O7 z7 mQ7 ho7 hg7
        go_wp2
        go_roundw
        case rel => exact Hrel.out
        case measure => simp [intOf]; omega
    · have e : k = NS.length := by omega
      rw [e] at oH hr
      obtain ⟨a8, c8, hv8⟩ := oH.rd.shape
      rw [rL_len] at hv8
      subst hv8
      have a0 := mQ.cell 0
      have a1 := mQ.cell 1
      have a2 := mQ.cell 2
      have x0 := mR.cell 0
      have x1 := mR.cell 1
      have x2 := mR.cell 2
      have g0 := mR.frozen 0
      have g1 := mR.frozen 1
      have g2 := mR.frozen 2
      simp only [List.getElem?_cons_zero, List.getElem?_cons_succ] at a0 a1 a2 x0 x1 x2
      have HR := hide (((hr.set (g := W.heap.size) (by omega) (by omega) 0 (.int .i64 N1)).set (g := W.heap.size) (by omega) (by omega) 1 (.slice a5 NS.length c5)).set (g := W.heap.size) (by omega) (by omega) 2 (.slice a8 NS.length c8))
      have HO := hide (((hO.set (g := W.heap.size) (.inr (by omega)) 0 (.int .i64 N1)).set (g := W.heap.size) (.inr (by omega)) 1 (.slice a5 NS.length c5)).set (g := W.heap.size) (.inr (by omega)) 2 (.slice a8 NS.length c8)).tight
      have HS1 := hide (OwnS.mono (((oS.olderC (g := W.heap.size) (by omega) 0 (.int .i64 N1)).olderC (g := W.heap.size) (by omega) 1 (.slice a5 NS.length c5)).olderC (g := W.heap.size) (by omega) 2 (.slice a8 NS.length c8)) (show W.heap.size ≤ w4.heap.size by omega))
      have HI1 := hide (OwnI.mono (((oH.olderC (g := W.heap.size) (by omega) 0 (.int .i64 N1)).olderC (g := W.heap.size) (by omega) 1 (.slice a5 NS.length c5)).olderC (g := W.heap.size) (by omega) 2 (.slice a8 NS.length c8)) (show W.heap.size ≤ w5s by omega))
      clear mQ mR oH oS hr hO e
      go_wp2
      refine bodyPost_ret (v := .agg #[.int .i64 N1, .slice a5 NS.length c5, .slice a8 NS.length c8]) (by simp [results, Tryz.f124, go_sem, x0, x1, x2]) rfl ?_
      exact ⟨_, _, rfl, HS1.out, HI1.out, HR.out, HO.out⟩
end Go.Proofs.YtcmmdkabocfnfaaGreatDoor
