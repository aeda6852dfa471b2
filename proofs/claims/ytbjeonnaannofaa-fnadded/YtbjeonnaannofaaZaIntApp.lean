/- Certificates drawn. Numbers appended to a row of the call's own; rows of numbers turned round, and looked through. -/
import Derived.Test.YtbjeonnaannofaaZaDrawBk
import Derived.Test.YtbjeonnaannofaaZaInts
import Derived.Test.YtbjeonnaannofaaZaDrawTx5
import Derived.Laws.AppendOwnNone
import Derived.Maps.AppendAt
namespace Go.Proofs.Ytbjeonnaannofaa
open Go.RowKit
set_option linter.unusedVariables false

theorem rd_two_q (w : World) (n : Nat) (s t : ByteArray) (h : n = w.heap.size) : RdS (w.alloc (.cells #[.string s, .string t] 9)) (.slice (some ⟨n, 0, none⟩) 2 2) [s, t] := by
  subst h
  refine .inr ⟨w.heap.size, 0, 2, by simp, rfl, by simp, by unfold maxLen; omega, by simp, ?_⟩
  intro i hi
  have hb := Blk.new w 9 [.string s, .string t]
  simp only [List.length_cons, List.length_nil] at hi
  rcases (show i = 0 ∨ i = 1 from by omega) with rfl | rfl
  · exact hb.cell 0
  · exact hb.cell 1
set_option maxRecDepth 20000 in
set_option maxHeartbeats 1000000 in
theorem l7Who_any (w0 w : World) (g : Nat) (cv : Value) (code : List UInt8) (hc : Cur w0 w g cv code) (hl : code.length ≤ 1048576) :
    Calls Try.prog 114 #[.pointer (some ⟨g, 0, none⟩)] w fun e w' => ∃ (v' : Value) (ls : List ByteArray), e = .returned v' ∧ OwnS w.heap.size w' v' ls ∧ ls.length ≤ 7 ∧ (∀ s ∈ ls, s.size ≤ 9) ∧ Cur w0 w' g cv code ∧ w.grownBy w' (some g) := by
  have hgl := hc.lt
  go_enter Try.func114, Try.ntmps114
  go_wp2_with fail
  refine (l1Names_any w0 _ g cv code hc hl).mono ?_
  rintro e w1 ⟨v1, ls, rfl, o1, h5, h9, hc1, hg1⟩
  obtain ⟨a1, c1, rfl⟩ := o1.rd.shape
  have hs1 := hg1.size
  clear hc
  go_wp2_with fail
  refine (l1Once_any w0 _ g cv code 5 hc1 hl (by omega) (by omega)).mono ?_
  rintro e w2 ⟨bb, rfl, hc2, hg2⟩
  have HO2 := hide (o1.notg hg2 hgl)
  have HG2 := hide (grw_trans hg1 hg2)
  have hs2 := hg2.size
  have H9 := hide h9
  clear hc1 hg1 hg2 o1 h9
  cases bb
  · have HC2 := hide hc2
    clear hc2
    go_wp2
    go_ret
    exact ⟨_, ls, rfl, HO2.out, by omega, fun s hs => by have := H9.out s hs; omega, HC2.out, HG2.out⟩
  · go_wp2_with fail
    refine (l1NameAny_any w0 _ g cv code hc2 hl).mono ?_
    rintro e w3 ⟨s, rfl, hs9, hc3, hg3⟩
    have HO3 := hide (HO2.out.notg hg3 hgl)
    have HG3 := hide (grw_trans HG2.out hg3)
    have hs3 := hg3.size
    clear hc2 hg3 HO2 HG2
    go_wp2_with fail
    refine (l1Name_any w0 _ g cv code hc3 hl).mono ?_
    rintro e w4 ⟨t, rfl, ht9, hc4, hg4⟩
    have HO4 := hide (HO3.out.notg hg4 hgl)
    have HG4 := hide (grw_trans HG3.out hg4)
    have hs4 := hg4.size
    have HC4 := hide hc4
    clear hc3 hg4 HO3 HG3 hc4
    go_wp2_with (at_builtin; refine app_ownS _ rfl _ _ rfl w.heap.size _ _ ls [s, t] rfl rfl (HO4.out.alloc _) (rd_two_q _ _ _ _ (by simp)) (by simp; omega) (by simp; omega) ?_; intro v5 w5 ho5 hb5)
    have hb5' : Below w.heap.size w4 w5 := ((Below.refl _ _).alloc (by omega) _).trans hb5
    have HC5 := hide (HC4.out.below hb5' hgl)
    have HG5 := hide (grw_below HG4.out hb5' (Nat.le_refl _))
    have HO5 := hide ho5
    clear ho5 hb5 hb5'
    go_ret
    exact ⟨_, ls ++ [s, t], rfl, HO5.out, by simp; omega, fun u hu => by
      rcases List.mem_append.1 hu with h | h
      · have := H9.out u h; omega
      · simp only [List.mem_cons, List.not_mem_nil, or_false] at h
        rcases h with rfl | rfl
        · exact hs9
        · exact ht9, HC5.out, HG5.out⟩
set_option maxRecDepth 20000 in
set_option maxHeartbeats 2000000 in
theorem l8Qc_any (w0 w : World) (g : Nat) (cv : Value) (code : List UInt8) (hc : Cur w0 w g cv code) (hl : code.length ≤ 1048576) :
    Calls Try.prog 60 #[.pointer (some ⟨g, 0, none⟩)] w fun e w' => ∃ (r k : Int) (v' : Value) (ls : List ByteArray), e = .returned (qcV r k v') ∧ ((0 ≤ r ∧ r ≤ 10001) ∧ -1 ≤ k ∧ k ≤ 5) ∧ OwnS w.heap.size w' v' ls ∧ ls.length ≤ 7 ∧ (∀ s ∈ ls, s.size ≤ 9) ∧ Cur w0 w' g cv code ∧ w.grownBy w' (some g) := by
  have hgl := hc.lt
  obtain ⟨w1, hw1⟩ : ∃ w1, w.alloc (.cells #[.int .i64 0, .int .i64 0, .slice none 0 0] 31) = w1 := ⟨_, rfl⟩
  have hb1 : Below w.heap.size w w1 := by rw [← hw1]; exact (Below.refl _ w).alloc (Nat.le_refl _) _
  have hs1 : w1.heap.size = w.heap.size + 1 := by rw [← hw1]; simp
  have K1 : Hid (Blk w1 w.heap.size 31 [.int .i64 0, .int .i64 0, .slice none 0 0]) := hide (by rw [← hw1]; exact Blk.new w _ _)
  have Hc1 := hide (hc.below hb1 hgl)
  have HG1 := hide (grw_of_below (some g) hb1 (Nat.le_refl _))
  clear hc hb1
  go_enter Try.func60, Try.ntmps60
  go_wp2_with fail
  refine (l1Once_any w0 _ g cv code 4 Hc1.out hl (by omega) (by omega)).mono ?_
  rintro e w2 ⟨bb, rfl, hc2, hg2⟩
  have K2 := hide (blk_notg5 K1.out hg2 (by omega))
  have HG2 := hide (grw_trans HG1.out hg2)
  have hs2 := hg2.size
  clear hg2 K1 HG1 Hc1
  cases bb
  · obtain ⟨w3, hw3⟩ : ∃ w3, w2.alloc (.cells #[.int .i64 1, .int .i64 2, .int .i64 3, .int .i64 0, .int .i64 10001] 3) = w3 := ⟨_, rfl⟩
    have b3 : Below w2.heap.size w2 w3 := by rw [← hw3]; exact (Below.refl _ w2).alloc (Nat.le_refl _) _
    have HI3 : Hid (IntsAt w3 w2.heap.size [1, 2, 3, 0, 10001]) := hide (by rw [← hw3]; exact ints_new w2 [1, 2, 3, 0, 10001] 3)
    have hc3 := hc2.below b3 hc2.lt
    have K3 := hide (K2.out.below b3 (by omega))
    have HG3 := hide (grw_trans HG2.out (grw_of_below (some g) b3 (Nat.le_refl _)))
    have hs3 := b3.size
    clear hc2 b3 K2 HG2
    go_wp2_with fail
    refine (l1Int_any w0 _ g w2.heap.size cv code [1, 2, 3, 0, 10001] hc3 hl HI3.out (by omega) (by simp) (by simp) 5).mono ?_
    rintro e w4 ⟨r, rfl, hr, hc4, hg4⟩
    have Hrb : Hid (0 ≤ r ∧ r ≤ 10001) := hide (by simp only [List.mem_cons, List.not_mem_nil, or_false] at hr; omega)
    have K4 := hide (blk_notg5 K3.out hg4 (by omega))
    have HG4 := hide (grw_trans HG3.out hg4)
    have hs4 := hg4.size
    obtain ⟨w5, hw5⟩ : ∃ w5, w4.alloc (.cells #[.int .i64 0, .int .i64 1, .int .i64 5, .int .i64 (-1)] 3) = w5 := ⟨_, rfl⟩
    have b5 : Below w4.heap.size w4 w5 := by rw [← hw5]; exact (Below.refl _ w4).alloc (Nat.le_refl _) _
    have HI5 : Hid (IntsAt w5 w4.heap.size [0, 1, 5, -1]) := hide (by rw [← hw5]; exact ints_new w4 [0, 1, 5, -1] 3)
    have hc5 := hc4.below b5 hc4.lt
    have K5 := hide (K4.out.below b5 (by omega))
    have HG5 := hide (grw_trans HG4.out (grw_of_below (some g) b5 (Nat.le_refl _)))
    have hs5 := b5.size
    clear hc3 hc4 hg4 b5 K3 K4 HG3 HG4 HI3 hw3 hr
    go_wp2_with fail
    refine (l1Int_any w0 _ g w4.heap.size cv code [0, 1, 5, -1] hc5 hl HI5.out (by omega) (by simp) (by simp) 4).mono ?_
    rintro e w6 ⟨k, rfl, hk, hc6, hg6⟩
    have Hkb : Hid (-1 ≤ k ∧ k ≤ 5) := hide (by simp only [List.mem_cons, List.not_mem_nil, or_false] at hk; omega)
    have K6 := hide (blk_notg5 K5.out hg6 (by omega))
    have HG6 := hide (grw_trans HG5.out hg6)
    have hs6 := hg6.size
    clear hc5 hg6 K5 HG5 HI5 hw5 hk
    go_wp2_with fail
    refine (l7Who_any w0 _ g cv code hc6 hl).mono ?_
    rintro e w7 ⟨v7, ls, rfl, o7, h7, h9, hc7, hg7⟩
    obtain ⟨a7, c7, rfl⟩ := o7.rd.shape
    have k7 := blk_notg5 K6.out hg7 (by omega)
    have e0 := k7.cell 0
    have e1 := k7.cell 1
    have e2 := k7.cell 2
    have f0 := k7.frozen 0
    have f1 := k7.frozen 1
    have f2 := k7.frozen 2
    simp only [List.getElem?_cons_zero, List.getElem?_cons_succ] at e0 e1 e2
    have hbR : Below w.heap.size w7 (((w7.setCell ⟨w.heap.size, 0, none⟩ (.int .i64 r)).setCell ⟨w.heap.size, 1, none⟩ (.int .i64 k)).setCell ⟨w.heap.size, 2, none⟩ (.slice a7 ls.length c7)) := (((Below.refl _ w7).setCell (p := ⟨w.heap.size, 0, none⟩) (Nat.le_refl _) _).setCell (p := ⟨w.heap.size, 1, none⟩) (Nat.le_refl _) _).setCell (p := ⟨w.heap.size, 2, none⟩) (Nat.le_refl _) _
    have HC := hide (hc7.below hbR hgl)
    have HG := hide (grw_below (grw_trans HG6.out hg7) hbR (Nat.le_refl _))
    have HO := hide ((((o7.olderC (g := w.heap.size) (by omega) 0 (.int .i64 r)).olderC (g := w.heap.size) (by omega) 1 (.int .i64 k)).olderC (g := w.heap.size) (by omega) 2 (.slice a7 ls.length c7)).mono (show w.heap.size ≤ w6.heap.size by omega))
    have H9 := hide h9
    clear o7 hc7 hg7 k7 hbR K6 HG6 hc6 h9
    go_wp2
    refine bodyPost_ret (v := .agg #[.int .i64 r, .int .i64 k, .slice a7 ls.length c7]) (by simp [results, Try.f60, go_sem, e0, e1, e2]) rfl ?_
    exact ⟨r, k, _, ls, rfl, ⟨Hrb.out, Hkb.out⟩, HO.out, h7, H9.out, HC.out, HG.out⟩
  · have k2 := K2.out
    have e0 := k2.cell 0
    have e1 := k2.cell 1
    have e2 := k2.cell 2
    have f0 := k2.frozen 0
    have f1 := k2.frozen 1
    have f2 := k2.frozen 2
    simp only [List.getElem?_cons_zero, List.getElem?_cons_succ] at e0 e1 e2
    have hbR : Below w.heap.size w2 (((w2.setCell ⟨w.heap.size, 0, none⟩ (.int .i64 0)).setCell ⟨w.heap.size, 1, none⟩ (.int .i64 (-1))).setCell ⟨w.heap.size, 2, none⟩ (.slice none 0 0)) := (((Below.refl _ w2).setCell (p := ⟨w.heap.size, 0, none⟩) (Nat.le_refl _) _).setCell (p := ⟨w.heap.size, 1, none⟩) (Nat.le_refl _) _).setCell (p := ⟨w.heap.size, 2, none⟩) (Nat.le_refl _) _
    have HC := hide (hc2.below hbR hgl)
    have HG := hide (grw_below HG2.out hbR (Nat.le_refl _))
    clear k2 K2 hc2 hbR HG2
    go_wp2
    refine bodyPost_ret (v := .agg #[.int .i64 0, .int .i64 (-1), .slice none 0 0]) (by simp [results, Try.f60, go_sem, e0, e1, e2]) rfl ?_
    exact ⟨0, -1, _, [], rfl, by omega, nilSK _ _, by simp, by simp, HC.out, HG.out⟩
end Go.Proofs.Ytbjeonnaannofaa

namespace Go.Proofs.Ytbjeonnaannofaa
open Go.RowKit
set_option linter.unusedVariables false

theorem add_flatI (b off i : Nat) : (⟨b, off, none⟩ : Addr).add i = ⟨b, off + i, none⟩ := by
  by_cases hz : i = 0
  · subst hz; simp [Addr.add]
  · simp [Addr.add, hz]
theorem grownS_transI {a b c : World} {r : Option Nat} (h : a.grownBy b r) (k : b.grownBy c r) : a.grownBy c r :=
  ⟨k.os.trans h.os, k.tape.trans h.tape, k.output.trans h.output, Nat.le_trans h.size k.size, fun i hi hn => (k.block i (Nat.lt_of_lt_of_le hi h.size) hn).trans (h.block i hi hn)⟩
theorem grown_drewI {a b : World} {r : Option Nat} (h : a.grownBy b r) : a.grownBy b.drew r := ⟨h.os, h.tape, h.output, h.size, h.block⟩
theorem row_drew {base : Nat} {w : World} {e : TypeId} {size : Nat} {v : Value} {n : Nat} {xs : List Value} (h : w.ownsRow base e size v n xs) : w.drew.ownsRow base e size v n xs := row_below h ((Below.refl w.heap.size w).drew) (Nat.le_refl _)
theorem own_nilI (w : World) (base : Nat) (h : base ≤ w.heap.size) : OwnI base (w.alloc (.cells #[] 3)) (.slice (some ⟨w.heap.size, 0, none⟩) 0 0) [] :=
  World.ownsRow_lit w #[] 0 h (by unfold maxLen; omega) (by simp)
theorem own_oneI (w : World) (base : Nat) (x : Int) (h : base ≤ w.heap.size) : OwnI base (w.alloc (.cells #[.int .i64 x] 3)) (.slice (some ⟨w.heap.size, 0, none⟩) 1 1) [x] :=
  World.ownsRow_lit w #[.int .i64 x] 1 h (by unfold maxLen; omega) (by simp)
theorem rd_oneI {w : World} {g : Nat} {x : Int} (h : Blk w g 3 [.int .i64 x]) : RdI w (.slice (some ⟨g, 0, none⟩) 1 1) [x] := by
  refine .inr ⟨g, 0, 1, by simp, rfl, by simp, by unfold maxLen; omega, h.lt, fun i hi => ?_⟩
  obtain rfl : i = 0 := by simpa using hi
  rw [h.cell]
  rfl
theorem app_ownIs {ops : Array Oper} {rest : List Oper} {o : Oper} {a : Act} {Q : Exit → Act → World → Prop} (w : World) (hgd : o.guard = none) (s x : Operand)
    (ho : o.op = .call { callee := .builtin .append, args := #[s, x], argTypes := #[27, 27] })
    (base : Nat) (v vx : Value) (l k : List Int) (hs : a.eval s = v) (hx : a.eval x = vx) (hown : OwnI base w v l) (hrd : RdI w vx k)
    (hlen : l.length + k.length ≤ 100000000) (hbase : base ≤ w.heap.size)
    (h : ∀ v' w', OwnI base w' v' (l ++ k) → w.grownBy w' v.ownBlock → Below base w w' → (v'.ownBlock = v.ownBlock ∨ v'.ownBlock = some w.heap.size) → wpList Try.prog ops Q rest (a.put o.dst v') w') : wpList Try.prog ops Q (o :: rest) a w := by
  obtain ⟨i0, hi, hz0, hz1, hz2⟩ := info_parts Try.infoI
  have hbel : ∀ w', w.grownBy w' v.ownBlock → Below base w w' := fun w' hg => (Below.refl _ _).grown hg hbase (fun k hk => (hown.ge k hk))
  rcases hrd with ⟨ax, cap, rfl, rfl, hnil⟩ | ⟨b, off, cap, h0, rfl, h1, h2, h3, h4⟩
  · cases ax with
    | none =>
      have hc : cap = 0 := hnil rfl
      subst hc
      refine wpList_append_own_none hgd s x 27 ho base 3 i0 1 Try.underlying27 hi v l.length (l.map (Value.int .i64)) hs hown hx ?_
      exact h v w (by simpa [OwnI] using hown) (World.grownBy.refl _ _) (Below.refl _ _) (.inl rfl)
    | some ad =>
      refine wpList_append_own_at w hgd s x 27 ho base 3 i0 (.int .i64 0) 1 8 Try.underlying27 hi hz0 hz1 hz2 rfl (by decide) v l.length (l.map (Value.int .i64)) hs hown ad 0 cap [] hx rfl (by intro j u hj; simp at hj) (by intro u hu; simp at hu) (by unfold maxLen; simp at hlen; omega) (by simp at hlen; omega) hbase ?_
      intro v' w' ho' hg _ hl'
      exact h v' w' (by simpa [OwnI] using ho') hg (hbel w' hg) hl'
  · refine wpList_append_own_at w hgd s x 27 ho base 3 i0 (.int .i64 0) 1 8 Try.underlying27 hi hz0 hz1 hz2 rfl (by decide) v l.length (l.map (Value.int .i64)) hs hown ⟨b, off, none⟩ k.length cap (k.map (Value.int .i64)) hx (by simp) ?_ ?_ (by unfold maxLen; omega) (by omega) hbase ?_
    · intro j u hj
      obtain ⟨hjl, hj⟩ := List.getElem?_eq_some_iff.1 hj
      simp only [List.length_map] at hjl
      rw [add_flatI, h4 j hjl]
      simpa using hj
    · intro u hu
      obtain ⟨p, _, rfl⟩ := List.mem_map.1 hu
      rfl
    · intro v' w' ho' hg _ hl'
      exact h v' w' (by simpa [OwnI] using ho') hg (hbel w' hg) hl'
set_option maxRecDepth 20000 in
set_option maxHeartbeats 1000000 in
theorem indexI_any (v : Value) (l : List Int) (x : Int) (w : World) (hr : RdI w v l) (hl : l.length ≤ 4000000) :
    Calls Try.prog 98 #[v, .int .i64 x] w fun e w' => ∃ r : Int, e = .returned (.int .i64 r) ∧ (decide (0 ≤ r) = l.any (fun y => decide (y = x))) ∧ w' = w := by
  rcases hr with ⟨a, cap, rfl, rfl, -⟩ | ⟨b, off, cap, h0, rfl, h1, h2, h3, h4⟩
  · go_enter Try.func98, Try.ntmps98
    go_wp2
    refine wp_loop_rounds 1 ?_
    rw [rounds_succ]
    go_wp2
    go_ret
    exact ⟨_, rfl, by simp, rfl⟩
  · have H4 := hide h4
    clear h4 h0
    go_enter Try.func98, Try.ntmps98
    go_wp2
    go_loopw [8] (fun i wr => ∃ k : Nat, k ≤ l.length ∧ i = .int .i64 k ∧ (∀ j (h : j < l.length), j < k → l[j] ≠ x) ∧ wr = w) (fun i _ => l.length - (intOf i).toNat)
    case atStart => exact ⟨0, Nat.zero_le _, rfl, fun j _ h => by omega, rfl⟩
    case round =>
      obtain ⟨k, hk, rfl, hno, rfl⟩ := hrel
      have Hno := hide hno
      clear hno
      by_cases hlt : k < l.length
      · have c0 := H4.out k hlt
        have hli : (k : Int) < (l.length : Int) := by omega
        by_cases he : l[k] = x
        · have HX : Hid (l.any (fun y => decide (y = x)) = true) := hide (by rw [List.any_eq_true]; exact ⟨l[k], List.getElem_mem hlt, by simp [he]⟩)
          rw [he] at c0
          have heq : (x == x) = true := by simp
          clear he
          go_wp2
          go_ret
          exact ⟨_, rfl, by rw [HX.out]; simp, rfl⟩
        · have HY : Hid (∀ j (h : j < l.length), j < k + 1 → l[j] ≠ x) := hide (fun j h hj => by
            by_cases e : j = k
            · subst e; exact he
            · exact Hno.out j h (by omega))
          have hne : (x == l[k]) = false := by rw [beq_eq_false_iff_ne]; exact fun e => he e.symm
          have hne2 : (l[k] == x) = false := by rw [beq_eq_false_iff_ne]; exact he
          generalize l[k] = d at c0 he hne hne2
          go_wp2
          go_roundw
          case rel => exact ⟨k + 1, by omega, by go_num, HY.out, by first | trivial | rfl⟩
          case measure => simp [intOf]; omega
      · have HX : Hid (l.any (fun y => decide (y = x)) = false) := hide (by
          rw [List.any_eq_false]
          intro y hy
          obtain ⟨j, hj, rfl⟩ := List.mem_iff_getElem.1 hy
          simpa using Hno.out j hj (by omega))
        go_wp2
        go_ret
        exact ⟨_, rfl, by rw [HX.out]; simp, rfl⟩
set_option maxRecDepth 20000 in
theorem containsI_any (v : Value) (l : List Int) (x : Int) (w : World) (hr : RdI w v l) (hl : l.length ≤ 4000000) :
    Calls Try.prog 42 #[v, .int .i64 x] w fun e w' => e = .returned (.bool (l.any (fun y => decide (y = x)))) ∧ w' = w := by
  have HI := hide (indexI_any v l x w hr hl)
  generalize l.any (fun y => decide (y = x)) = X at HI
  clear hr
  go_enter Try.func42, Try.ntmps42
  go_wp2_with fail
  refine HI.out.mono ?_
  rintro e w ⟨r, rfl, hx, rfl⟩
  have Hx := hide hx
  clear hx
  go_wp2
  go_ret
  exact ⟨ret_bool Hx.out, rfl⟩
/-- The rows of numbers with the first i and the last i exchanged. -/
def RevP (l X : List Int) (i : Nat) : Prop := X.length = l.length ∧ ∀ t (h : t < l.length) (h2 : t < X.length), X[t] = if t < i ∨ l.length - 1 - t < i then l[l.length - 1 - t] else l[t]
theorem rev_done {l X : List Int} {i : Nat} (h : RevP l X i) (hi : l.length ≤ 2 * i + 1) : X = l.reverse := by
  apply List.ext_getElem
  · simp [h.1]
  · intro t h1 h2
    have hl := h.1
    rw [h.2 t (by omega) h1, List.getElem_reverse]
    split
    · rfl
    · congr 1
      omega
theorem rev_next {l X : List Int} {i : Nat} (h : RevP l X i) (hi : 2 * i + 1 < l.length) : RevP l ((X.set i (X[l.length - 1 - i]'(by rw [h.1]; omega))).set (l.length - 1 - i) (X[i]'(by rw [h.1]; omega))) (i + 1) := by
  have hl := h.1
  refine ⟨by simp [hl], fun t ht h2 => ?_⟩
  simp only [List.getElem_set]
  by_cases e1 : l.length - 1 - i = t
  · rw [if_pos e1, if_pos (by omega), h.2 i (by omega) (by omega), if_neg (by omega)]
    congr 1
    omega
  · rw [if_neg e1]
    by_cases e2 : i = t
    · rw [if_pos e2, if_pos (by omega), h.2 (l.length - 1 - i) (by omega) (by omega), if_neg (by omega)]
      subst e2
      rfl
    · rw [if_neg e2, h.2 t ht (by simp at h2; omega)]
      by_cases c : t < i ∨ l.length - 1 - t < i
      · rw [if_pos c, if_pos (by omega)]
      · rw [if_neg c, if_neg (by omega)]
set_option maxRecDepth 20000 in
set_option maxHeartbeats 2000000 in
theorem reverseI_any (v : Value) (l : List Int) (base : Nat) (w : World) (ho : OwnI base w v l) (hl : l.length ≤ 4000000) :
    Calls Try.prog 94 #[v] w fun e w' => e = .returned (.tuple #[]) ∧ OwnI base w' v l.reverse ∧ w.grownBy w' v.ownBlock := by
  obtain ⟨a, cap, rfl⟩ := ho.rd.shape
  obtain ⟨n, hn⟩ : ∃ n, l.length = n := ⟨_, rfl⟩
  have Hn := hide hn
  have Ho : Hid (w.ownsRow base 3 1 (.slice a n cap) n (l.map (Value.int .i64))) := hide (by rw [← hn]; exact ho)
  have Hsh : Hid (0 < n → ∃ g, a = some ⟨g, 0, none⟩) := hide (fun h => by
    rcases ho.2 with ⟨hv, h0⟩ | ⟨g, c, u, hv, -⟩
    · omega
    · simp only [Value.slice.injEq] at hv; exact ⟨g, hv.1⟩)
  rw [hn] at hl ⊢
  have Hend : Hid (∀ wr X i, RevP l X i → n ≤ 2 * i + 1 → wr.ownsRow base 3 1 (.slice a n cap) n (X.map (Value.int .i64)) → OwnI base wr (.slice a n cap) l.reverse) := hide (fun wr X i hX hi h => by
    have e := rev_done hX (by rw [Hn.out]; exact hi)
    unfold OwnI
    rw [← e, hX.1, Hn.out]
    exact h)
  clear hn ho
  go_enter Try.func94, Try.ntmps94
  go_wp2
  go_loopw [2, 3] (fun iv jv wr => ∃ (i : Nat) (X : List Int), (2 * i ≤ n + 1) ∧ iv = .int .i64 (i : Int) ∧ jv = .int .i64 ((n : Int) - 1 - (i : Int)) ∧ RevP l X i ∧ wr.ownsRow base 3 1 (.slice a n cap) n (X.map (Value.int .i64)) ∧ w.grownBy wr (Value.slice a n cap).ownBlock) (fun iv _ _ => n - (intOf iv).toNat)
  case atStart => exact ⟨0, l, by omega, rfl, by congr 1; omega, ⟨rfl, fun t _ _ => by rw [if_neg (by omega)]⟩, Ho.out, World.grownBy.refl _ _⟩
  case round =>
    obtain ⟨i, X, hi, rfl, rfl, hX, ho, hg⟩ := hrel
    have HX := hide hX
    have Hg := hide hg
    have hXl : X.length = n := by rw [hX.1]; exact Hn.out
    clear hX hg Ho
    by_cases hlt : 2 * i + 1 < n
    · obtain ⟨g, rfl⟩ := Hsh.out (by omega)
      obtain ⟨j, hj⟩ : ∃ j, n - 1 - i = j := ⟨_, rfl⟩
      have ej : (n : Int) - 1 - (i : Int) = (j : Int) := by omega
      rw [ej]
      have hij : (i : Int) < (j : Int) := by omega
      have hi0 : i < X.length := by omega
      have hj0 : j < X.length := by omega
      have c1 := ho.cellAt i (by omega)
      have c2 := ho.cellAt j (by omega)
      have f1 := ho.frozenAt i
      have f2 := ho.frozenAt j
      rw [List.getElem?_map, List.getElem?_eq_getElem hi0, Option.map_some] at c1
      rw [List.getElem?_map, List.getElem?_eq_getElem hj0, Option.map_some] at c2
      have s1 := ho.stored i (.int .i64 X[j])
      have s2 := s1.1.stored j (.int .i64 X[i])
      have HS : Hid (RevP l ((X.set i X[j]).set j X[i]) (i + 1)) := hide (by
        have h := rev_next HX.out (by rw [Hn.out]; exact hlt)
        have e : l.length - 1 - i = j := by rw [Hn.out]; exact hj
        simp only [e] at h
        exact h)
      have Ho := hide ho
      have hin : (i : Int) < (n : Int) := by omega
      have hjn : (j : Int) < (n : Int) := by omega
      have hii : (0 : Int) ≤ (i : Int) := by omega
      have hjj : (0 : Int) ≤ (j : Int) := by omega
      have hne : i ≠ j := by omega
      have Hj := hide hj
      clear ho s1 s2 hj ej hXl
      generalize hxi : X[i] = xi at c1 HS
      generalize hxj : X[j] = xj at c2 HS
      clear hxi hxj
      go_wp2
      go_region
      go_wp2
      have hr1 := (Ho.out.stored i (.int .i64 xj)).1
      have hr2 := (hr1.stored j (.int .i64 xi)).1
      rw [← List.map_set, ← List.map_set] at hr2
      have HG := hide (grownS_transI (grownS_transI Hg.out (grown_set wr g i (.int .i64 xj))) (grown_set _ g j (.int .i64 xi)))
      go_roundw
      case rel => exact ⟨i + 1, _, by omega, by congr 1, by have := Hj.out; congr 1; omega, HS.out, row_drew hr2, grown_drewI HG.out⟩
      case measure => simp [intOf]; omega
    · have ho2 := hide (Hend.out wr X i HX.out (by omega) ho)
      have hle : (n : Int) - 1 - (i : Int) ≤ (i : Int) := by omega
      clear ho HX
      go_wp2
      refine bodyPost_end (results_none rfl _ _ _) rfl ?_
      exact ⟨rfl, ho2.out, Hg.out⟩
end Go.Proofs.Ytbjeonnaannofaa
