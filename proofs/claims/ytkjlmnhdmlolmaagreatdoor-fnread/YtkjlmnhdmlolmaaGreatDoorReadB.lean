/- A region whose operations only read, but for a tail that is carried out in its order. A block: the model's l2K and l2Block. Whether a code is too long for the laws; the shape of what a call owns. The model's Padded: the bytes, a byte 128, noughts up to 56 of 64, and how many bits in eight bytes. A digest: the blocks of what is padded, one behind the other. What a call owns as bytes, made a text; appends of two and of four bytes. Arrays of words in memory. Eight words as 32 bytes; blocks of bytes that can be read. The model's Digest. -/
import Derived.Test.YtkjlmnhdmlolmaaGreatDoorJoin1
import Derived.StillTailTactics
import Derived.Test.YtkjlmnhdmlolmaaGreatDoorReadA
import Derived.Test.YtkjlmnhdmlolmaaGreatDoorJoin7
import Derived.Deep.RegionLaw
import Derived.Laws.IdiomStrings
import Derived.Deep.MidRow
import Derived.Laws.PanicsMore
namespace Go.Proofs.YtkjlmnhdmlolmaaGreatDoor
open Go.RowKit

theorem region_tail {P : Program} {id : Nat} {Q : Exit → Act → World → Prop} {a : Act} {w : World} {l : List Oper} (n : Nat) (hm : P.follows .mixedOrders = true) (hB : Region.lexTailB .any l.toArray n = true)
    (h : wpStill P l.toArray w.drew (fun a' => wpList P l.toArray Q (l.drop n) a' w.drew) (l.take n) a) : (Code.region id l.toArray true).wp P Q a w := wp_region_still_tail n hm hB h
end Go.Proofs.YtkjlmnhdmlolmaaGreatDoor

namespace Go.Proofs.YtkjlmnhdmlolmaaGreatDoor
open Go.RowKit
set_option linter.unusedVariables false

set_option maxRecDepth 20000 in
set_option maxHeartbeats 1000000 in
theorem l2K_any (w : World) : Calls Tryz.prog 191 #[] w fun e w' => e = .returned (.slice (some ⟨w.heap.size, 0, none⟩) 64 64) ∧ An w' w.heap.size kC ∧ Below w.heap.size w w' := by
  go_enter Tryz.func191, Tryz.ntmps191
  go_wp2
  go_ret
  exact ⟨rfl, An.new _ _ _ _ _ rfl rfl, (Below.refl _ _).alloc (Nat.le_refl _) _⟩

theorem An.eight {w : World} {q a b c d e f g h : Nat} (H : An w q (S8.list ⟨a, b, c, d, e, f, g, h⟩)) : w.cell? ⟨q, 0, none⟩ = some (.int .i64 (a : Int)) ∧ w.cell? ⟨q, 1, none⟩ = some (.int .i64 (b : Int)) ∧ w.cell? ⟨q, 2, none⟩ = some (.int .i64 (c : Int)) ∧ w.cell? ⟨q, 3, none⟩ = some (.int .i64 (d : Int)) ∧ w.cell? ⟨q, 4, none⟩ = some (.int .i64 (e : Int)) ∧ w.cell? ⟨q, 5, none⟩ = some (.int .i64 (f : Int)) ∧ w.cell? ⟨q, 6, none⟩ = some (.int .i64 (g : Int)) ∧ w.cell? ⟨q, 7, none⟩ = some (.int .i64 (h : Int)) :=
  ⟨H.2 0 (by simp [S8.list]), H.2 1 (by simp [S8.list]), H.2 2 (by simp [S8.list]), H.2 3 (by simp [S8.list]), H.2 4 (by simp [S8.list]), H.2 5 (by simp [S8.list]), H.2 6 (by simp [S8.list]), H.2 7 (by simp [S8.list])⟩

theorem sum5 (h s1 c k x : Nat) (h1 : h < 4294967296) (h2 : s1 < 4294967296) (h3 : c < 4294967296) (h4 : k < 4294967296) (h5 : x < 4294967296) :
    IntKind.i64.wrap (IntKind.i64.wrap (IntKind.i64.wrap (IntKind.i64.wrap ((h : Int) + (s1 : Int)) + (c : Int)) + (k : Int)) + (x : Int)) = ((h + s1 + c + (k + x) : Nat) : Int) := by
  rw [← Int.natCast_add, wrapN _ (by omega), ← Int.natCast_add, wrapN _ (by omega), ← Int.natCast_add, wrapN _ (by omega), ← Int.natCast_add, wrapN _ (by omega)]
  congr 1
  omega
theorem wrap64N (n : Nat) (h : n < 9223372036854775808) : wrap64 (n : Int) = (n : Int) := by unfold wrap64; omega
theorem sum5' (h s1 c k x : Nat) (h1 : h < 4294967296) (h2 : s1 < 4294967296) (h3 : c < 4294967296) (h4 : k < 4294967296) (h5 : x < 4294967296) :
    wrap64 (wrap64 (wrap64 (wrap64 ((h : Int) + (s1 : Int)) + (c : Int)) + (k : Int)) + (x : Int)) = ((h + s1 + c + (k + x) : Nat) : Int) := by
  rw [← Int.natCast_add, wrap64N _ (by omega), ← Int.natCast_add, wrap64N _ (by omega), ← Int.natCast_add, wrap64N _ (by omega), ← Int.natCast_add, wrap64N _ (by omega)]
  congr 1
  omega
theorem An.set {w : World} {g : Nat} {l : List Nat} (h : An w g l) (k x : Nat) (hk : k < l.length) : An (w.setCell ⟨g, k, none⟩ (.int .i64 (x : Int))) g (l.set k x) := by
  refine ⟨by have := ((Below.refl 0 w).setCell (p := ⟨g, k, none⟩) (Nat.zero_le _) (.int .i64 (x : Int))).size; have := h.1; omega, ?_⟩
  intro j hj
  rw [List.length_set] at hj
  by_cases e : k = j
  · subst e
    rw [World.cell?_setCell_same _ _ _ (h.2 k hj)]
    simp
  · rw [World.cell?_setCell_other _ _ _ _ (by intro q; injection q with _ q2; exact e q2), h.2 j hj]
    simp [e]
theorem sum2 (a b : Nat) (h1 : a < 100000000000) (h2 : b < 100000000000) : bits .and .i64 (IntKind.i64.wrap ((a : Int) + (b : Int))) 4294967295 = (((a + b) % 4294967296 : Nat) : Int) := by
  rw [← Int.natCast_add, wrapN _ (by omega), i64_mask _ (by omega)]

theorem list_lt (s : S8) (h : s.Lt) (k : Nat) (hk : k < 8) : s.list[k]'hk < 4294967296 := by
  match k, hk with
  | 0, _ => exact h.a
  | 1, _ => exact h.b
  | 2, _ => exact h.c
  | 3, _ => exact h.d
  | 4, _ => exact h.e
  | 5, _ => exact h.f
  | 6, _ => exact h.g
  | 7, _ => exact h.h

set_option maxRecDepth 20000 in
set_option maxHeartbeats 2000000 in
theorem specBlock_any (gh ch gb off cb' gk ck : Nat) (st : S8) (l : List UInt8) (w : World) (hs : st.Lt) (hh : An w gh st.list) (hk : An w gk kC) (hl : l.length = 64) (hcap : 64 ≤ cb') (hcm : cb' ≤ maxLen) (hb : gb < w.heap.size) (h4 : ∀ i (h : i < l.length), w.cell? ⟨gb, off + i, none⟩ = some (.int .u8 (l[i].toNat : Int))) :
    Calls Tryz.prog 192 #[.slice (some ⟨gh, 0, none⟩) 8 ch, .slice (some ⟨gb, off, none⟩) 64 cb', .slice (some ⟨gk, 0, none⟩) 64 ck] w fun e w' => ∃ g cap, e = .returned (.slice (some ⟨g, 0, none⟩) 8 cap) ∧ An w' g (blockS st (wordsB l)).list ∧ w.heap.size ≤ g ∧ Below w.heap.size w w' := by
  have Hw := hide (specWords_any gb off cb' l w hl hcap hcm hb h4)
  have Hh := hide hh
  have Hk := hide hk
  generalize hbl : wordsB l = bl at Hw
  have hblt : ∀ x ∈ bl, x < 4294967296 := by rw [← hbl]; exact wordsB_lt l
  clear hh hk h4 hbl
  go_enter Tryz.func192, Tryz.ntmps192
  go_wp2_with fail
  refine Hw.out.mono ?_
  rintro e w1 ⟨wv, rfl, ho1, hb1⟩
  obtain ⟨gw, cw, rfl, hcw1, hcw2, hgw, hanw, -⟩ := ho1.open (by intro e; have := allW_len bl 64; rw [e] at this; simp at this)
  rw [allW_len]
  have Hb1 := hide hb1
  have Hanw := hide hanw
  have Hh1 := hide (Hh.out.below hb1 Hh.out.1)
  have Hk1 := hide (Hk.out.below hb1 Hk.out.1)
  have hs1 := hb1.size
  clear ho1 hb1 hanw hcw1 hcw2 Hw
  go_wp2_with (at_builtin; refine app_ownN _ (by rfl) _ _ (by rfl) w1.heap.size gh 8 ch _ [] st.list (by rfl) (by rfl) rfl (own_nilN w1 w1.heap.size (Nat.le_refl _)) (Hh1.out.alloc _) (by simp [S8.list]) (by simp) ?_; intro v2 w2 ho2 hb2)
  obtain ⟨g2, c2', rfl, hc21, hc22, hg2, han2, hfz2⟩ := ho2.open (by simp [S8.list])
  have Hb2 : Hid (Below w1.heap.size w1 w2) := hide (((Below.refl _ _).alloc (Nat.le_refl _) _).trans hb2)
  have Han2 := hide (show An w2 g2 (turns st bl 0).list by simpa [turns] using han2)
  have Hg2 := hide hg2
  have Hfz2 := hide hfz2
  have h8 : ([] ++ st.list).length = 8 := rfl
  rw [h8]
  clear ho2 hb2 han2 hc21 hc22 hg2 hfz2 h8
  go_wp2
  go_loopw [8, 9] (fun ov iv' wr => ∃ (i gv cv : Nat), i ≤ 64 ∧ iv' = .int .i64 (i : Int) ∧ ov = .slice (some ⟨gv, 0, none⟩) 8 cv ∧ An wr gv (turns st bl i).list ∧ w1.heap.size ≤ gv ∧ (∀ j, wr.frozen? ⟨gv, j, none⟩ = false) ∧ Below w1.heap.size w1 wr) (fun _ iv' _ => 64 - (intOf iv').toNat)
  case atStart => exact ⟨0, g2, c2', by omega, rfl, rfl, Han2.out, Hg2.out, Hfz2.out, Hb2.out⟩
  case round =>
    clear Han2 Hg2 Hfz2 Hb2
    obtain ⟨i, gv, cv, hi, rfl, rfl, han, hgv, hfz, hbw⟩ := hrel
    by_cases hi64 : i < 64
    · have hli : (i : Int) < 64 := by omega
      have ckk := (Hk1.out.below hbw Hk1.out.1).2 i (by rw [kC_len]; omega)
      have cww := (Hanw.out.below hbw Hanw.out.1).2 i (by rw [allW_len]; omega)
      rw [allW_at] at cww
      have hklt := kC_lt i (by rw [kC_len]; omega)
      have hxlt := W_lt bl hblt i
      have HTn := hide (show turns st bl (i + 1) = turn (turns st bl i) (kC.getD i 0 + W bl i) from rfl)
      have hkd : kC.getD i 0 = kC[i]'(by rw [kC_len]; omega) := by rw [List.getD_eq_getElem?_getD, List.getElem?_eq_getElem (by rw [kC_len]; omega), Option.getD_some]
      rw [hkd] at HTn
      have hTl := turns_lt st bl hs i
      generalize kC[i]'(by rw [kC_len]; omega) = k at ckk hklt HTn
      generalize W bl i = x at cww hxlt HTn
      generalize turns st bl i = T at han hTl HTn
      obtain ⟨a, b, c, d, e, f, g, h⟩ := T
      obtain ⟨c0, c1, c2, c3, c4, c5, c6, c7⟩ := han.eight
      have ha : a < 4294967296 := hTl.a
      have he : e < 4294967296 := hTl.e
      have hS1 : bits .xor .i64 (bits .xor .i64 (rotr 6 e : Int) (rotr 11 e : Int)) (rotr 25 e : Int) = ((cS1 e : Nat) : Int) := i64_xor3 _ _ _ (rotr_lt _ _) (rotr_lt _ _) (rotr_lt _ _)
      have hS0 : bits .xor .i64 (bits .xor .i64 (rotr 2 a : Int) (rotr 13 a : Int)) (rotr 22 a : Int) = ((cS0 a : Nat) : Int) := i64_xor3 _ _ _ (rotr_lt _ _) (rotr_lt _ _) (rotr_lt _ _)
      have hch := i64_ch e f g hTl.e hTl.f hTl.g
      have hmaj := i64_maj a b c hTl.a hTl.b hTl.c
      have qS1 := cS1_lt e
      have qS0 := cS0_lt a
      have qch := chN_lt e f g hTl.e
      have qmaj := majN_lt a b c hTl.a hTl.b
      have hd := hTl.d
      have hhl := hTl.h
      have hTn := HTn.out
      unfold turn at hTn
      simp only at hTn hd hhl
      generalize cS1 e = s1 at hS1 qS1 hTn
      generalize cS0 a = s0 at hS0 qS0 hTn
      generalize chN e f g = cc at hch qch hTn
      generalize majN a b c = mm at hmaj qmaj hTn
      have ht1 := sum5 h s1 cc k x hhl qS1 qch hklt hxlt
      obtain ⟨t1, ht1e⟩ : ∃ t, h + s1 + cc + (k + x) = t := ⟨_, rfl⟩
      have qt1 : t1 < 100000000000 := by omega
      rw [ht1e] at ht1 hTn
      have ht1' : wrap64 (wrap64 (wrap64 (wrap64 ((h : Int) + (s1 : Int)) + (cc : Int)) + (k : Int)) + (x : Int)) = (t1 : Int) := by rw [← ht1e]; exact sum5' h s1 cc k x hhl qS1 qch hklt hxlt
      obtain ⟨t2, ht2e⟩ : ∃ t, s0 + mm = t := ⟨_, rfl⟩
      have ht2 : (s0 : Int) + (mm : Int) = (t2 : Int) := by omega
      have qt2 : t2 < 100000000000 := by omega
      rw [ht2e] at hTn
      have hna := sum2 t1 t2 qt1 qt2
      have hne := sum2 d t1 (by omega) qt1
      obtain ⟨na, hnae⟩ : ∃ t, (t1 + t2) % 4294967296 = t := ⟨_, rfl⟩
      obtain ⟨ne, hnee⟩ : ∃ t, (d + t1) % 4294967296 = t := ⟨_, rfl⟩
      rw [hnae] at hna hTn
      rw [hnee] at hne hTn
      have HTn2 := hide hTn
      have Han := hide han
      have Hgv := hide hgv
      have Hfz := hide hfz
      have Hbw := hide hbw
      clear hTl HTn hTn han hgv hfz hbw ht1e ht2e hnae hnee hkd qS1 qS0 qch qmaj hd hhl hklt hxlt
      go_wp2_with fail
      refine (l2Turn_6 e he _).mono ?_
      rintro e' wa ⟨rfl, hwa⟩
      subst hwa
      go_wp2_with fail
      refine (l2Turn_11 e he _).mono ?_
      rintro e' wa ⟨rfl, hwa⟩
      subst hwa
      go_wp2_with fail
      refine (l2Turn_25 e he _).mono ?_
      rintro e' wa ⟨rfl, hwa⟩
      subst hwa
      go_wp2
      go_quiet (fail)
      go_wp2
      go_quiet (fail)
      go_wp2_with fail
      refine (l2Turn_2 a ha _).mono ?_
      rintro e' wa ⟨rfl, hwa⟩
      subst hwa
      go_wp2_with fail
      refine (l2Turn_13 a ha _).mono ?_
      rintro e' wa ⟨rfl, hwa⟩
      subst hwa
      go_wp2_with fail
      refine (l2Turn_22 a ha _).mono ?_
      rintro e' wa ⟨rfl, hwa⟩
      subst hwa
      go_wp2
      go_quiet (fail)
      go_wp2
      go_region_held (fun w' => w'.cell? ⟨gv, 1, none⟩ = some (.int .i64 (b : Int)) ∧ w'.cell? ⟨gv, 2, none⟩ = some (.int .i64 (c : Int)) ∧ w'.cell? ⟨gv, 3, none⟩ = some (.int .i64 (d : Int)) ∧ w'.cell? ⟨gv, 5, none⟩ = some (.int .i64 (f : Int)) ∧ w'.cell? ⟨gv, 6, none⟩ = some (.int .i64 (g : Int))) (go_keep) (fail)
      go_wp2
      go_roundw
      case rel => exact ⟨i + 1, wa.heap.size, 8, by omega, by go_num, rfl, by rw [HTn2.out]; exact An.new _ _ _ _ _ rfl rfl, Hbw.out.size, fun j => World.frozen?_alloc_at _ _ _ j rfl, (below_drewN Hbw.out _).alloc Hbw.out.size _⟩
      case measure => simp [intOf]; omega
    · have e64 : i = 64 := by omega
      rw [e64] at han
      generalize hT : turns st bl 64 = T at han
      have HT := hide hT
      have Han := hide han
      have Hgv := hide hgv
      have Hfz := hide hfz
      have Hbw := hide hbw
      clear hT han hgv hfz hbw hi e64
      go_wp2
      go_loopw [18] (fun kv wr2 => ∃ k : Nat, k ≤ 8 ∧ kv = .int .i64 (k : Int) ∧ An wr2 gv (partW T st k) ∧ (∀ j, wr2.frozen? ⟨gv, j, none⟩ = false) ∧ Below w1.heap.size w1 wr2) (fun kv _ => 8 - (intOf kv).toNat)
      case atStart => exact ⟨0, by omega, rfl, by rw [partW_zero]; exact Han.out, Hfz.out, Hbw.out⟩
      case round =>
        clear Han Hfz Hbw
        obtain ⟨k, hk, rfl, han, hfz, hbw⟩ := hrel
        have Han := hide han
        have Hfz := hide hfz
        have Hbw := hide hbw
        by_cases hk8 : k < 8
        · have hki : (k : Int) < 8 := by omega
          have c3 := han.2 k (by rw [partW_len]; exact hk8)
          have f3 := hfz k
          have c0 := (Hh1.out.below hbw Hh1.out.1).2 k hk8
          rw [partW_at T st k hk8] at c3
          have Hpn := hide (partW_next T st k hk8)
          have q1 : T.list[k]'hk8 < 4294967296 := by rw [← HT.out]; exact list_lt _ (turns_lt st bl hs 64) k hk8
          have q2 : st.list[k]'hk8 < 4294967296 := list_lt _ hs k hk8
          generalize T.list[k]'hk8 = xk at c3 Hpn q1
          generalize st.list[k]'hk8 = yk at c0 Hpn q2
          have hsum := sum2 xk yk (by omega) (by omega)
          obtain ⟨sk, hsk⟩ : ∃ sk, (xk + yk) % 4294967296 = sk := ⟨_, rfl⟩
          rw [hsk] at hsum Hpn
          clear hsk han hfz hbw q1 q2
          go_wp2
          refine region_tail 13 (by kernel_rfl) (by kernel_rfl) ?_
          simp only [List.take_succ_cons, List.take_zero, List.drop_succ_cons, List.drop_zero]
          repeat still_step
          refine wpStill_nil ?_
          go_wp2
          go_roundw
          case rel => exact ⟨k + 1, by omega, by go_num, by rw [Hpn.out]; exact (Han.out.set k sk (by rw [partW_len]; exact hk8)).drew, fun j => by show World.frozen? (World.setCell _ _ _) _ = _; rw [World.frozen?_setCell]; exact Hfz.out j, (Hbw.out.setCell Hgv.out _).drew⟩
          case measure => simp [intOf]; omega
        · have e8 : k = 8 := by omega
          have hfin : blockS st bl = addS T st := by unfold blockS; rw [HT.out]
          rw [e8, partW_full, ← hfin] at Han
          clear han hfz hbw hfin e8 hk
          go_wp2
          go_ret
          exact ⟨gv, cv, rfl, Han.out, Nat.le_trans hs1 Hgv.out, Hb1.out.trans (Hbw.out.mono hs1)⟩
end Go.Proofs.YtkjlmnhdmlolmaaGreatDoor

namespace Go.Proofs.YtkjlmnhdmlolmaaGreatDoor
open Go.RowKit
set_option linter.unusedVariables false

set_option maxRecDepth 20000 in
theorem big_any (v : Value) (l : List UInt8) (w : World) (hr : RdB w v l) (hl : l.length ≤ 9223372036854775807) :
    Calls Tryz.prog 7 #[v] w fun e w' => e = .returned (.bool (decide (1048576 < l.length))) ∧ w' = w := by
  obtain ⟨a, cap, rfl⟩ := hr.shape
  clear hr
  by_cases h : 1048576 < l.length
  · have hd := hide (decide_eq_true h)
    go_enter Tryz.func7, Tryz.ntmps7
    go_wp2
    go_ret
    exact ⟨ret_bool (by rw [hd.out]; simp; omega), rfl⟩
  · have hd := hide (decide_eq_false h)
    go_enter Tryz.func7, Tryz.ntmps7
    go_wp2
    go_ret
    exact ⟨ret_bool (by rw [hd.out]; simp; omega), rfl⟩

theorem OwnB.shape {base : Nat} {w : World} {v : Value} {l : List UInt8} (h : OwnB base w v l) (hl : l ≠ []) : ∃ g cap, v = .slice (some ⟨g, 0, none⟩) l.length cap ∧ l.length ≤ cap ∧ cap ≤ 9223372036854775807 := by
  rcases h.2 with ⟨hv, hn⟩ | ⟨g, cap, cur, hv, hb, hg, hnc, hcm, hcs, ht⟩
  · exact absurd (List.length_eq_zero_iff.1 hn) hl
  · exact ⟨g, cap, hv, hnc, by unfold maxLen at hcm; omega⟩

theorem RdB.cut {w : World} {g cap : Nat} {l : List UInt8} (h : RdB w (.slice (some ⟨g, 0, none⟩) l.length cap) l) (k : Nat) (hk : k ≤ l.length) : RdB w (.slice (some ⟨g, 0, none⟩) k cap) (l.take k) := by
  have hlen : (l.take k).length = k := by simp; omega
  rcases h with ⟨a, c, hv, rfl, hn⟩ | ⟨b, off, c, h0, hv, h1, h2, h3, h4⟩
  · have : k = 0 := by simpa using hk
    subst this
    exact .inl ⟨_, _, rfl, by simp, fun h => by cases h⟩
  · simp only [Value.slice.injEq, Option.some.injEq, Addr.mk.injEq, and_true, true_and] at hv
    obtain ⟨⟨rfl, rfl⟩, rfl⟩ := hv
    by_cases hk0 : k = 0
    · subst hk0; exact .inl ⟨_, _, rfl, by simp, fun h => by cases h⟩
    · refine .inr ⟨g, 0, cap, ?_, by rw [hlen], by omega, h2, h3, ?_⟩
      · intro e; rw [e] at hlen; simp at hlen; omega
      · intro i hi
        rw [h4 i (by omega)]
        simp
end Go.Proofs.YtkjlmnhdmlolmaaGreatDoor

namespace Go.Proofs.YtkjlmnhdmlolmaaGreatDoor
open Go.RowKit
set_option linter.unusedVariables false

def padZ (n : Nat) : Nat := (119 - n % 64) % 64
def be8 (m : Nat) : List UInt8 := (List.range 8).map (fun j => UInt8.ofNat (m / 2 ^ (56 - 8 * j) % 256))
def padB (l : List UInt8) : List UInt8 := l ++ 128 :: List.replicate (padZ l.length) 0 ++ be8 (8 * l.length)

theorem padZ_is (n z : Nat) (h : z ≤ padZ n) : ((n + 1 + z) % 64 = 56 ↔ z = padZ n) := by
  unfold padZ at *; omega
theorem padZ_lt (n : Nat) : padZ n < 64 := by unfold padZ; omega
theorem be8_at (m j : Nat) (h : j < 8) : (be8 m)[j]'(by simpa [be8] using h) = UInt8.ofNat (m / 2 ^ (56 - 8 * j) % 256) := by simp [be8]
theorem be8_len (m : Nat) : (be8 m).length = 8 := by simp [be8]

theorem byte_div (M d : Nat) : (M : Int) / (d : Int) % 256 = ((UInt8.ofNat (M / d % 256)).toNat : Int) := by
  rw [UInt8.toNat_ofNat', Nat.mod_eq_of_lt (by omega)]
  simp
theorem be8_take (m j : Nat) (h : j < 8) : (be8 m).take (j + 1) = (be8 m).take j ++ [UInt8.ofNat (m / 2 ^ (56 - 8 * j) % 256)] := by
  rw [List.take_succ_eq_append_getElem (by rw [be8_len]; exact h), be8_at m j h]

def sliceLen (v : Value) : Nat := match v with | .slice _ n _ => n | _ => 0

set_option maxRecDepth 20000 in
set_option maxHeartbeats 1000000 in
theorem specPadded_any (v : Value) (l : List UInt8) (w : World) (hr : RdB w v l) (hl : l.length ≤ 4000000) :
    Calls Tryz.prog 190 #[v] w fun e w' => ∃ v', e = .returned v' ∧ OwnB w.heap.size w' v' (padB l) ∧ Below w.heap.size w w' := by
  have hb0 : Below w.heap.size w (w.alloc (.cells #[] 5)) := (Below.refl _ _).alloc (Nat.le_refl _) _
  have Hr := hide (hr.below hb0 (Nat.le_refl _))
  have Ho := hide (own_nil w w.heap.size (Nat.le_refl _))
  have Hb := hide hb0
  obtain ⟨av, cv, hv⟩ := hr.shape
  subst hv
  clear hr hb0
  go_enter Tryz.func190, Tryz.ntmps190
  go_wp2_with (first | (at_builtin; refine app_own _ rfl _ _ rfl w.heap.size _ _ l [128] rfl rfl (ho1.alloc _) (rd_one _ _ _ (by rfl)) (by simp; omega) (by simp; omega) ?_; intro v2 w2 ho2 hb2) | (at_builtin; refine app_own _ rfl _ _ rfl w.heap.size _ _ [] l rfl rfl Ho.out Hr.out (by simp; omega) (by simp) ?_; intro v1 w1 ho1 hb1; have hs1 := hb1.size; simp only [World.size_alloc] at hs1; rw [List.nil_append] at ho1))
  have hB2 : Below w.heap.size w w2 := ((Hb.out.trans hb1).alloc (by omega) _).trans hb2
  have hZ := padZ_lt l.length
  have HZ := hide (padZ_is l.length)
  have HP : Hid (padB l = l ++ 128 :: List.replicate (padZ l.length) 0 ++ be8 (8 * l.length)) := hide rfl
  generalize padZ l.length = Z at hZ HZ HP
  obtain ⟨g2, c2, hv2, _⟩ := ho2.shape (by simp)
  rw [hv2] at ho2 ⊢
  clear hv2 ho1 hb1 hb2
  rw [show (l ++ [(128 : UInt8)]).length = l.length + 1 from by simp] at ho2 ⊢
  go_loopw [3] (fun ov wr => ∃ (z g c : Nat), ov = .slice (some ⟨g, 0, none⟩) (l.length + 1 + z) c ∧ OwnB w.heap.size wr ov (l ++ 128 :: List.replicate z 0) ∧ z ≤ Z ∧ Below w.heap.size w wr) (fun ov _ => l.length + 1 + Z - sliceLen ov)
  case atStart => exact ⟨0, g2, c2, rfl, ho2, Nat.zero_le _, hB2⟩
  case round =>
    obtain ⟨z, g, c, rfl, ho, hz, hb⟩ := hrel
    have hsz := hb.size
    have Hoz := hide ho
    have Hbz := hide hb
    clear ho hb ho2 hB2
    by_cases hlt : z < Z
    · have hne : ¬ (l.length + 1 + z) % 64 = 56 := fun h => by have := (HZ.out z hz).1 h; omega
      have hq : (((l.length + 1 + z : Nat) : Int) % 64 != 56) = true := by rw [bne_iff_ne]; omega
      have hq2 : (((l.length : Int) + 1 + (z : Int)) % 64 != 56) = true := by rw [bne_iff_ne]; omega
      have Hnx : Hid (l ++ 128 :: List.replicate z 0 ++ [0] = l ++ 128 :: List.replicate (z + 1) 0) := hide (by
        rw [List.append_assoc, List.cons_append, ← List.replicate_succ'])
      clear hne
      go_wp2_with (at_builtin; refine app_own _ rfl _ _ rfl w.heap.size _ _ (l ++ 128 :: List.replicate z 0) [0] rfl rfl (Hoz.out.alloc _) (rd_one _ _ _ (by rfl)) (by simp; omega) (by simp; omega) ?_; intro v3 w3 ho3 hb3)
      rw [Hnx.out] at ho3
      obtain ⟨g3, c3, hv3, _⟩ := ho3.shape (by simp)
      rw [hv3] at ho3 ⊢
      have e3 : (l ++ 128 :: List.replicate (z + 1) (0 : UInt8)).length = l.length + 1 + (z + 1) := by simp; omega
      rw [e3] at ho3 ⊢
      clear hv3
      go_roundw
      case rel => exact ⟨z + 1, g3, c3, rfl, ho3, by omega, (Hbz.out.alloc hsz _).trans hb3⟩
      case measure => simp [sliceLen]; omega
    · have hzZ : z = Z := by omega
      subst hzZ
      have he := (HZ.out z hz).2 rfl
      have hq : (((l.length + 1 + z : Nat) : Int) % 64 != 56) = false := by rw [bne_eq_false_iff_eq]; omega
      have hq2 : (((l.length : Int) + 1 + (z : Int)) % 64 != 56) = false := by rw [bne_eq_false_iff_eq]; omega
      clear he hlt
      generalize hA : l ++ 128 :: List.replicate z (0 : UInt8) = A at Hoz HP
      have hAl : A.length ≤ 4000100 := by rw [← hA]; simp; omega
      clear hA
      go_wp2
      have hMe : (l.length : Int) * 8 = ((8 * l.length : Nat) : Int) := by omega
      have hM : 8 * l.length ≤ 32000000 := by omega
      rw [hMe]
      clear hMe
      generalize 8 * l.length = M at hM HP
      go_loopw [3, 5] (fun ov kv wr2 => ∃ j : Nat, j ≤ 8 ∧ kv = .int .i64 (56 - 8 * (j : Int)) ∧ OwnB w.heap.size wr2 ov (A ++ (be8 M).take j) ∧ Below w.heap.size w wr2) (fun _ kv _ => (intOf kv + 8).toNat)
      case atStart => exact ⟨0, by omega, rfl, by simpa using Hoz.out, Hbz.out⟩
      case round =>
        obtain ⟨j, hj, rfl, ho, hb⟩ := hrel
        have hs2 := hb.size
        have Ho2 := hide ho
        have Hb2 := hide hb
        clear ho hb
        by_cases hj8 : j < 8
        · have Htk := hide (be8_take M j hj8)
          have hTl : ((be8 M).take j).length ≤ 8 := by simp [be8_len]; omega
          have Hbd := hide (byte_div M (2 ^ (56 - 8 * j)))
          generalize UInt8.ofNat (M / 2 ^ (56 - 8 * j) % 256) = C at Htk Hbd
          generalize hT : (be8 M).take j = T at Ho2 Htk hTl
          have HT := hide hT
          clear hT
          rcases (show j = 0 ∨ j = 1 ∨ j = 2 ∨ j = 3 ∨ j = 4 ∨ j = 5 ∨ j = 6 ∨ j = 7 from by omega) with rfl | rfl | rfl | rfl | rfl | rfl | rfl | rfl
          · have hbd := Hbd.out
            simp at hbd
            have Hbd2 := hide hbd
            clear hbd Hbd
            go_wp2_with (at_builtin; refine app_own _ rfl _ _ rfl w.heap.size _ _ (A ++ T) [C] rfl rfl (Ho2.out.alloc _) (rd_one _ _ _ (by have h := Hbd2.out; omega)) (by simp; omega) (by simp; omega) ?_; intro v3 w3 ho3 hb3)
            go_roundw
            case rel => exact ⟨0 + 1, by omega, by go_num, by rw [Htk.out, ← List.append_assoc]; exact ho3, (Hb2.out.alloc hs2 _).trans hb3⟩
            case measure => simp [intOf]
          · have hbd := Hbd.out
            simp at hbd
            have Hbd2 := hide hbd
            clear hbd Hbd
            go_wp2_with (at_builtin; refine app_own _ rfl _ _ rfl w.heap.size _ _ (A ++ T) [C] rfl rfl (Ho2.out.alloc _) (rd_one _ _ _ (by have h := Hbd2.out; omega)) (by simp; omega) (by simp; omega) ?_; intro v3 w3 ho3 hb3)
            go_roundw
            case rel => exact ⟨1 + 1, by omega, by go_num, by rw [Htk.out, ← List.append_assoc]; exact ho3, (Hb2.out.alloc hs2 _).trans hb3⟩
            case measure => simp [intOf]
          · have hbd := Hbd.out
            simp at hbd
            have Hbd2 := hide hbd
            clear hbd Hbd
            go_wp2_with (at_builtin; refine app_own _ rfl _ _ rfl w.heap.size _ _ (A ++ T) [C] rfl rfl (Ho2.out.alloc _) (rd_one _ _ _ (by have h := Hbd2.out; omega)) (by simp; omega) (by simp; omega) ?_; intro v3 w3 ho3 hb3)
            go_roundw
            case rel => exact ⟨2 + 1, by omega, by go_num, by rw [Htk.out, ← List.append_assoc]; exact ho3, (Hb2.out.alloc hs2 _).trans hb3⟩
            case measure => simp [intOf]
          · have hbd := Hbd.out
            simp at hbd
            have Hbd2 := hide hbd
            clear hbd Hbd
            go_wp2_with (at_builtin; refine app_own _ rfl _ _ rfl w.heap.size _ _ (A ++ T) [C] rfl rfl (Ho2.out.alloc _) (rd_one _ _ _ (by have h := Hbd2.out; omega)) (by simp; omega) (by simp; omega) ?_; intro v3 w3 ho3 hb3)
            go_roundw
            case rel => exact ⟨3 + 1, by omega, by go_num, by rw [Htk.out, ← List.append_assoc]; exact ho3, (Hb2.out.alloc hs2 _).trans hb3⟩
            case measure => simp [intOf]
          · have hbd := Hbd.out
            simp at hbd
            have Hbd2 := hide hbd
            clear hbd Hbd
            go_wp2_with (at_builtin; refine app_own _ rfl _ _ rfl w.heap.size _ _ (A ++ T) [C] rfl rfl (Ho2.out.alloc _) (rd_one _ _ _ (by have h := Hbd2.out; omega)) (by simp; omega) (by simp; omega) ?_; intro v3 w3 ho3 hb3)
            go_roundw
            case rel => exact ⟨4 + 1, by omega, by go_num, by rw [Htk.out, ← List.append_assoc]; exact ho3, (Hb2.out.alloc hs2 _).trans hb3⟩
            case measure => simp [intOf]
          · have hbd := Hbd.out
            simp at hbd
            have Hbd2 := hide hbd
            clear hbd Hbd
            go_wp2_with (at_builtin; refine app_own _ rfl _ _ rfl w.heap.size _ _ (A ++ T) [C] rfl rfl (Ho2.out.alloc _) (rd_one _ _ _ (by have h := Hbd2.out; omega)) (by simp; omega) (by simp; omega) ?_; intro v3 w3 ho3 hb3)
            go_roundw
            case rel => exact ⟨5 + 1, by omega, by go_num, by rw [Htk.out, ← List.append_assoc]; exact ho3, (Hb2.out.alloc hs2 _).trans hb3⟩
            case measure => simp [intOf]
          · have hbd := Hbd.out
            simp at hbd
            have Hbd2 := hide hbd
            clear hbd Hbd
            go_wp2_with (at_builtin; refine app_own _ rfl _ _ rfl w.heap.size _ _ (A ++ T) [C] rfl rfl (Ho2.out.alloc _) (rd_one _ _ _ (by have h := Hbd2.out; omega)) (by simp; omega) (by simp; omega) ?_; intro v3 w3 ho3 hb3)
            go_roundw
            case rel => exact ⟨6 + 1, by omega, by go_num, by rw [Htk.out, ← List.append_assoc]; exact ho3, (Hb2.out.alloc hs2 _).trans hb3⟩
            case measure => simp [intOf]
          · have hbd := Hbd.out
            simp at hbd
            have Hbd2 := hide hbd
            clear hbd Hbd
            go_wp2_with (at_builtin; refine app_own _ rfl _ _ rfl w.heap.size _ _ (A ++ T) [C] rfl rfl (Ho2.out.alloc _) (rd_one _ _ _ (by have h := Hbd2.out; omega)) (by simp; omega) (by simp; omega) ?_; intro v3 w3 ho3 hb3)
            go_roundw
            case rel => exact ⟨7 + 1, by omega, by go_num, by rw [Htk.out, ← List.append_assoc]; exact ho3, (Hb2.out.alloc hs2 _).trans hb3⟩
            case measure => simp [intOf]
        · have e8 : (be8 M).take j = be8 M := List.take_of_length_le (by rw [be8_len]; omega)
          have hj9 : j = 8 := by omega
          have ho8 := Ho2.out
          rw [e8, ← HP.out] at ho8
          have Ho8 := hide ho8
          clear ho8 e8
          subst hj9
          go_wp2
          go_ret
          exact ⟨_, rfl, Ho8.out, Hb2.out⟩
end Go.Proofs.YtkjlmnhdmlolmaaGreatDoor

namespace Go.Proofs.YtkjlmnhdmlolmaaGreatDoor
open Go.RowKit
set_option linter.unusedVariables false

def blk (P : List UInt8) (t : Nat) : List UInt8 := (P.drop (64 * t)).take 64
def shaFold (P : List UInt8) : Nat → S8
  | 0 => hC
  | t + 1 => blockS (shaFold P t) (wordsB (blk P t))
theorem shaFold_lt (P : List UInt8) : ∀ t, (shaFold P t).Lt
  | 0 => hC_lt
  | t + 1 => blockS_lt _ _
theorem blk_len (P : List UInt8) (t : Nat) (h : 64 * t + 64 ≤ P.length) : (blk P t).length = 64 := by simp [blk]; omega
theorem blk_at (P : List UInt8) (t i : Nat) (h : 64 * t + 64 ≤ P.length) (hi : i < (blk P t).length) : (blk P t)[i] = P[64 * t + i]'(by rw [blk_len P t h] at hi; omega) := by
  simp [blk]
def padQ (n : Nat) : Nat := (n + 72) / 64
theorem padB_q (l : List UInt8) : (padB l).length = 64 * padQ l.length := by
  have : (padB l).length = l.length + 1 + padZ l.length + 8 := by simp [padB, be8_len]; omega
  rw [this]; unfold padZ padQ; omega
end Go.Proofs.YtkjlmnhdmlolmaaGreatDoor

namespace Go.Proofs.YtkjlmnhdmlolmaaGreatDoor
open Go.RowKit
set_option linter.unusedVariables false

theorem step_app_own {ops : Array Oper} {o : Oper} {a : Act} {w : World} {K : Act → World → Prop} {Q : Exit → Act → World → Prop} {E : Prop} (hgd : o.guard = none) (s x : Operand)
    (ho : o.op = .call { callee := .builtin .append, args := #[s, x], argTypes := #[22, 22] })
    (base : Nat) (v vx : Value) (l k : List UInt8) (hs : a.eval s = v) (hx : a.eval x = vx) (hown : OwnB base w v l) (hrd : RdB w vx k) (hk : k ≠ [])
    (hlen : l.length + k.length ≤ 100000000) (hbase : base ≤ w.heap.size)
    (h : ∀ v' w', OwnB base w' v' (l ++ k) → Below base w w' → K (a.put o.dst v') w') : if Region.wanted o (yielded ops a.tmps) = true then Oper.wp Tryz.prog o a w K Q else E := by
  have hw : Region.wanted o (yielded ops a.tmps) = true := by simp [Region.wanted, hgd]
  rw [if_pos hw]
  obtain ⟨i0, hi, hz0, hz1, hz2⟩ := info_parts Tryz.infoU8
  have hbel : ∀ w', w.grownBy w' v.ownBlock → Below base w w' := fun w' hg => (Below.refl _ _).grown hg hbase (fun k hk => (World.ownsRow.lt hown k hk).1)
  rcases hrd with ⟨ax, cap, rfl, rfl, hnil⟩ | ⟨b, off, cap, h0, rfl, h1, h2, h3, h4⟩
  · exact absurd rfl hk
  · refine wp_append_own w s x 22 ho base 5 i0 (.int .u8 0) 1 1 Tryz.underlying22 hi hz0 hz1 hz2 rfl (by decide) v l.length (l.map cb) hs hown ⟨b, off, none⟩ k.length cap (k.map cb) hx (by simp) ?_ ?_ (by unfold maxLen; omega) (by omega) hbase ?_
    · intro j u hj
      have hj' : j < k.length := by have := (List.getElem?_eq_some_iff.1 hj).1; simpa using this
      have ea : (⟨b, off, none⟩ : Addr).add j = ⟨b, off + j, none⟩ := by
        by_cases hz : j = 0
        · subst hz; simp [Addr.add]
        · simp [Addr.add, hz]
      rw [ea, h4 j hj']
      simp [hj', cb] at hj
      rw [← hj]
    · intro u hu
      obtain ⟨c, _, rfl⟩ := List.mem_map.1 hu
      rfl
    · intro v' w' ho' hg _
      exact h v' w' (by simpa [OwnB] using ho') (hbel w' hg)

theorem OwnB.drew {base : Nat} {w : World} {v : Value} {l : List UInt8} (h : OwnB base w v l) : OwnB base w.drew v l := h

theorem rd_two (w : World) (x y : Int) (a b : UInt8) (n : Nat) (h1 : x = (a.toNat : Int)) (h2 : y = (b.toNat : Int)) (hn : n = w.heap.size) : RdB (w.alloc (.cells #[.int .u8 x, .int .u8 y] 5)) (.slice (some ⟨n, 0, none⟩) 2 2) [a, b] := by
  subst hn
  refine .inr ⟨w.heap.size, 0, 2, by simp, rfl, by simp, by unfold maxLen; omega, by simp, ?_⟩
  intro i hi
  simp only [List.length_cons, List.length_nil] at hi
  rcases (show i = 0 ∨ i = 1 from by omega) with rfl | rfl
  · simp [World.cell?_alloc_at, h1]
  · simp [World.cell?_alloc_at, h2]

theorem rd_four (w : World) (x y z u : Int) (a b c d : UInt8) (n : Nat) (h1 : x = (a.toNat : Int)) (h2 : y = (b.toNat : Int)) (h3 : z = (c.toNat : Int)) (h4 : u = (d.toNat : Int)) (hn : n = w.heap.size) : RdB (w.alloc (.cells #[.int .u8 x, .int .u8 y, .int .u8 z, .int .u8 u] 5)) (.slice (some ⟨n, 0, none⟩) 4 4) [a, b, c, d] := by
  subst hn
  refine .inr ⟨w.heap.size, 0, 4, by simp, rfl, by simp, by unfold maxLen; omega, by simp, ?_⟩
  intro i hi
  simp only [List.length_cons, List.length_nil] at hi
  rcases (show i = 0 ∨ i = 1 ∨ i = 2 ∨ i = 3 from by omega) with rfl | rfl | rfl | rfl
  · simp [World.cell?_alloc_at, h1]
  · simp [World.cell?_alloc_at, h2]
  · simp [World.cell?_alloc_at, h3]
  · simp [World.cell?_alloc_at, h4]

theorem own_some {base : Nat} {w : World} {v : Value} {l : List UInt8} (h : OwnB base w v l) (hl : 0 < l.length) : ∃ a n c, v = .slice (some a) n c := by
  obtain ⟨g, cap, hv, _⟩ := h.shape (by intro e; rw [e] at hl; simp at hl)
  exact ⟨_, _, _, hv⟩

theorem str_own (w : World) (v : Value) (l : List UInt8) (h : RdB w v l) (hv : ∃ a n c, v = .slice (some a) n c) : (convert 22 9 v).run Tryz.prog w = .ok (.string ⟨l.toArray⟩) w := by
  rcases h with ⟨a, cap, rfl, rfl, hn⟩ | ⟨b, off, cap, h0, rfl, h1, h2, h3, h4⟩
  · obtain ⟨a', n', c', hv'⟩ := hv
    simp only [Value.slice.injEq] at hv'
    obtain ⟨rfl, _, rfl⟩ := hv'
    have := run_convert_bytes_back (P := Tryz.prog) w 22 9 5 a' cap [] Tryz.underlying22 Tryz.underlying5 Tryz.underlying9 (by intro j hj; simp at hj)
    simpa using this
  · exact run_convert_bytes_back (P := Tryz.prog) w 22 9 5 ⟨b, off, none⟩ cap l Tryz.underlying22 Tryz.underlying5 Tryz.underlying9 (by
      intro j hj
      have ea : (⟨b, off, none⟩ : Addr).add j = ⟨b, off + j, none⟩ := by
        by_cases hz : j = 0
        · subst hz; simp [Addr.add]
        · simp [Addr.add, hz]
      rw [ea, h4 j hj])
end Go.Proofs.YtkjlmnhdmlolmaaGreatDoor

namespace Go.Proofs.YtkjlmnhdmlolmaaGreatDoor
open Go.RowKit
set_option linter.unusedVariables false

def uv (n : Nat) : Value := .int .u32 (n : Int)

/-- The block g holds the words l from its head on, and may be written. -/
def Ar (w : World) (g : Nat) (l : List Nat) : Prop := ∀ j (h : j < l.length), w.cell? ⟨g, j, none⟩ = some (.int .u32 (l[j] : Int)) ∧ w.frozen? ⟨g, j, none⟩ = false

theorem Ar.range {w : World} {g : Nat} {l : List Nat} (h : Ar w g l) : w.rangeAt g 0 (l.map uv) := by
  intro j v hv
  rw [List.getElem?_map] at hv
  have hj : j < l.length := by
    rcases Nat.lt_or_ge j l.length with h | h
    · exact h
    · rw [List.getElem?_eq_none h] at hv; simp at hv
  rw [List.getElem?_eq_getElem hj] at hv
  simp only [Option.map_some, Option.some.injEq] at hv
  rw [show 0 + j = j from by omega, (h j hj).1, ← hv]
  rfl
theorem Ar.there {w : World} {g : Nat} {l : List Nat} (h : Ar w g l) : w.there g 0 l.length := by
  intro j hj
  rw [show 0 + j = j from by omega, (h j hj).1]
  exact ⟨rfl, (h j hj).2⟩
theorem Ar.below {B : Nat} {w w' : World} {g : Nat} {l : List Nat} (h : Ar w g l) (hb : Below B w w') (hg : g < B) : Ar w' g l := by
  intro j hj
  exact ⟨(hb.cell (p := ⟨g, j, none⟩) hg).trans (h j hj).1, (hb.frozen (p := ⟨g, j, none⟩) hg).trans (h j hj).2⟩
theorem Ar.sm {w w' : World} {g : Nat} {l : List Nat} (h : Ar w g l) (hb : Sm w w') : Ar w' g l := h.below (hb (g + 1)) (Nat.lt_succ_self _)
theorem Ar.alloc {w : World} {g : Nat} {l : List Nat} (h : Ar w g l) (hg : g < w.heap.size) (o : Obj) : Ar (w.alloc o) g l := h.below ((Below.refl _ _).alloc (Nat.le_refl _) o) hg
theorem Ar.new (w : World) (g : Nat) (l : List Nat) (t : TypeId) (a : Array Value) (ha : a = (l.map uv).toArray) (hg : g = w.heap.size) : Ar (w.alloc (.cells a t)) g l := by
  subst ha; subst hg
  intro j hj
  constructor
  · rw [World.cell?_alloc_at _ _ _ _ rfl]
    simp [hj, uv]
  · simp [World.frozen?_alloc_new]
theorem Ar.set {w : World} {g : Nat} {l : List Nat} (h : Ar w g l) (k x : Nat) (hk : k < l.length) : Ar (w.setCell ⟨g, k, none⟩ (.int .u32 (x : Int))) g (l.set k x) := by
  intro j hj
  rw [List.length_set] at hj
  refine ⟨?_, by rw [World.frozen?_setCell]; exact (h j hj).2⟩
  by_cases e : k = j
  · subst e
    rw [World.cell?_setCell_same _ _ _ (h k hj).1]
    simp
  · rw [World.cell?_setCell_other _ _ _ _ (by intro q; injection q with _ q2; exact e q2), (h j hj).1]
    simp [e]
theorem Ar.setOther {w : World} {g : Nat} {l : List Nat} (h : Ar w g l) (p : Addr) (v : Value) (hp : p.block ≠ g) : Ar (w.setCell p v) g l := by
  intro j hj
  refine ⟨?_, by rw [World.frozen?_setCell]; exact (h j hj).2⟩
  rw [World.cell?_setCell_other _ _ _ _ (by intro e; subst e; exact hp rfl), (h j hj).1]
theorem Ar.sets {w : World} {g : Nat} {l : List Nat} (h : Ar w g l) (l' : List Nat) (hl : l'.length = l.length) : Ar (w.setCells g 0 (l'.map uv)) g l' := by
  intro j hj
  have h1 := World.rangeAt_setCells_same w g 0 (l'.map uv) (by rw [List.length_map, hl]; exact h.there) j (uv l'[j]) (by simp [hj])
  rw [show 0 + j = j from by omega] at h1
  exact ⟨h1, by rw [World.frozen?_setCells]; exact (h j (by omega)).2⟩
theorem Ar.setsOther {w : World} {g : Nat} {l : List Nat} (h : Ar w g l) (b o : Nat) (vs : List Value) (hb : g ≠ b) : Ar (w.setCells b o vs) g l := by
  intro j hj
  refine ⟨?_, by rw [World.frozen?_setCells]; exact (h j hj).2⟩
  rw [World.cell?_setCells_out b vs o w ⟨g, j, none⟩ (fun e => absurd e hb), (h j hj).1]
theorem rangeAt_below {B : Nat} {w w' : World} {g : Nat} {cs : List Value} (h : w.rangeAt g 0 cs) (hb : Below B w w') (hg : g < B) : w'.rangeAt g 0 cs := fun j v hv =>
  (hb.cell (p := ⟨g, 0 + j, none⟩) hg).trans (h j v hv)
theorem below_setCells {B : Nat} {w w' : World} (h : Below B w w') (g : Nat) (hg : B ≤ g) : ∀ (vs : List Value) (o : Nat), Below B w (w'.setCells g o vs) := by
  intro vs
  induction vs generalizing w' with
  | nil => intro o; exact h
  | cons v r ih => intro o; exact ih (h.setCell (p := ⟨g, o, none⟩) hg v) _
theorem run_index_array (P : Program) (w : World) (t e : TypeId) (n : Nat) (cs : Array Value) (k : IntKind) (i : Nat) (hi : i < n) (h : P.underlying t = some (.array n e)) (hsz : ∀ w, (sizeOf e).run P w = .ok 1 w) (hag : ∀ w, (isAgg e).run P w = .ok false w) (v : Value) (hv : cs[i]? = some v) :
    (Instr.index t (.agg cs) (.int k (i : Int))).run P w = .ok v w := by
  have hn : (0 : Int) ≤ (i : Int) ∧ (i : Int) < (n : Int) := by omega
  simp [Instr.index, run_underlying h, asIntOf, hn, go_sem, hi, hsz, hag, hv]
end Go.Proofs.YtkjlmnhdmlolmaaGreatDoor

namespace Go.Proofs.YtkjlmnhdmlolmaaGreatDoor
open Go.RowKit
set_option linter.unusedVariables false

def be4 (x : Nat) : List UInt8 := [UInt8.ofNat (x / 16777216 % 256), UInt8.ofNat (x / 65536 % 256), UInt8.ofNat (x / 256 % 256), UInt8.ofNat (x % 256)]
def bytesS (s : S8) : List UInt8 := s.list.flatMap be4
theorem bytesS_len (s : S8) : (bytesS s).length = 32 := rfl
theorem flat_snoc (l : List Nat) (k : Nat) (h : k < l.length) : (l.take (k + 1)).flatMap be4 = (l.take k).flatMap be4 ++ be4 l[k] := by
  rw [List.take_succ_eq_append_getElem h, List.flatMap_append]
  simp only [List.flatMap_cons, List.flatMap_nil, List.append_nil]
theorem flatB_len (l : List Nat) : (l.flatMap be4).length = 4 * l.length := by
  induction l with
  | nil => rfl
  | cons c t ih => simp only [List.flatMap_cons, List.length_append, List.length_cons, ih, be4, List.length_nil]; omega
theorem byte_at (x d : Nat) : (x : Int) / (d : Int) % 256 = ((UInt8.ofNat (x / d % 256)).toNat : Int) := by
  rw [UInt8.toNat_ofNat', Nat.mod_eq_of_lt (by omega)]
  simp
theorem byte_at1 (x : Nat) : (x : Int) % 256 = ((UInt8.ofNat (x % 256)).toNat : Int) := by
  rw [UInt8.toNat_ofNat', Nat.mod_eq_of_lt (by omega)]
  simp
/-- The block g can be read as the bytes l from its head on. -/
def Ab (w : World) (g : Nat) (l : List UInt8) : Prop := g < w.heap.size ∧ ∀ i (h : i < l.length), w.cell? ⟨g, i, none⟩ = some (.int .u8 (l[i].toNat : Int))
theorem Ab.below {B : Nat} {w w' : World} {g : Nat} {l : List UInt8} (h : Ab w g l) (hb : Below B w w') (hB : w.heap.size ≤ B) : Ab w' g l :=
  ⟨by have := hb.size; have := h.1; omega, fun i hi => (hb.cell (p := ⟨g, i, none⟩) (by have := h.1; show g < B; omega)).trans (h.2 i hi)⟩
theorem Ab.setsOther {w : World} {g : Nat} {l : List UInt8} (h : Ab w g l) (b o : Nat) (vs : List Value) (hb : g ≠ b) : Ab (w.setCells b o vs) g l :=
  ⟨by have := (below_setCells (Below.refl 0 w) b (Nat.zero_le _) vs o).size; have := h.1; omega, fun i hi => (World.cell?_setCells_out b vs o w ⟨g, i, none⟩ (fun e => absurd e hb)).trans (h.2 i hi)⟩
theorem OwnB.ab {base : Nat} {w : World} {v : Value} {l : List UInt8} {g n cap B : Nat} (h : OwnB base w v l) (hv : v = .slice (some ⟨g, 0, none⟩) n cap) (hB : B ≤ base) (hn : 0 < l.length) : Ab w g l ∧ B ≤ g ∧ cap ≤ maxLen := by
  rcases h.2 with ⟨hv', h0⟩ | ⟨g', cap', cur, hv', hb, hg, hnc, hcm, hcs, ht⟩
  · omega
  · have e := hv.symm.trans hv'
    simp only [Value.slice.injEq, Option.some.injEq, Addr.mk.injEq, and_true] at e
    obtain ⟨rfl, rfl, rfl⟩ := e
    subst hv
    exact ⟨⟨(Array.getElem?_eq_some_iff.1 hg).1, fun i hi => by
      rw [World.ownsRow.cellAt h i (by simpa using hi)]
      simp [hi, cb]⟩, by omega, hcm⟩
end Go.Proofs.YtkjlmnhdmlolmaaGreatDoor

namespace Go.Proofs.YtkjlmnhdmlolmaaGreatDoor
open Go.RowKit
set_option linter.unusedVariables false

theorem RdB.drew {w : World} {v : Value} {l : List UInt8} (h : RdB w v l) : RdB w.drew v l := h.below ((Below.refl w.heap.size w).drew) (Nat.le_refl _)
theorem u8_at (x d : Nat) : IntKind.u8.wrap ((x : Int) / (d : Int)) = (((UInt8.ofNat (x / d % 256)).toNat : Nat) : Int) := by
  rw [IntKind.wrap_u8', byte_at]
theorem u8_at1 (x : Nat) : IntKind.u8.wrap (x : Int) = (((UInt8.ofNat (x % 256)).toNat : Nat) : Int) := by
  rw [IntKind.wrap_u8', byte_at1]

set_option maxRecDepth 20000 in
set_option maxHeartbeats 2000000 in
theorem specDigest_any (v : Value) (l : List UInt8) (w : World) (hr : RdB w v l) (hl : l.length ≤ 4000000) :
    Calls Tryz.prog 140 #[v] w fun e w' => e = .returned (.string ⟨(bytesS (shaFold (padB l) (padQ l.length))).toArray⟩) ∧ Below w.heap.size w w' := by
  have Hp := hide (specPadded_any v l w hr hl)
  clear hr
  obtain ⟨P, hP⟩ : ∃ P, padB l = P := ⟨_, rfl⟩
  obtain ⟨Q, hQ⟩ : ∃ Q, padQ l.length = Q := ⟨_, rfl⟩
  have hPQ : P.length = 64 * Q := by rw [← hP, ← hQ]; exact padB_q l
  have hQ1 : 1 ≤ Q := by rw [← hQ]; unfold padQ; omega
  have hQ2 : Q ≤ 70000 := by rw [← hQ]; unfold padQ; omega
  rw [hP] at Hp ⊢
  rw [hQ]
  have HPQ := hide hPQ
  clear hP hQ hPQ
  go_enter Tryz.func140, Tryz.ntmps140
  go_wp2_with fail
  refine Hp.out.mono ?_
  rintro e w2 ⟨pv, rfl, ho, hb2⟩
  have hPQ := HPQ.out
  obtain ⟨g, cap, hpv, hcap, hcm⟩ := ho.shape (by intro e; rw [e] at hPQ; simp at hPQ; omega)
  have hab := ho.ab (by simpa using hpv) (Nat.le_refl _) (by omega)
  rw [hpv, hPQ]
  have hcap' : 64 * Q ≤ cap := by omega
  have Hab := hide hab.1
  have Hcm := hide hab.2.2
  have Hb2 := hide hb2
  have hs2 := hb2.size
  clear hab ho hb2 hpv hcap hPQ Hp
  go_wp2_with fail
  refine (l2K_any _).mono ?_
  rintro e w3 ⟨rfl, hk3, hb3⟩
  have hs3 := hb3.size
  simp only [World.size_alloc] at hs3
  have Ha : Hid (An w3 w2.heap.size (shaFold P 0).list) := hide ((An.new w2 _ _ _ _ rfl rfl).below hb3 (by simp))
  have Hb3 : Hid (Below w2.heap.size w2 w3) := hide (((Below.refl w2.heap.size w2).alloc (Nat.le_refl _) _).trans (hb3.mono (by simp)))
  have Hk := hide hk3
  have Hab3 := hide (Hab.out.below Hb3.out (Nat.le_refl _))
  clear hk3 hb3 Hab
  have hkg : w2.heap.size + 1 < w3.heap.size := by have := Hk.out.1; simp only [World.size_alloc] at this; exact this
  have Hk' : Hid (An w3 (w2.heap.size + 1) kC) := hide (by have := Hk.out; simp only [World.size_alloc] at this; exact this)
  clear Hk
  go_wp2
  go_loopw [4, 6] (fun ov iv' wr => ∃ (t at' gh ch : Nat), at' = 64 * t ∧ t ≤ Q ∧ iv' = .int .i64 (at' : Int) ∧ ov = .slice (some ⟨gh, 0, none⟩) 8 ch ∧ An wr gh (shaFold P t).list ∧ Below w3.heap.size w3 wr) (fun _ iv' _ => 64 * Q - (intOf iv').toNat)
  case atStart => exact ⟨0, 0, w2.heap.size, 8, by omega, by omega, rfl, rfl, Ha.out, Below.refl _ _⟩
  case round =>
    clear Ha
    obtain ⟨t, at', gh, ch, hat, ht, rfl, rfl, han, hb⟩ := hrel
    by_cases hlt : t < Q
    · have hi1 : (at' : Int) < ((64 * Q : Nat) : Int) := by omega
      obtain ⟨en, hen⟩ : ∃ en, at' + 64 = en := ⟨_, rfl⟩
      have hi2 : (at' : Int) + 64 = (en : Int) := by omega
      have hi3 : (at' : Int) ≤ (en : Int) := by omega
      have hi4 : (en : Int) ≤ (cap : Int) := by omega
      have hi5 : at' < cap := by omega
      have hi6 : en ≤ cap := by omega
      have hi7 : en - at' = 64 := by omega
      have hi8 : at' ≤ en := by omega
      have hi9 : ¬ cap = at' := by omega
      have hPQ := HPQ.out
      have Hfn := hide (show shaFold P (t + 1) = blockS (shaFold P t) (wordsB (blk P t)) from rfl)
      have hbl := blk_len P t (by omega)
      have hab := Hab3.out.below hb (Nat.le_refl _)
      have hcell : ∀ i (h : i < (blk P t).length), wr.cell? ⟨g, at' + i, none⟩ = some (.int .u8 ((blk P t)[i].toNat : Int)) := by intro i h; rw [blk_at P t i (by omega) h, hat]; exact hab.2 (64 * t + i) (by omega)
      have Hcall := hide (specBlock_any gh ch g at' (cap - at') (w2.heap.size + 1) 64 (shaFold P t) (blk P t) wr (shaFold_lt P t) han (Hk'.out.below hb hkg) hbl (by omega) (by have := Hcm.out; omega) hab.1 hcell)
      rw [← Hfn.out] at Hcall
      have Hb := hide hb
      have Hat := hide hat
      have hsw := hb.size
      clear hat han hb hab hcell hbl hPQ Hfn
      go_wp2_with fail
      refine Hcall.out.mono ?_
      rintro e wb ⟨g', cp, rfl, han', hg', hbb⟩
      go_wp2
      go_roundw
      case rel => exact ⟨t + 1, en, g', cp, by have := Hat.out; omega, by omega, rfl, rfl, han', Hb.out.trans (hbb.mono hsw)⟩
      case measure => simp [intOf]; have := Hat.out; omega
    · obtain ⟨wz, rfl⟩ : ∃ wz, wz = wr := ⟨_, rfl⟩
      have etq : t = Q := by omega
      rw [etq] at han hat
      have hlq : decide ((at' : Int) < 64 * (Q : Int)) = false := by rw [decide_eq_false_iff_not]; omega
      have hge : ((64 * Q : Nat) : Int) ≤ (at' : Int) := by omega
      obtain ⟨L, hL⟩ : ∃ L, (shaFold P Q).list = L := ⟨_, rfl⟩
      have hLl : L.length = 8 := by rw [← hL]; rfl
      have hbs : bytesS (shaFold P Q) = L.flatMap be4 := by unfold bytesS; rw [hL]
      have Hbs := hide hbs
      rw [hL] at han
      have Hbq : Hid (Below w.heap.size w wz) := hide (Hb2.out.trans ((Hb3.out.mono hs2).trans (hb.mono (by have := Hb3.out.size; omega))))
      have hsz : w.heap.size ≤ wz.heap.size := Hbq.out.size
      have Han := hide han
      have hghl : gh < wz.heap.size := han.1
      have Ho := hide (own_nil wz wz.heap.size (Nat.le_refl _))
      have Hbr := hide ((Below.refl wz.heap.size wz).alloc (Nat.le_refl _) (.cells #[] 5))
      clear hat han hb hL hbs etq
      go_wp2
      go_loopw [7, 8] (fun ov iv' wq => ∃ k : Nat, k ≤ 8 ∧ iv' = .int .i64 (k : Int) ∧ OwnB wz.heap.size wq ov ((L.take k).flatMap be4) ∧ Below wz.heap.size wz wq) (fun _ iv' _ => 8 - (intOf iv').toNat)
      case atStart => exact ⟨0, by omega, rfl, by simpa using Ho.out, Hbr.out⟩
      case round =>
        clear Ho Hbr
        obtain ⟨k, hk, rfl, ho, hb⟩ := hrel
        have hsq := hb.size
        have Ho := hide ho
        have Hb := hide hb
        by_cases hk8 : k < 8
        · have hki : (k : Int) < 8 := by omega
          have cx := (Han.out.below hb hghl).2 k (by omega)
          have Hsn := hide (flat_snoc L k (by omega))
          have hTl : ((L.take k).flatMap be4).length ≤ 32 := by rw [flatB_len]; simp; omega
          generalize L[k]'(by omega) = x at cx Hsn
          generalize hT : (L.take k).flatMap be4 = T at Ho Hsn hTl
          have y0 : IntKind.u8.wrap ((x : Int) / 16777216) = (((UInt8.ofNat (x / 16777216 % 256)).toNat : Nat) : Int) := u8_at x 16777216
          have y1 : IntKind.u8.wrap ((x : Int) / 65536) = (((UInt8.ofNat (x / 65536 % 256)).toNat : Nat) : Int) := u8_at x 65536
          have y2 : IntKind.u8.wrap ((x : Int) / 256) = (((UInt8.ofNat (x / 256 % 256)).toNat : Nat) : Int) := u8_at x 256
          have y3 := u8_at1 x
          have Hx := hide (show be4 x = [UInt8.ofNat (x / 16777216 % 256), UInt8.ofNat (x / 65536 % 256), UInt8.ofNat (x / 256 % 256), UInt8.ofNat (x % 256)] from rfl)
          generalize UInt8.ofNat (x / 16777216 % 256) = b0 at y0 Hx
          generalize UInt8.ofNat (x / 65536 % 256) = b1 at y1 Hx
          generalize UInt8.ofNat (x / 256 % 256) = b2 at y2 Hx
          generalize UInt8.ofNat (x % 256) = b3 at y3 Hx
          rw [Hx.out] at Hsn
          clear hT ho hb Hx
          go_wp2
          go_region_held_law (fun w' => w'.cell? ⟨gh, k, none⟩ = some (.int .i64 (x : Int))) (go_keep)
            ((refine step_app_own rfl _ _ rfl wz.heap.size u7 _ T [b0, b1, b2, b3] (by rfl) (by rfl) (Ho.out.alloc _).drew (rd_four wr _ _ _ _ b0 b1 b2 b3 _ rfl rfl rfl rfl rfl).drew (by simp) (by simp; omega) (by simp; omega) ?_; intro v3 w3 ho3 hb3; have hbB : Below wz.heap.size wr w3 := (((Below.refl _ wr).alloc hsq _).drew).trans hb3; have kx := (hbB.cell (p := ⟨gh, k, none⟩) hghl).trans cx))
          go_wp2
          go_roundw
          case rel => exact ⟨k + 1, by omega, by go_num, by rw [Hsn.out]; exact ho3, Hb.out.trans hbB⟩
          case measure => simp [intOf]; omega
        · have e8 : k = 8 := by omega
          rw [List.take_of_length_le (by omega)] at ho
          have hcv := str_own _ _ _ ho.rd (own_some ho (by rw [flatB_len]; omega))
          clear ho hb
          go_wp2
          go_ret
          exact ⟨by rw [Hbs.out]; rfl, Hbq.out.trans (Hb.out.mono hsz)⟩
end Go.Proofs.YtkjlmnhdmlolmaaGreatDoor
