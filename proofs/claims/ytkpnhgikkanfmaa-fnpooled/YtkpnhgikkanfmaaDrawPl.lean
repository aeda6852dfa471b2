/- Drawn pools. -/
import Derived.Test.YtkpnhgikkanfmaaPlAddS
import Derived.Test.YtkpnhgikkanfmaaDrawTx5
import Derived.Test.YtkpnhgikkanfmaaDrawSz
namespace Go.Proofs.Ytkpnhgikkanfmaa
open Go.RowKit
set_option linter.unusedVariables false

theorem OwnT.notg {base : Nat} {w w' : World} {v : Value} {l : List Tx5} {g : Nat} (h : OwnT base w v l) (hg : w.grownBy w' (some g)) (hb : g < base) : OwnT base w' v l := by
  refine ⟨h.1, ?_⟩
  rcases h.2 with h2 | ⟨q, cap, cur, hv, hb2, hh, hrest⟩
  · exact .inl h2
  · exact .inr ⟨q, cap, cur, hv, hb2, (hg.block q (Array.getElem?_eq_some_iff.1 hh).1 (fun e => by have := Option.some.inj e; omega)).trans hh, hrest⟩
theorem SmT.fit {t : Tx5} (h : SmT t) : t.2.1.size ≤ maxLen ∧ t.2.2.1.size ≤ maxLen := by
  unfold SmT at h; unfold maxLen; omega
/-- What a drawn pool is. -/
def DrP (w0 w : World) (g : Nat) (cv : Value) (code : List UInt8) (most : Nat) (e : Ending) (w' : World) : Prop := ∃ (v : Value) (l : List Tx5), e = .returned v ∧ OwnT w.heap.size w' v l ∧ l.length ≤ most ∧ (∀ x ∈ l, SmT x) ∧ Cur w0 w' g cv code ∧ w.grownBy w' (some g)
theorem poS_mem {l : List Tx5} {t x : Tx5} (h : x ∈ (poS l t).1) : x = t ∨ x ∈ l := by
  unfold poS at h
  split at h
  · exact insT_mem.1 h
  · exact .inr h
theorem poS_few (l : List Tx5) (t : Tx5) : (poS l t).1.length ≤ l.length + 1 := by
  unfold poS
  split
  · rw [insT_len]; exact Nat.le_refl _
  · simp
set_option maxRecDepth 20000 in
set_option maxHeartbeats 2000000 in
theorem l12Draw_any (w0 w : World) (g : Nat) (cv : Value) (code : List UInt8) (most : Nat) (hc : Cur w0 w g cv code) (hl : code.length ≤ 1048576) (hm : most ≤ 1000) :
    Calls Try.prog 107 #[.pointer (some ⟨g, 0, none⟩), .int .i64 (most : Int)] w fun e w' => DrP w0 w g cv code most e w' := by
  have hgl := hc.lt
  have hb1 : Below w.heap.size w (w.alloc (.cells #[] 34)) := (Below.refl _ w).alloc (Nat.le_refl _) _
  have HC1 := hide (hc.below hb1 hgl)
  have Ho := hide (own_nilT w w.heap.size (Nat.le_refl _))
  have HG1 := hide (grw_of_below (some g) hb1 (Nat.le_refl _))
  clear hc
  go_enter Try.func107, Try.ntmps107
  go_wp2_with fail
  refine (l1Below_any w0 _ g cv code (most : Int) HC1.out hl (by omega) (by omega)).mono ?_
  rintro e w2 ⟨n, rfl, hn1, hn2, hc2, hg2⟩
  have hn : n ≤ most := by
    by_cases h : (0 : Int) < (most : Int)
    · have := hn1 h; omega
    · have := hn2 (by omega); omega
  have HC2 := hide hc2
  have HG2 := hide (grw_trans HG1.out hg2)
  have HO2 := hide (Ho.out.notg hg2 hgl)
  clear hn1 hn2 hc2 hg2 Ho HG1 HC1 hb1
  go_wp2
  go_loopw [5, 6] (fun ov iv wr => ∃ (i : Nat) (l : List Tx5) (a : Option Addr) (c : Nat), l.length + i ≤ most ∧ iv = .int .i64 (i : Int) ∧ ov = .slice a l.length c ∧ OwnT w.heap.size wr (.slice a l.length c) l ∧ (∀ x ∈ l, SmT x) ∧ Cur w0 wr g cv code ∧ w.grownBy wr (some g)) (fun _ iv _ => (intOf iv).toNat)
  case atStart => exact ⟨n, [], some ⟨w.heap.size, 0, none⟩, 0, by simp; omega, rfl, rfl, HO2.out, (fun x hx => by cases hx), HC2.out, HG2.out⟩
  case round =>
    obtain ⟨i, l, a, c, hil, rfl, rfl, ho, hsm, hc, hg⟩ := hrel
    clear HO2 HC2 HG2
    have hsz := hg.size
    have HO := hide ho
    have HS := hide hsm
    have HC := hide hc
    have HG := hide hg
    clear ho hsm hc hg
    by_cases h0 : 0 < i
    · have hpos : (0 : Int) < (i : Int) := by omega
      go_wp2_with fail
      refine (l5Tx_any w0 wr g cv code HC.out hl).mono ?_
      rintro e w3 ⟨t, rfl, ht, hc3, hg3⟩
      have hz3 := hg3.size
      have HO3 := hide (HO.out.notg hg3 hgl)
      have HA := hide (specAddP_any (.slice a l.length c) l t w3 HO3.out.rd (by omega) (fun x hx => (HS.out x hx).fit) ht.fit)
      have HS3 : Hid (∀ x ∈ (poS l t).1, SmT x) := hide (fun x hx => by
        rcases poS_mem hx with rfl | h
        · exact ht
        · exact HS.out x h)
      have hlen := poS_few l t
      generalize poS l t = X at HA HS3 hlen
      obtain ⟨X, b⟩ := X
      obtain ⟨kd, fm, tn, am, nc⟩ := t
      simp only [txV] at HA HS3 hlen ⊢
      have HC3 := hide hc3
      have HG3 := hide (grw_trans HG.out hg3)
      clear ht hc3 hg3 HO HS HC HG HO3
      go_wp2_with fail
      refine HA.out.mono ?_
      rintro e w4 ⟨v4, rfl, o4, hb4⟩
      obtain ⟨a4, c4, rfl⟩ := o4.rd.shape
      have HO4 := hide (own_to o4 (show w.heap.size ≤ w3.heap.size by omega))
      have HC4 := hide (HC3.out.below hb4 HC3.out.lt)
      have HG4 := hide (grw_below HG3.out hb4 (by omega))
      clear o4 hb4 HC3 HG3
      go_wp2
      go_roundw
      case rel => exact ⟨i - 1, X, a4, c4, by omega, by first | go_num | (congr 1; omega), rfl, HO4.out, HS3.out, HC4.out, HG4.out⟩
      case measure => simp [intOf]; omega
    · have hpos : ¬ ((0 : Int) < (i : Int)) := by omega
      go_wp2
      go_ret
      exact ⟨_, l, rfl, HO.out, by omega, HS.out, HC.out, HG.out⟩
set_option maxRecDepth 20000 in
set_option maxHeartbeats 2000000 in
theorem l12Any_any (w0 w : World) (g : Nat) (cv : Value) (code : List UInt8) (most : Nat) (hc : Cur w0 w g cv code) (hl : code.length ≤ 1048576) (hm : most ≤ 1000) :
    Calls Try.prog 58 #[.pointer (some ⟨g, 0, none⟩), .int .i64 (most : Int)] w fun e w' => DrP w0 w g cv code (most + 1) e w' := by
  have hgl := hc.lt
  have HD := hide (l12Draw_any w0 w g cv code most hc hl hm)
  clear hc
  go_enter Try.func58, Try.ntmps58
  go_wp2_with fail
  refine HD.out.mono ?_
  rintro e w1 ⟨v1, l, rfl, o1, hlen, hsm, hc1, hg1⟩
  obtain ⟨a1, c1, rfl⟩ := o1.rd.shape
  have HO := hide o1
  have HS := hide hsm
  have HG := hide hg1
  have HC := hide hc1
  clear o1 hsm hg1 hc1 HD
  go_wp2_with fail
  refine (l1Once_any w0 w1 g cv code 8 HC.out hl (by omega) (by omega)).mono ?_
  rintro e w2 ⟨b, rfl, hc2, hg2⟩
  have HO2 := hide (HO.out.notg hg2 hgl)
  have HG2 := hide (grw_trans HG.out hg2)
  have HC2 := hide hc2
  clear hc2 hg2 HO HG HC
  cases b
  · go_wp2
    go_ret
    exact ⟨_, l, rfl, HO2.out, by omega, HS.out, HC2.out, HG2.out⟩
  · go_wp2_with fail
    refine (l5Any_any w0 w2 g cv code HC2.out hl).mono ?_
    rintro e w3 ⟨t, rfl, ht, hc3, hg3⟩
    have hz3 := (grw_trans HG2.out hg3).size
    obtain ⟨kd, fm, tn, am, nc⟩ := t
    simp only [txV]
    have hb4 : Below w3.heap.size w3 (w3.alloc (.cells #[.int .i64 kd, .string fm, .string tn, .int .i64 am, .int .i64 nc] 34)) := (Below.refl _ w3).alloc (Nat.le_refl _) _
    have HO4 := hide ((HO2.out.notg hg3 hgl).below hb4 (Nat.le_refl _))
    have HK4 := hide (Blk.new w3 34 [.int .i64 kd, .string fm, .string tn, .int .i64 am, .int .i64 nc])
    have HC4 := hide (hc3.below hb4 hc3.lt)
    have HG4 := hide (grw_below (grw_trans HG2.out hg3) hb4 (by omega))
    have Ht := hide ht
    clear ht hc3 hg3 HO2 HG2 HC2 hb4
    go_wp2_with (at_builtin; refine app_ownT1 _ rfl _ _ rfl w.heap.size _ _ l (kd, fm, tn, am, nc) rfl rfl HO4.out HK4.out (by omega) (by simp; omega) ?_; intro v5 w5 o5 hg5 hl5; obtain ⟨a5, c5, rfl⟩ := o5.rd.shape)
    go_ret
    have hB5 : Below w.heap.size (w3.alloc (.cells #[.int .i64 kd, .string fm, .string tn, .int .i64 am, .int .i64 nc] 34)) w5 := (Below.refl _ _).grown hg5 (by simp; omega) (fun q hq => (HO4.out.lt q hq).1)
    rw [List.length_append, List.length_singleton] at o5
    refine ⟨.slice a5 (l.length + 1) c5, l ++ [(kd, fm, tn, am, nc)], rfl, o5, by simp; omega, fun x hx => ?_, HC4.out.below hB5 hgl, ?_⟩
    · rcases List.mem_append.1 hx with h | h
      · exact HS.out x h
      · rw [List.mem_singleton.1 h]; exact Ht.out
    · exact ⟨hB5.os.trans HG4.out.os, hB5.tape.trans HG4.out.tape, hB5.output.trans HG4.out.output, Nat.le_trans HG4.out.size hB5.size, fun k hk hn => (hB5.block k hk).trans (HG4.out.block k hk hn)⟩
end Go.Proofs.Ytkpnhgikkanfmaa
