/- How long what is drawn may be. Drawn pools. Orders that are good one behind the other, at most so many (plain). Votes and leavings in memory: two numbers and a name each. -/
import Derived.Test.YtbbkeebfginlfaaGreatDoorZgDrawNew
import Derived.Test.YtbbkeebfginlfaaGreatDoorZgPlAddS
import Derived.Test.YtbbkeebfginlfaaGreatDoorZgDrawAp
import Derived.Test.YtbbkeebfginlfaaGreatDoorZgShaTail
import Derived.Test.YtbbkeebfginlfaaGreatDoorZgAcMem
import Derived.Test.YtbbkeebfginlfaaGreatDoorZgIn
import Derived.Maps.AppendAt
import Derived.Laws.AppendOwnNone
namespace Go.Proofs.YtbbkeebfginlfaaGreatDoor
open Go.RowKit
set_option linter.unusedVariables false

set_option maxRecDepth 20000 in
theorem l1Size_any (cv : Value) (code : List UInt8) (most : Nat) (w : World) (hr : RdB w cv code) (hl : code.length ≤ 1048576) (hm : most ≤ 1000) :
    Calls Tryz.prog 35 #[cv, .int .i64 (most : Int)] w fun e w' => (∃ n : Nat, e = .returned (.int .i64 (n : Int)) ∧ n ≤ most) ∧ w' = w := by
  obtain ⟨a, c, rfl⟩ : ∃ a c, cv = .slice a code.length c := by
    rcases hr with ⟨a, c, h1, h2, -⟩ | ⟨b, off, c, h0, h1, _⟩
    · subst h2; exact ⟨a, c, h1⟩
    · exact ⟨_, c, h1⟩
  clear hr
  obtain ⟨q, hq⟩ : ∃ q : Nat, (code.length : Int) / 12 = (q : Int) := ⟨code.length / 12, by omega⟩
  have hqb : q ≤ 1048576 := by omega
  by_cases h : (most : Int) < 3 + (q : Int)
  · go_enter Tryz.func35, Tryz.ntmps35
    go_wp2
    go_ret
    exact ⟨⟨most, rfl, Nat.le_refl _⟩, rfl⟩
  · have h2 : 3 + q ≤ most := by omega
    go_enter Tryz.func35, Tryz.ntmps35
    go_wp2
    go_ret
    exact ⟨⟨3 + q, by congr 2, h2⟩, rfl⟩
end Go.Proofs.YtbbkeebfginlfaaGreatDoor

namespace Go.Proofs.YtbbkeebfginlfaaGreatDoor
open Go.RowKit
set_option linter.unusedVariables false

theorem OwnT.notg {base : Nat} {w w' : World} {v : Value} {l : List Tx5} {g : Nat} (h : OwnT base w v l) (hg : w.grownBy w' (some g)) (hb : g < base) : OwnT base w' v l := by
  refine ⟨h.1, ?_⟩
  rcases h.2 with h2 | ⟨q, cap, cur, hv, hb2, hh, hrest⟩
  · exact .inl h2
  · exact .inr ⟨q, cap, cur, hv, hb2, (hg.block q (Array.getElem?_eq_some_iff.1 hh).1 (fun e => by have := Option.some.inj e; omega)).trans hh, hrest⟩
theorem SmT.fit {t : Tx5} (h : SmT t) : t.2.1.size ≤ maxLen ∧ t.2.2.1.size ≤ maxLen := by
  unfold SmT at h; unfold maxLen; omega
/-- What a drawn pool is. -/
def DrP (w0 w : World) (g : Nat) (cv : Value) (code : List UInt8) (most : Nat) (e : Ending) (w' : World) : Prop := ∃ (v : Value) (l : List Tx5), e = .returned v ∧ OwnT w.heap.size w' v l ∧ l.length ≤ most ∧ (∀ x ∈ l, SmT x) ∧ Cur w0 w' g cv code ∧ w.grownBy w' (some g)
theorem poS_mem {l : List Tx5} {t x : Tx5} (h : x ∈ (poS l t).1) : x = t ∨ x ∈ l := by
  unfold poS at h
  split at h
  · exact insT_mem.1 h
  · exact .inr h
theorem poS_few (l : List Tx5) (t : Tx5) : (poS l t).1.length ≤ l.length + 1 := by
  unfold poS
  split
  · rw [insT_len]; exact Nat.le_refl _
  · simp
set_option maxRecDepth 20000 in
set_option maxHeartbeats 2000000 in
theorem l12Draw_any (w0 w : World) (g : Nat) (cv : Value) (code : List UInt8) (most : Nat) (hc : Cur w0 w g cv code) (hl : code.length ≤ 1048576) (hm : most ≤ 1000) :
    Calls Tryz.prog 53 #[.pointer (some ⟨g, 0, none⟩), .int .i64 (most : Int)] w fun e w' => DrP w0 w g cv code most e w' := by
  have hgl := hc.lt
  have hb1 : Below w.heap.size w (w.alloc (.cells #[] 48)) := (Below.refl _ w).alloc (Nat.le_refl _) _
  have HC1 := hide (hc.below hb1 hgl)
  have Ho := hide (own_nilT w w.heap.size (Nat.le_refl _))
  have HG1 := hide (grw_of_below (some g) hb1 (Nat.le_refl _))
  clear hc
  go_enter Tryz.func53, Tryz.ntmps53
  go_wp2_with fail
  refine (l1Below_any w0 _ g cv code (most : Int) HC1.out hl (by omega) (by omega)).mono ?_
  rintro e w2 ⟨n, rfl, hn1, hn2, hc2, hg2⟩
  have hn : n ≤ most := by
    by_cases h : (0 : Int) < (most : Int)
    · have := hn1 h; omega
    · have := hn2 (by omega); omega
  have HC2 := hide hc2
  have HG2 := hide (grw_trans HG1.out hg2)
  have HO2 := hide (Ho.out.notg hg2 hgl)
  clear hn1 hn2 hc2 hg2 Ho HG1 HC1 hb1
  go_wp2
  go_loopw [5, 6] (fun ov iv wr => ∃ (i : Nat) (l : List Tx5) (a : Option Addr) (c : Nat), l.length + i ≤ most ∧ iv = .int .i64 (i : Int) ∧ ov = .slice a l.length c ∧ OwnT w.heap.size wr (.slice a l.length c) l ∧ (∀ x ∈ l, SmT x) ∧ Cur w0 wr g cv code ∧ w.grownBy wr (some g)) (fun _ iv _ => (intOf iv).toNat)
  case atStart => exact ⟨n, [], some ⟨w.heap.size, 0, none⟩, 0, by simp; omega, rfl, rfl, HO2.out, (fun x hx => by cases hx), HC2.out, HG2.out⟩
  case round =>
    obtain ⟨i, l, a, c, hil, rfl, rfl, ho, hsm, hc, hg⟩ := hrel
    clear HO2 HC2 HG2
    have hsz := hg.size
    have HO := hide ho
    have HS := hide hsm
    have HC := hide hc
    have HG := hide hg
    clear ho hsm hc hg
    by_cases h0 : 0 < i
    · have hpos : (0 : Int) < (i : Int) := by omega
      go_wp2_with fail
      refine (l5Tx_any w0 wr g cv code HC.out hl).mono ?_
      rintro e w3 ⟨t, rfl, ht, hc3, hg3⟩
      have hz3 := hg3.size
      have HO3 := hide (HO.out.notg hg3 hgl)
      have HA := hide (specAddP_any (.slice a l.length c) l t w3 HO3.out.rd (by omega) (fun x hx => (HS.out x hx).fit) ht.fit)
      have HS3 : Hid (∀ x ∈ (poS l t).1, SmT x) := hide (fun x hx => by
        rcases poS_mem hx with rfl | h
        · exact ht
        · exact HS.out x h)
      have hlen := poS_few l t
      generalize poS l t = X at HA HS3 hlen
      obtain ⟨X, b⟩ := X
      obtain ⟨kd, fm, tn, am, nc⟩ := t
      simp only [txV] at HA HS3 hlen ⊢
      have HC3 := hide hc3
      have HG3 := hide (grw_trans HG.out hg3)
      clear ht hc3 hg3 HO HS HC HG HO3
      go_wp2_with fail
      refine HA.out.mono ?_
      rintro e w4 ⟨v4, rfl, o4, hb4⟩
      obtain ⟨a4, c4, rfl⟩ := o4.rd.shape
      have HO4 := hide (own_to o4 (show w.heap.size ≤ w3.heap.size by omega))
      have HC4 := hide (HC3.out.below hb4 HC3.out.lt)
      have HG4 := hide (grw_below HG3.out hb4 (by omega))
      clear o4 hb4 HC3 HG3
      go_wp2
      go_roundw
      case rel => exact ⟨i - 1, X, a4, c4, by omega, by first | go_num | (congr 1; omega), rfl, HO4.out, HS3.out, HC4.out, HG4.out⟩
      case measure => simp [intOf]; omega
    · have hpos : ¬ ((0 : Int) < (i : Int)) := by omega
      go_wp2
      go_ret
      exact ⟨_, l, rfl, HO.out, by omega, HS.out, HC.out, HG.out⟩
set_option maxRecDepth 20000 in
set_option maxHeartbeats 2000000 in
theorem l12Any_any (w0 w : World) (g : Nat) (cv : Value) (code : List UInt8) (most : Nat) (hc : Cur w0 w g cv code) (hl : code.length ≤ 1048576) (hm : most ≤ 1000) :
    Calls Tryz.prog 34 #[.pointer (some ⟨g, 0, none⟩), .int .i64 (most : Int)] w fun e w' => DrP w0 w g cv code (most + 1) e w' := by
  have hgl := hc.lt
  have HD := hide (l12Draw_any w0 w g cv code most hc hl hm)
  clear hc
  go_enter Tryz.func34, Tryz.ntmps34
  go_wp2_with fail
  refine HD.out.mono ?_
  rintro e w1 ⟨v1, l, rfl, o1, hlen, hsm, hc1, hg1⟩
  obtain ⟨a1, c1, rfl⟩ := o1.rd.shape
  have HO := hide o1
  have HS := hide hsm
  have HG := hide hg1
  have HC := hide hc1
  clear o1 hsm hg1 hc1 HD
  go_wp2_with fail
  refine (l1Once_any w0 w1 g cv code 8 HC.out hl (by omega) (by omega)).mono ?_
  rintro e w2 ⟨b, rfl, hc2, hg2⟩
  have HO2 := hide (HO.out.notg hg2 hgl)
  have HG2 := hide (grw_trans HG.out hg2)
  have HC2 := hide hc2
  clear hc2 hg2 HO HG HC
  cases b
  · go_wp2
    go_ret
    exact ⟨_, l, rfl, HO2.out, by omega, HS.out, HC2.out, HG2.out⟩
  · go_wp2_with fail
    refine (l5Any_any w0 w2 g cv code HC2.out hl).mono ?_
    rintro e w3 ⟨t, rfl, ht, hc3, hg3⟩
    have hz3 := (grw_trans HG2.out hg3).size
    obtain ⟨kd, fm, tn, am, nc⟩ := t
    simp only [txV]
    have hb4 : Below w3.heap.size w3 (w3.alloc (.cells #[.int .i64 kd, .string fm, .string tn, .int .i64 am, .int .i64 nc] 48)) := (Below.refl _ w3).alloc (Nat.le_refl _) _
    have HO4 := hide ((HO2.out.notg hg3 hgl).below hb4 (Nat.le_refl _))
    have HK4 := hide (Blk.new w3 48 [.int .i64 kd, .string fm, .string tn, .int .i64 am, .int .i64 nc])
    have HC4 := hide (hc3.below hb4 hc3.lt)
    have HG4 := hide (grw_below (grw_trans HG2.out hg3) hb4 (by omega))
    have Ht := hide ht
    clear ht hc3 hg3 HO2 HG2 HC2 hb4
    go_wp2_with (at_builtin; refine app_ownT1 _ rfl _ _ rfl w.heap.size _ _ l (kd, fm, tn, am, nc) rfl rfl HO4.out HK4.out (by omega) (by simp; omega) ?_; intro v5 w5 o5 hg5 hl5; obtain ⟨a5, c5, rfl⟩ := o5.rd.shape)
    go_ret
    have hB5 : Below w.heap.size (w3.alloc (.cells #[.int .i64 kd, .string fm, .string tn, .int .i64 am, .int .i64 nc] 48)) w5 := (Below.refl _ _).grown hg5 (by simp; omega) (fun q hq => (HO4.out.lt q hq).1)
    rw [List.length_append, List.length_singleton] at o5
    refine ⟨.slice a5 (l.length + 1) c5, l ++ [(kd, fm, tn, am, nc)], rfl, o5, by simp; omega, fun x hx => ?_, HC4.out.below hB5 hgl, ?_⟩
    · rcases List.mem_append.1 hx with h | h
      · exact HS.out x h
      · rw [List.mem_singleton.1 h]; exact Ht.out
    · exact ⟨hB5.os.trans HG4.out.os, hB5.tape.trans HG4.out.tape, hB5.output.trans HG4.out.output, Nat.le_trans HG4.out.size hB5.size, fun k hk hn => (hB5.block k hk).trans (HG4.out.block k hk hn)⟩
end Go.Proofs.YtbbkeebfginlfaaGreatDoor

namespace Go.Proofs.YtbbkeebfginlfaaGreatDoor
open Go.RowKit
set_option linter.unusedVariables false

/-- One order more: taken where it is good, and there is room. -/
def gdS (e : Int) (most : Nat) (s : List Ac × List Tx5) (t : Tx5) : List Ac × List Tx5 :=
  if s.2.length = most then s else if (apA e s.1 t).2 = 0 then ((apA e s.1 t).1, s.2 ++ [t]) else s
/-- The accounts behind the first good ones of these orders, at most so many; and these orders. -/
def gdA (e : Int) (l : List Ac) (ts : List Tx5) (most : Nat) : List Ac × List Tx5 := ts.foldl (gdS e most) (l, [])
theorem gdA_snoc (e : Int) (l : List Ac) (ts : List Tx5) (most k : Nat) (h : k < ts.length) : gdA e l (ts.take (k + 1)) most = gdS e most (gdA e l (ts.take k) most) ts[k] := by
  rw [List.take_succ_eq_append_getElem h]
  unfold gdA
  rw [List.foldl_append]
  rfl
theorem gdS_full {e : Int} {most : Nat} {s : List Ac × List Tx5} {t : Tx5} (h : s.2.length = most) : gdS e most s t = s := by unfold gdS; rw [if_pos h]
theorem gdS_good {e : Int} {most : Nat} {s : List Ac × List Tx5} {t : Tx5} (h : s.2.length ≠ most) (h2 : (apA e s.1 t).2 = 0) : gdS e most s t = ((apA e s.1 t).1, s.2 ++ [t]) := by unfold gdS; rw [if_neg h, if_pos h2]
theorem gdS_bad {e : Int} {most : Nat} {s : List Ac × List Tx5} {t : Tx5} (h : s.2.length ≠ most) (h2 : (apA e s.1 t).2 ≠ 0) : gdS e most s t = s := by unfold gdS; rw [if_neg h, if_neg h2]
/-- Where there is no room nothing more is taken. -/
theorem gd_stop {e : Int} {most : Nat} : ∀ (ts : List Tx5) (s : List Ac × List Tx5), s.2.length = most → ts.foldl (gdS e most) s = s
  | [], s, _ => rfl
  | t :: ts, s, h => by rw [List.foldl_cons, gdS_full h]; exact gd_stop (e := e) ts s h
theorem gdS_is (e : Int) (most : Nat) : ∀ (ts : List Tx5) (s : List Ac × List Tx5), (ts.foldl (gdS e most) s).1 = s.1 ∨ acsB (ts.foldl (gdS e most) s).1 = true
  | [], s => .inl rfl
  | t :: ts, s => by
    rw [List.foldl_cons]
    rcases gdS_is e most ts (gdS e most s t) with h | h
    · by_cases h1 : s.2.length = most
      · rw [gdS_full h1] at h ⊢; exact .inl h
      · by_cases h2 : (apA e s.1 t).2 = 0
        · rw [gdS_good h1 h2] at h ⊢
          rcases apA_is e s.1 t with h3 | h3
          · exact .inl (h.trans h3)
          · exact .inr (by rw [h]; exact h3)
        · rw [gdS_bad h1 h2] at h ⊢; exact .inl h
    · exact .inr h
theorem gdA_few {e : Int} {l : List Ac} (ts : List Tx5) (most : Nat) (hl : l.length ≤ 3999999) (hall : ∀ a ∈ l, a.1.size ≤ maxLen ∧ a.2.2.2.2.length ≤ 3999999) :
    (gdA e l ts most).1.length ≤ 3999999 ∧ ∀ a ∈ (gdA e l ts most).1, a.1.size ≤ maxLen ∧ a.2.2.2.2.length ≤ 3999999 := by
  rcases gdS_is e most ts (l, []) with h | h
  · have h' : (gdA e l ts most).1 = l := h
    rw [h']
    exact ⟨hl, hall⟩
  · have h' : acsB (gdA e l ts most).1 = true := h
    refine ⟨by have := (acs_parts h').1; omega, fun a ha => ?_⟩
    have hp := ac_parts (acs_all h' a ha)
    have hn := hp.1
    unfold nmB inB at hn
    simp only [Bool.and_eq_true, decide_eq_true_eq] at hn
    exact ⟨by unfold maxLen; omega, by omega⟩
/-- Where there is room for all of them: as ApplyAll goes on, and as many as are good. -/
theorem gd_all {e : Int} {most : Nat} : ∀ (ts : List Tx5) (s : List Ac × List Tx5), s.2.length + ts.length ≤ most →
    (ts.foldl (gdS e most) s).1 = (ts.foldl (alS e) (s.1, s.2.length)).1 ∧ (ts.foldl (gdS e most) s).2.length = (ts.foldl (alS e) (s.1, s.2.length)).2 ∧ ∃ G, (ts.foldl (gdS e most) s).2 = s.2 ++ G ∧ G.Sublist ts
  | [], s, _ => ⟨rfl, rfl, [], by simp, List.Sublist.refl _⟩
  | t :: ts, s, h => by
    rw [List.length_cons] at h
    rw [List.foldl_cons, List.foldl_cons]
    have hn : s.2.length ≠ most := by omega
    by_cases h2 : (apA e s.1 t).2 = 0
    · have e1 := gdS_good (e := e) (t := t) hn h2
      have e2 : alS e (s.1, s.2.length) t = ((apA e s.1 t).1, s.2.length + 1) := alS_good (s := (s.1, s.2.length)) h2
      rw [e1, e2]
      obtain ⟨q1, q2, G, q3, q4⟩ := gd_all (e := e) (most := most) ts ((apA e s.1 t).1, s.2 ++ [t]) (by simp; omega)
      simp only [List.length_append, List.length_cons, List.length_nil, Nat.zero_add] at q1 q2
      exact ⟨q1, q2, t :: G, by rw [q3]; simp, q4.cons_cons t⟩
    · have e1 := gdS_bad (e := e) (t := t) hn h2
      have e2 : alS e (s.1, s.2.length) t = (s.1, s.2.length) := alS_bad (s := (s.1, s.2.length)) h2
      rw [e1, e2]
      obtain ⟨q1, q2, G, q3, q4⟩ := gd_all (e := e) (most := most) ts s (by omega)
      exact ⟨q1, q2, G, q3, q4.cons t⟩
/-- All are good just if all are taken; and then the accounts behind them are ApplyAll's. -/
theorem gd_same (e : Int) (l : List Ac) (ts : List Tx5) : ((gdA e l ts ts.length).2 = ts ↔ (alA e l ts).2 = ts.length) ∧ (gdA e l ts ts.length).1 = (alA e l ts).1 := by
  obtain ⟨q1, q2, G, q3, q4⟩ := gd_all (e := e) (most := ts.length) ts (l, []) (by simp)
  have q2' : (gdA e l ts ts.length).2.length = (alA e l ts).2 := q2
  have q3' : (gdA e l ts ts.length).2 = G := q3
  refine ⟨⟨fun h => by rw [← q2', h], fun h => ?_⟩, q1⟩
  rw [q3']
  exact q4.eq_of_length (by rw [← q3', q2', h])
end Go.Proofs.YtbbkeebfginlfaaGreatDoor

namespace Go.Proofs.YtbbkeebfginlfaaGreatDoor
open Go.RowKit
set_option linter.unusedVariables false

/-- Two numbers and a name. -/
abbrev Tr := Int × Int × ByteArray
def trV (p : Tr) : Value := .agg #[.int .i64 p.1, .int .i64 p.2.1, .string p.2.2]
def trC (p : Tr) : List Value := [.int .i64 p.1, .int .i64 p.2.1, .string p.2.2]
structure TrAt (w : World) (b o : Nat) (p : Tr) : Prop where
  c0 : w.cell? ⟨b, o, none⟩ = some (.int .i64 p.1)
  c1 : w.cell? ⟨b, o + 1, none⟩ = some (.int .i64 p.2.1)
  c2 : w.cell? ⟨b, o + 2, none⟩ = some (.string p.2.2)
theorem TrAt.below {w w' : World} {B b o : Nat} {p : Tr} (h : TrAt w b o p) (hb : Below B w w') (hB : b < B) : TrAt w' b o p :=
  ⟨(hb.cell (p := ⟨b, o, none⟩) hB).trans h.c0, (hb.cell (p := ⟨b, o + 1, none⟩) hB).trans h.c1, (hb.cell (p := ⟨b, o + 2, none⟩) hB).trans h.c2⟩
def RdR (w : World) (v : Value) (l : List Tr) : Prop :=
  (∃ a cap, v = .slice a 0 cap ∧ l = [] ∧ (a = none → cap = 0)) ∨
  ∃ b off cap, l ≠ [] ∧ v = .slice (some ⟨b, off, none⟩) l.length cap ∧ l.length ≤ cap ∧ cap ≤ maxLen ∧ b < w.heap.size ∧ ∀ i (h : i < l.length), TrAt w b (off + i * 3) l[i]
theorem RdR.shape {w : World} {v : Value} {l : List Tr} (h : RdR w v l) : ∃ a cap, v = .slice a l.length cap := by
  rcases h with ⟨a, cap, rfl, rfl, -⟩ | ⟨b, off, cap, h0, rfl, _⟩
  · exact ⟨a, cap, rfl⟩
  · exact ⟨_, cap, rfl⟩
theorem RdR.below {B : Nat} {w w' : World} {v : Value} {l : List Tr} (h : RdR w v l) (hb : Below B w w') (hB : w.heap.size ≤ B) : RdR w' v l := by
  rcases h with h | ⟨b, off, cap, h0, hv, h1, h2, h3, h4⟩
  · exact .inl h
  · exact .inr ⟨b, off, cap, h0, hv, h1, h2, by have := hb.size; omega, fun i hi => (h4 i hi).below hb (by omega)⟩
theorem RdR.at {w : World} {a : Option Addr} {cap k : Nat} {l : List Tr} (h : RdR w (.slice a l.length cap) l) (hk : k < l.length) :
    ∃ b off, a = some ⟨b, off, none⟩ ∧ l.length ≤ cap ∧ cap ≤ maxLen ∧ b < w.heap.size ∧ TrAt w b (off + k * 3) l[k] := by
  rcases h with ⟨a', cap', e, rfl, -⟩ | ⟨b, off, cap', h0, e, h1, h2, h3, h4⟩
  · simp at hk
  · simp only [Value.slice.injEq] at e
    obtain ⟨rfl, -, rfl⟩ := e
    exact ⟨b, off, rfl, h1, h2, h3, h4 k hk⟩
theorem trM_sz (l : List Tr) : ∀ x ∈ l.map trC, x.length = 3 := fun x hx => by obtain ⟨p, _, rfl⟩ := List.mem_map.1 hx; rfl
/-- The slice v, of the call's own from block 'base' on, reads as the triples l (t: their type). -/
def OwnR (t : TypeId) (base : Nat) (w : World) (v : Value) (l : List Tr) : Prop := w.ownsRow base t 3 v l.length (l.map trC).flatten
theorem OwnR.rd {t : TypeId} {base : Nat} {w : World} {v : Value} {l : List Tr} (h : OwnR t base w v l) : RdR w v l := by
  rcases h.2 with ⟨rfl, hn⟩ | ⟨g, cap, cur, rfl, hb, hg, hnc, hcm, hcs, ht⟩
  · have : l = [] := List.length_eq_zero_iff.1 hn
    subst this
    exact .inl ⟨_, _, rfl, rfl, fun _ => rfl⟩
  · by_cases hn : l = []
    · subst hn; exact .inl ⟨_, _, rfl, rfl, fun h => by cases h⟩
    · refine .inr ⟨g, 0, cap, hn, rfl, hnc, hcm, (Array.getElem?_eq_some_iff.1 hg).1, fun i hi => ?_⟩
      have cell : ∀ j, j < 3 → w.cell? ⟨g, 0 + i * 3 + j, none⟩ = (trC l[i])[j]? := fun j hj => by
        rw [Nat.zero_add, World.ownsRow.cellAt h (i * 3 + j) (by omega), flat_get 3 (l.map trC) i j (by simpa using hi) (trM_sz l) hj]
        simp
      exact ⟨by have := cell 0 (by omega); simpa [trC] using this, by have := cell 1 (by omega); simpa [trC] using this, by have := cell 2 (by omega); simpa [trC] using this⟩
theorem OwnR.below {t : TypeId} {B base : Nat} {w w' : World} {v : Value} {l : List Tr} (h : OwnR t base w v l) (hb : Below B w w') (hB : w.heap.size ≤ B) : OwnR t base w' v l := row_below h hb hB
theorem OwnR.ge {t : TypeId} {base : Nat} {w : World} {v : Value} {l : List Tr} (h : OwnR t base w v l) : ∀ k, v.ownBlock = some k → base ≤ k := fun k hk => (World.ownsRow.lt h k hk).1
theorem OwnR.lt {t : TypeId} {base : Nat} {w : World} {v : Value} {l : List Tr} (h : OwnR t base w v l) : ∀ k, v.ownBlock = some k → k < w.heap.size := fun k hk => (World.ownsRow.lt h k hk).2
theorem OwnR.alloc {t : TypeId} {base : Nat} {w : World} {v : Value} {l : List Tr} (h : OwnR t base w v l) (o : Obj) : OwnR t base (w.alloc o) v l := World.ownsRow.alloc h o
theorem OwnR.drew {t : TypeId} {base : Nat} {w : World} {v : Value} {l : List Tr} (h : OwnR t base w v l) : OwnR t base w.drew v l := h.below (Below.refl _ w).drew (Nat.le_refl _)
theorem OwnR.notg {t : TypeId} {base : Nat} {w w' : World} {v : Value} {l : List Tr} {g : Nat} (h : OwnR t base w v l) (hg : w.grownBy w' (some g)) (hb : g < base) : OwnR t base w' v l :=
  World.ownsRow.kept h hg (.inr fun e => by have := h.ge g e; omega)
theorem OwnR.kept {t : TypeId} {base : Nat} {w w' : World} {v : Value} {l : List Tr} {row : Option Nat} (h : OwnR t base w v l) (hg : w.grownBy w' row) (hne : v.ownBlock = none ∨ v.ownBlock ≠ row) : OwnR t base w' v l := World.ownsRow.kept h hg hne
theorem own_nilR (t : TypeId) (w : World) (base : Nat) (h : base ≤ w.heap.size) : OwnR t base (w.alloc (.cells #[] t)) (.slice (some ⟨w.heap.size, 0, none⟩) 0 0) [] :=
  World.ownsRow_lit w #[] 0 h (by unfold maxLen; omega) (by simp)
theorem add_flatR (b off i : Nat) : (⟨b, off, none⟩ : Addr).add i = ⟨b, off + i, none⟩ := by
  by_cases hz : i = 0
  · subst hz; simp [Addr.add]
  · simp [Addr.add, hz]
theorem Blk.newR (W : World) (t : TypeId) (cs : List Value) (n : Nat) (h : n = W.heap.size) : Blk (W.alloc (.cells cs.toArray t)) n t cs := by subst h; exact Blk.new W t cs
end Go.Proofs.YtbbkeebfginlfaaGreatDoor
