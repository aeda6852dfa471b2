/- The landed code's orders as they are within: a type for each kind; what an account has of that which an order takes. The landed code's order, done: it writes into the accounts of a ledger of the call's own. The landed code's ledger behind an order, or what it lacks. -/
import Derived.Test.YtocaednkhcjkcaaGreatDoorLgWith
import Derived.Test.YtocaednkhcjkcaaGreatDoorLgAs
import Derived.Test.YtocaednkhcjkcaaGreatDoorLgFacts
import Derived.Deep.RegionLaw
import Derived.Test.YtocaednkhcjkcaaGreatDoorLgImpl
import Derived.Test.YtocaednkhcjkcaaGreatDoorTxOkI
import Derived.Deep.RegionHeldLaw
namespace Go.Proofs.YtocaednkhcjkcaaGreatDoor
open Go.RowKit
set_option linter.unusedVariables false

/-- An order as it is within. -/
def orV (t : Tx5) : Value :=
  if t.1 = 1 then .iface 177 (.agg #[.string t.2.2.1, .int .i64 t.2.2.2.1])
  else if t.1 = 2 then .iface 179 (.agg #[.int .i64 t.2.2.2.1])
  else .iface 180 (.agg #[.int .i64 t.2.2.2.1])
set_option maxRecDepth 20000 in
theorem orderOf_any (t : Tx5) (w : World) :
    Calls Tryz.prog 73 #[txV t] w fun en w' => en = .returned (orV t) ∧ Below w.heap.size w w' := by
  obtain ⟨kd, fm, to, am, nc⟩ := t
  have HB := hide ((Below.refl _ w).alloc (Nat.le_refl _) (.cells #[.int .i64 kd, .string fm, .string to, .int .i64 am, .int .i64 nc] 28))
  simp only [txV]
  by_cases h1 : kd = 1
  · subst h1
    have HV : Hid (orV (1, fm, to, am, nc) = .iface 177 (.agg #[.string to, .int .i64 am])) := hide rfl
    rw [HV.out]
    go_enter Tryz.func73, Tryz.ntmps73
    go_wp2
    go_ret
    exact ⟨rfl, HB.out⟩
  · have hq : (kd == 1) = false := by rw [beq_eq_false_iff_ne]; exact h1
    by_cases h2 : kd = 2
    · subst h2
      have HV : Hid (orV (2, fm, to, am, nc) = .iface 179 (.agg #[.int .i64 am])) := hide rfl
      rw [HV.out]
      go_enter Tryz.func73, Tryz.ntmps73
      go_wp2
      go_ret
      exact ⟨rfl, HB.out⟩
    · have hq2 : (kd == 2) = false := by rw [beq_eq_false_iff_ne]; exact h2
      have HV : Hid (orV (kd, fm, to, am, nc) = .iface 180 (.agg #[.int .i64 am])) := hide (by unfold orV; rw [if_neg h1, if_neg h2])
      rw [HV.out]
      clear h1 h2
      go_enter Tryz.func73, Tryz.ntmps73
      go_wp2
      go_ret
      exact ⟨rfl, HB.out⟩
theorem Tryz.purseP (a b : Value) (w : World) : (Go.method 401 177 (.agg #[a, b]) "loop.example/g00194/impl.purse").run Tryz.prog w = .ok (213, .agg #[a, b]) w := by kernel_rfl
theorem Tryz.purseB (a : Value) (w : World) : (Go.method 401 179 (.agg #[a]) "loop.example/g00194/impl.purse").run Tryz.prog w = .ok (214, .agg #[a]) w := by kernel_rfl
theorem Tryz.purseU (a : Value) (w : World) : (Go.method 401 180 (.agg #[a]) "loop.example/g00194/impl.purse").run Tryz.prog w = .ok (215, .agg #[a]) w := by kernel_rfl
theorem Tryz.aheadP (a b : Value) (w : World) : (nilAhead 401 177 (.agg #[a, b]) "loop.example/g00194/impl.purse").run Tryz.prog w = .ok (some false) w := by kernel_rfl
theorem Tryz.aheadB (a : Value) (w : World) : (nilAhead 401 179 (.agg #[a]) "loop.example/g00194/impl.purse").run Tryz.prog w = .ok (some false) w := by kernel_rfl
theorem Tryz.aheadU (a : Value) (w : World) : (nilAhead 401 180 (.agg #[a]) "loop.example/g00194/impl.purse").run Tryz.prog w = .ok (some false) w := by kernel_rfl
set_option maxRecDepth 20000 in
theorem purseP_any (to : ByteArray) (am : Int) (a : Ac) (lv : Value) (w : World) (hlv : ∃ av n cv, lv = .slice av n cv) :
    Calls Tryz.prog 213 #[.agg #[.string to, .int .i64 am], acV a lv] w fun en w' => en = .returned (.int .i64 a.2.1) ∧ Below w.heap.size w w' := by
  obtain ⟨nm, fr, no, st, ls⟩ := a
  obtain ⟨av, n, cv, rfl⟩ := hlv
  have HB := hide (((Below.refl _ w).alloc (Nat.le_refl _) (.cells #[.string to, .int .i64 am] 177)).alloc (by simp) (.cells #[.string nm, .int .i64 fr, .int .i64 no, .int .i64 st, .slice av n cv] 36))
  simp only [acV]
  go_enter Tryz.func213, Tryz.ntmps213
  go_wp2
  go_ret
  exact ⟨rfl, HB.out⟩
set_option maxRecDepth 20000 in
theorem purseB_any (am : Int) (a : Ac) (lv : Value) (w : World) (hlv : ∃ av n cv, lv = .slice av n cv) :
    Calls Tryz.prog 214 #[.agg #[.int .i64 am], acV a lv] w fun en w' => en = .returned (.int .i64 a.2.1) ∧ Below w.heap.size w w' := by
  obtain ⟨nm, fr, no, st, ls⟩ := a
  obtain ⟨av, n, cv, rfl⟩ := hlv
  have HB := hide (((Below.refl _ w).alloc (Nat.le_refl _) (.cells #[.int .i64 am] 179)).alloc (by simp) (.cells #[.string nm, .int .i64 fr, .int .i64 no, .int .i64 st, .slice av n cv] 36))
  simp only [acV]
  go_enter Tryz.func214, Tryz.ntmps214
  go_wp2
  go_ret
  exact ⟨rfl, HB.out⟩
set_option maxRecDepth 20000 in
theorem purseU_any (am : Int) (a : Ac) (lv : Value) (w : World) (hlv : ∃ av n cv, lv = .slice av n cv) :
    Calls Tryz.prog 215 #[.agg #[.int .i64 am], acV a lv] w fun en w' => en = .returned (.int .i64 a.2.2.2.1) ∧ Below w.heap.size w w' := by
  obtain ⟨nm, fr, no, st, ls⟩ := a
  obtain ⟨av, n, cv, rfl⟩ := hlv
  have HB := hide (((Below.refl _ w).alloc (Nat.le_refl _) (.cells #[.int .i64 am] 180)).alloc (by simp) (.cells #[.string nm, .int .i64 fr, .int .i64 no, .int .i64 st, .slice av n cv] 36))
  simp only [acV]
  go_enter Tryz.func215, Tryz.ntmps215
  go_wp2
  go_ret
  exact ⟨rfl, HB.out⟩
theorem Tryz.isPay (v : Value) (xT : TypeId) (w : World) : (Instr.typeAssert (.iface 177 v) xT 177 true).run Tryz.prog w = .ok (.tuple #[v, .bool true]) w := by kernel_rfl
theorem Tryz.isBond (v : Value) (xT : TypeId) (w : World) : (Instr.typeAssert (.iface 179 v) xT 179 true).run Tryz.prog w = .ok (.tuple #[v, .bool true]) w := by kernel_rfl
theorem Tryz.isUnbond (v : Value) (xT : TypeId) (w : World) : (Instr.typeAssert (.iface 180 v) xT 180 true).run Tryz.prog w = .ok (.tuple #[v, .bool true]) w := by kernel_rfl
theorem Tryz.bondNoPay (v : Value) (xT : TypeId) (w : World) : (Instr.typeAssert (.iface 179 v) xT 177 true).run Tryz.prog w = .ok (.tuple #[.agg #[.string { data := #[] }, .int .i64 0], .bool false]) w := by kernel_rfl
theorem Tryz.unbondNoPay (v : Value) (xT : TypeId) (w : World) : (Instr.typeAssert (.iface 180 v) xT 177 true).run Tryz.prog w = .ok (.tuple #[.agg #[.string { data := #[] }, .int .i64 0], .bool false]) w := by kernel_rfl
theorem Tryz.unbondNoBond (v : Value) (xT : TypeId) (w : World) : (Instr.typeAssert (.iface 180 v) xT 179 true).run Tryz.prog w = .ok (.tuple #[.agg #[.int .i64 0], .bool false]) w := by kernel_rfl
end Go.Proofs.YtocaednkhcjkcaaGreatDoor

namespace Go.Proofs.YtocaednkhcjkcaaGreatDoor
open Go.RowKit
set_option linter.unusedVariables false

/-- What done answers: the accounts, and whether what is paid could be given. -/
def dnA (e : Int) (t : Tx5) (l : List Ac) (k : Nat) : List Ac × Bool :=
  if t.1 = 1 then crA (l.set k (gvA e t (l.getD k ac0))) t.2.2.1 t.2.2.2.1 else (l.set k (gvA e t (l.getD k ac0)), true)
theorem gvA_len (e : Int) (t : Tx5) (a : Ac) : (gvA e t a).2.2.2.2.length ≤ a.2.2.2.2.length + 1 := by
  unfold gvA
  split
  · simp
  · split
    · simp
    · exact lvP_len _ _ _
theorem gv_all {e : Int} {t : Tx5} {l : List Ac} {k : Nat} (hk : k < l.length) (h : ∀ a ∈ l, a.1.size ≤ maxLen ∧ a.2.2.2.2.length ≤ 3999999) : ∀ a ∈ l.set k (gvA e t l[k]), a.1.size ≤ maxLen ∧ a.2.2.2.2.length ≤ 4000000 := fun a ha => by
  rcases List.mem_or_eq_of_mem_set ha with h' | h'
  · have := h a h'; omega
  · have h1 := h l[k] (List.getElem_mem _)
    have h2 := gvA_len e t l[k]
    subst h'
    rw [gvA_name]
    omega
/-- Half way through an order: the row of accounts, the k-th as it is by now; the ledger's own cells at A, the answer's behind them. -/
structure Dn (base : Nat) (w0 W : World) (e : Int) (g n cap k : Nat) (Z : List (Ac × Value)) (q : Ac × Value) (A : Nat) : Prop where
  row : RowG base W g n cap (Z.set k q)
  led : Blk W A 26 [.int .i64 e, .slice (some ⟨g, 0, none⟩) n cap]
  res : Blk W (A + 1) 26 [.int .i64 0, .slice none 0 0]
  bel : Below base w0 W
  old : ∀ i (hi : i < (Z.set k q).length) r, (Z.set k q)[i].2.ownBlock = some r → r < A
  lt : g < A
theorem Dn.below {base : Nat} {w0 W W' : World} {e : Int} {g n cap k : Nat} {Z : List (Ac × Value)} {q : Ac × Value} {A : Nat} (h : Dn base w0 W e g n cap k Z q A) (hb : Below W.heap.size W W') : Dn base w0 W' e g n cap k Z q A :=
  ⟨h.row.below hb (Nat.le_refl _), h.led.below hb h.led.lt, h.res.below hb h.res.lt, h.bel.trans (hb.mono (by have := h.row.lt; omega)), h.old, h.lt⟩
theorem Dn.put {base : Nat} {w0 W : World} {e : Int} {g n cap k : Nat} {Z : List (Ac × Value)} {q : Ac × Value} {A : Nat} (h : Dn base w0 W e g n cap k Z q A) (hk : k < Z.length) (j : Nat) (hj : j < 5) (u : Value) (q' : Ac × Value) (hq : acC q' = (acC q).set j u) (ht : tlZ q' = tlZ q) (hv : q'.2 = q.2) :
    Dn base w0 (W.setCell ⟨g, k * 5 + j, none⟩ u) e g n cap k Z q' A := by
  have hl := h.lt
  have hr := h.row.put k (by simpa using hk) j hj u q' (by simpa using hq) (by simpa using ht)
  rw [List.set_set] at hr
  refine ⟨hr, h.led.other _ _ _ (by omega), h.res.other _ _ _ (by omega), h.bel.setCell (p := ⟨g, k * 5 + j, none⟩) h.row.lt.1 u, fun i hi r hr2 => ?_, hl⟩
  refine h.old i (by simpa using hi) r ?_
  by_cases e : k = i
  · subst e
    simp only [List.getElem_set_self] at hr2 ⊢
    rw [← hv]; exact hr2
  · simpa [List.getElem_set, e] using hr2
theorem Dn.other {base : Nat} {w0 W : World} {e : Int} {g n cap k : Nat} {Z : List (Ac × Value)} {q : Ac × Value} {A : Nat} (h : Dn base w0 W e g n cap k Z q A) (b j : Nat) (u : Value) (hb : A + 1 < b) :
    Dn base w0 (W.setCell ⟨b, j, none⟩ u) e g n cap k Z q A := by
  have hl := h.lt
  have hg := h.row.lt.1
  exact ⟨h.row.other b j u (by omega) (fun i hi r hr e => by have := h.old i hi r hr; omega), h.led.other _ _ _ (by omega), h.res.other _ _ _ (by omega), h.bel.setCell (p := ⟨b, j, none⟩) (show base ≤ b by omega) u, h.old, hl⟩
theorem Dn.at {base : Nat} {w0 W : World} {e : Int} {g n cap k : Nat} {Z : List (Ac × Value)} {q : Ac × Value} {A : Nat} (h : Dn base w0 W e g n cap k Z q A) (hk : k < Z.length) : AcAt W g (k * 5) q.1 q.2 := by
  have := h.row.at k (by simpa using hk)
  simpa using this
theorem Dn.fin {base : Nat} {w0 W : World} {e : Int} {g n cap k : Nat} {Z : List (Ac × Value)} {q : Ac × Value} {A : Nat} (h : Dn base w0 W e g n cap k Z q A) (u u' : Value) :
    OwnA base ((W.setCell ⟨A + 1, 0, none⟩ u).setCell ⟨A + 1, 1, none⟩ u') (.slice (some ⟨g, 0, none⟩) n cap) ((Z.set k q).map (·.1)) ∧ Below base w0 ((W.setCell ⟨A + 1, 0, none⟩ u).setCell ⟨A + 1, 1, none⟩ u') := by
  have hl := h.lt
  have hg := h.row.lt.1
  have ho : ∀ i (hi : i < (Z.set k q).length) r, (Z.set k q)[i].2.ownBlock = some r → A + 1 ≠ r := fun i hi r hr e => by have := h.old i hi r hr; omega
  exact ⟨((h.row.other (A + 1) 0 u (by omega) ho).other (A + 1) 1 u' (by omega) ho).own, (h.bel.setCell (p := ⟨A + 1, 0, none⟩) (show base ≤ A + 1 by omega) _).setCell (p := ⟨A + 1, 1, none⟩) (show base ≤ A + 1 by omega) _⟩
/-- The k-th one's list is another one, that is new; then the answer is written. -/
theorem Dn.finL {base : Nat} {w0 W : World} {e : Int} {g n cap k : Nat} {Z : List (Ac × Value)} {q : Ac × Value} {A : Nat} (h : Dn base w0 W e g n cap k Z q A) (hk : k < Z.length) (q' : Ac × Value) (hq : acC q' = (acC q).set 4 q'.2) {b : Nat} (ho : OwnL b W q'.2 q'.1.2.2.2.2) (hb : A + 1 < b) :
    Blk (W.setCell ⟨g, k * 5 + 4, none⟩ q'.2) A 26 [.int .i64 e, .slice (some ⟨g, 0, none⟩) n cap] ∧ Blk (W.setCell ⟨g, k * 5 + 4, none⟩ q'.2) (A + 1) 26 [.int .i64 0, .slice none 0 0] ∧
    ∀ u u' : Value, OwnA base (((W.setCell ⟨g, k * 5 + 4, none⟩ q'.2).setCell ⟨A + 1, 0, none⟩ u).setCell ⟨A + 1, 1, none⟩ u') (.slice (some ⟨g, 0, none⟩) n cap) ((Z.set k q').map (·.1)) ∧ Below base w0 (((W.setCell ⟨g, k * 5 + 4, none⟩ q'.2).setCell ⟨A + 1, 0, none⟩ u).setCell ⟨A + 1, 1, none⟩ u') := by
  have hl := h.lt
  have hg := h.row.lt.1
  have hge := ho.ge
  have hkS : k < (Z.set k q).length := by simpa using hk
  have hr := h.row.putL k hkS q' (by simpa using hq) (ho.mono (by omega)) (fun r hr => by have := hge r hr; omega) (fun i hi _ r hr e => by have := h.old i hi r hr; have := hge r e; omega)
  rw [List.set_set] at hr
  have hn : ∀ i (hi : i < (Z.set k q').length) r, (Z.set k q')[i].2.ownBlock = some r → A + 1 ≠ r := fun i hi r hr2 e9 => by
    by_cases e : k = i
    · subst e
      simp only [List.getElem_set_self] at hr2
      have := hge r hr2
      omega
    · have h2 : (Z.set k q)[i]'(by simpa using hi) = (Z.set k q')[i] := by simp [e]
      have := h.old i (by simpa using hi) r (by rw [h2]; exact hr2)
      omega
  refine ⟨h.led.other _ _ _ (by omega), h.res.other _ _ _ (by omega), fun u u' => ⟨((hr.other (A + 1) 0 u (by omega) hn).other (A + 1) 1 u' (by omega) hn).own, ?_⟩⟩
  exact ((h.bel.setCell (p := ⟨g, k * 5 + 4, none⟩) hg _).setCell (p := ⟨A + 1, 0, none⟩) (show base ≤ A + 1 by omega) _).setCell (p := ⟨A + 1, 1, none⟩) (show base ≤ A + 1 by omega) _
set_option maxRecDepth 20000 in
set_option maxHeartbeats 4000000 in
theorem done_any (e : Int) (t : Tx5) (g cap : Nat) (Z : List (Ac × Value)) (l : List Ac) (k : Nat) (base : Nat) (w : World) (hG : RowG base w g l.length cap Z) (hZ : Z.map (·.1) = l) (hk : k < l.length)
    (hkd : t.1 = 1 ∨ t.1 = 2 ∨ t.1 = 3) (hl : l.length ≤ 3999999) (hall : ∀ a ∈ l, a.1.size ≤ maxLen ∧ a.2.2.2.2.length ≤ 3999999) (ht : t.2.2.1.size ≤ maxLen) (hwl : wlP t.2.2.2.1 (wrap64 (e + 2)) l[k].2.2.2.2 = lvP t.2.2.2.1 (wrap64 (e + 2)) l[k].2.2.2.2) :
    Calls Tryz.prog 74 #[lgV e (.slice (some ⟨g, 0, none⟩) l.length cap), .int .i64 (k : Int), orV t] w fun en w' => ∃ v', en = .returned (.tuple #[lgV e v', .bool (dnA e t l k).2]) ∧ OwnA base w' v' (dnA e t l k).1 ∧ Below base w w' := by
  have hkZ : k < Z.length := by have := hG.len; omega
  have hZk : Z[k].1 = l[k] := fst_get hZ k hkZ hk
  have hgd := getD_at l k hk
  have hgl := hG.lt
  have hcap := hG.caps
  have hown := hG.lvs.own k hkZ
  have hshape := hown.rd.shape
  have hst : Z.set k Z[k] = Z := List.set_getElem_self hkZ
  obtain ⟨q, hq⟩ : ∃ q, Z[k] = q := ⟨_, rfl⟩
  have hlen := hall l[k] (List.getElem_mem _)
  have Hal := hide (gv_all (e := e) (t := t) hk hall)
  rw [hq] at hown hshape hst hZk
  rw [← hZk] at hlen hwl hgd Hal
  obtain ⟨⟨nm, fr, no, st, ls⟩, lv⟩ := q
  simp only at hown hshape hlen hwl
  obtain ⟨av', cv', rfl⟩ := hshape
  obtain ⟨w1, hw1⟩ : ∃ w1, w.alloc (.cells #[.int .i64 e, .slice (some ⟨g, 0, none⟩) l.length cap] 26) = w1 := ⟨_, rfl⟩
  obtain ⟨w2, hw2⟩ : ∃ w2, w1.alloc (.cells #[.int .i64 0, .slice none 0 0] 26) = w2 := ⟨_, rfl⟩
  have s1 : w1.heap.size = w.heap.size + 1 := by rw [← hw1]; simp
  have s2 : w2.heap.size = w.heap.size + 1 + 1 := by rw [← hw2]; simp; omega
  have b2 : Below w.heap.size w w2 := by rw [← hw2, ← hw1]; exact ((Below.refl _ w).alloc (Nat.le_refl _) _).alloc (by simp) _
  have D2 : Dn base w w2 e g l.length cap k Z ((nm, fr, no, st, ls), .slice av' ls.length cv') w.heap.size := by
    refine ⟨by rw [hst]; exact hG.below b2 (Nat.le_refl _), by rw [← hw2, ← hw1]; exact (Blk.new w _ _).alloc _, by rw [← s1, ← hw2]; exact Blk.new w1 _ _, b2.mono (by omega), fun i hi r hr => ?_, hgl.2⟩
    have hi2 : i < Z.length := by simpa using hi
    have e9 : (Z.set k ((nm, fr, no, st, ls), Value.slice av' ls.length cv'))[i] = Z[i] := by
      simp only [List.getElem_set]
      split
      · rename_i e; subst e; exact hq.symm
      · rfl
    rw [e9] at hr
    exact (hG.lvs.own i hi2).lt r hr
  have c2 := (D2.at hkZ).c2
  have q2 := D2.row.frozen (k * 5 + 2)
  simp only at c2
  have HL : Hid (∀ q' : Ac × Value, (Z.set k q').map (·.1) = l.set k q'.1) := hide (fun q' => by rw [fst_set, hZ])
  have D3 := D2.put hkZ 2 (by omega) (.int .i64 (wrap64 (no + 1))) ((nm, fr, wrap64 (no + 1), st, ls), .slice av' ls.length cv') rfl rfl rfl
  obtain ⟨w3, hw3⟩ : ∃ w3, w2.setCell ⟨g, k * 5 + 2, none⟩ (.int .i64 (wrap64 (no + 1))) = w3 := ⟨_, rfl⟩
  rw [hw3] at D3
  have s3 : w3.heap.size = w.heap.size + 1 + 1 := by rw [← hw3, ← s2]; simp
  have l0 := D2.led.cell 0
  have l1 := D2.led.cell 1
  simp only [List.getElem?_cons_zero, List.getElem?_cons_succ] at l0 l1
  have hki : (k : Int) < (l.length : Int) := by omega
  have hk0 : (0 : Int) ≤ (k : Int) := by omega
  have HD3 := hide D3
  have HG2 := hide D2
  have Hown := hide hown
  have HZ := hide hZ
  have Hq := hide hq
  have Hst := hide hst
  have hdef : Hid (∀ (P : List Ac) (b : Bool), dnA e t l k = (P, b) → ∀ v' w', OwnA base w' v' P → Below base w w' → ∃ v'', (Ending.returned (.tuple #[lgV e v', .bool b]) = .returned (.tuple #[lgV e v'', .bool (dnA e t l k).2])) ∧ OwnA base w' v'' (dnA e t l k).1 ∧ Below base w w') := hide (fun P b h v' w' ho hb => ⟨v', by rw [h], by rw [h]; exact ho, hb⟩)
  obtain ⟨kd, fm, to, am, nc⟩ := t
  simp only at hkd hwl ht
  simp only [lgV] at hdef ⊢
  clear hG hZ hq hst hown D2 D3 hall
  rcases hkd with rfl | rfl | rfl
  · have HV : Hid (orV (1, fm, to, am, nc) = .iface 177 (.agg #[.string to, .int .i64 am])) := hide rfl
    rw [HV.out]
    have a1 := Tryz.isPay
    obtain ⟨w4, hw4⟩ : ∃ w4, w3.alloc (.cells #[.string { data := #[] }, .int .i64 0] 177) = w4 := ⟨_, rfl⟩
    have b4 : Below w3.heap.size w3 w4 := by rw [← hw4]; exact (Below.refl _ w3).alloc (Nat.le_refl _) _
    have kB : Blk w4 (w.heap.size + 1 + 1) 177 [.string { data := #[] }, .int .i64 0] := by rw [← hw4, ← s3]; exact Blk.new w3 _ _
    have kB5 := (kB.set 0 (.string to)).set 1 (.int .i64 am)
    have D5 := ((HD3.out.below b4).other (w.heap.size + 1 + 1) 0 (.string to) (by omega)).other (w.heap.size + 1 + 1) 1 (.int .i64 am) (by omega)
    obtain ⟨w5, hw5⟩ : ∃ w5, (w4.setCell ⟨w.heap.size + 1 + 1, 0, none⟩ (.string to)).setCell ⟨w.heap.size + 1 + 1, 1, none⟩ (.int .i64 am) = w5 := ⟨_, rfl⟩
    rw [hw5] at kB5 D5
    simp only [List.set_cons_zero, List.set_cons_succ] at kB5
    have e0 := kB.cell 0
    have e1 := kB.cell 1
    have f0 := kB.frozen 0
    have f1 := kB.frozen 1
    have x0 := kB5.cell 0
    have x1 := kB5.cell 1
    have x2 := (D5.at hkZ).c1
    have y2 := D5.row.frozen (k * 5 + 1)
    simp only [List.getElem?_cons_zero, List.getElem?_cons_succ] at e0 e1 x0 x1 x2
    have D6 := (D5.put hkZ 1 (by omega) (.int .i64 (wrap64 (fr - am))) ((nm, wrap64 (fr - am), wrap64 (no + 1), st, ls), .slice av' ls.length cv') rfl rfl rfl).below (Below.refl _ _).drew
    have kB6 := (kB5.other g (k * 5 + 1) (.int .i64 (wrap64 (fr - am))) (by omega)).below (Below.refl _ _).drew (kB5.other g (k * 5 + 1) (.int .i64 (wrap64 (fr - am))) (by omega)).lt
    obtain ⟨w6, hw6⟩ : ∃ w6, (w5.setCell ⟨g, k * 5 + 1, none⟩ (.int .i64 (wrap64 (fr - am)))).drew = w6 := ⟨_, rfl⟩
    rw [hw6] at D6 kB6
    have z0 := kB6.cell 0
    have z1 := kB6.cell 1
    have m1 := D6.led.cell 1
    simp only [List.getElem?_cons_zero, List.getElem?_cons_succ] at z0 z1 m1
    have ho6 := D6.row.own
    rw [HL.out] at ho6
    have Hcr := hide (implCredit_any _ (l.set k (nm, wrap64 (fr - am), wrap64 (no + 1), st, ls)) to am w6 ho6.rd (by simpa using hl) Hal.out ht)
    have HD6 := hide D6
    have HA : Hid (dnA e (1, fm, to, am, nc) l k = crA (l.set k (nm, wrap64 (fr - am), wrap64 (no + 1), st, ls)) to am) := hide (by unfold dnA; rw [if_pos rfl, hgd]; rfl)
    clear b4 kB kB5 D5 kB6 D6 ho6
    go_enter Tryz.func74, Tryz.ntmps74
    go_upto_region 6 with fail
    go_region
    go_upto_region 7 with fail
    (try rw [hw6])
    go_wp2_with fail
    refine Hcr.out.mono ?_
    rintro en w8 ⟨v8, rfl, o8, hb8⟩
    have D8 := HD6.out.below hb8
    have m2 := D8.led.cell 1
    have mf := D8.led.frozen 1
    have hlt := D8.led.lt
    have h68 := HD6.out.led.lt
    have h69 := HD6.out.res.lt
    have kL := D8.led.set 1 v8
    have kR := D8.res.other w.heap.size 1 v8 (by omega)
    have hB9 := D8.bel.setCell (p := ⟨w.heap.size, 1, none⟩) (show base ≤ w.heap.size by omega) v8
    have o9 := o8.older (g := w.heap.size) (by omega) 1 v8
    obtain ⟨w9, hw9⟩ : ∃ w9, w8.setCell ⟨w.heap.size, 1, none⟩ v8 = w9 := ⟨_, rfl⟩
    rw [hw9] at kL kR hB9 o9
    simp only [List.set_cons_zero, List.set_cons_succ] at kL
    have r0 := kR.cell 0
    have r1 := kR.cell 1
    have g0 := kR.frozen 0
    have g1 := kR.frozen 1
    have n0 := kL.cell 0
    have n1 := kL.cell 1
    simp only [List.getElem?_cons_zero, List.getElem?_cons_succ] at r0 r1 n0 n1 m2
    have HO := hide (((o9.older (g := w.heap.size + 1) (by omega) 0 (.int .i64 e)).older (g := w.heap.size + 1) (by omega) 1 v8).mono (show base ≤ w6.heap.size by have := HD6.out.row.lt; omega))
    have HB := hide ((hB9.setCell (p := ⟨w.heap.size + 1, 0, none⟩) (show base ≤ w.heap.size + 1 by omega) (.int .i64 e)).setCell (p := ⟨w.heap.size + 1, 1, none⟩) (show base ≤ w.heap.size + 1 by omega) v8)
    obtain ⟨a8, c8, hv8⟩ := o8.rd.shape
    generalize crA (l.set k (nm, wrap64 (fr - am), wrap64 (no + 1), st, ls)) to am = P at HA hv8 HO o8 o9
    subst hv8
    clear D8 kL kR o8 o9 Hcr
    go_wp2
    refine bodyPost_ret (v := .tuple #[.agg #[.int .i64 e, .slice a8 P.1.length c8], .bool P.2]) (by simp [results, Tryz.f74, go_sem, r0, r1]) rfl ?_
    exact hdef.out P.1 P.2 HA.out _ _ HO.out HB.out
  · have HV : Hid (orV (2, fm, to, am, nc) = .iface 179 (.agg #[.int .i64 am])) := hide rfl
    rw [HV.out]
    have a1 := Tryz.bondNoPay
    have a2 := Tryz.isBond
    obtain ⟨w4, hw4⟩ : ∃ w4, w3.alloc (.cells #[.int .i64 0] 179) = w4 := ⟨_, rfl⟩
    have b4 : Below w3.heap.size w3 w4 := by rw [← hw4]; exact (Below.refl _ w3).alloc (Nat.le_refl _) _
    have kB : Blk w4 (w.heap.size + 1 + 1) 179 [.int .i64 0] := by rw [← hw4, ← s3]; exact Blk.new w3 _ _
    have kB5 := kB.set 0 (.int .i64 am)
    have D5 := (HD3.out.below b4).other (w.heap.size + 1 + 1) 0 (.int .i64 am) (by omega)
    obtain ⟨w5, hw5⟩ : ∃ w5, w4.setCell ⟨w.heap.size + 1 + 1, 0, none⟩ (.int .i64 am) = w5 := ⟨_, rfl⟩
    rw [hw5] at kB5 D5
    simp only [List.set_cons_zero] at kB5
    have e0 := kB.cell 0
    have f0 := kB.frozen 0
    have x0 := kB5.cell 0
    have x1 := (D5.at hkZ).c1
    have y1 := D5.row.frozen (k * 5 + 1)
    simp only [List.getElem?_cons_zero] at e0 x0 x1
    have D6 := (D5.put hkZ 1 (by omega) (.int .i64 (wrap64 (fr - am))) ((nm, wrap64 (fr - am), wrap64 (no + 1), st, ls), .slice av' ls.length cv') rfl rfl rfl).below (Below.refl _ _).drew
    have kB6 := (kB5.other g (k * 5 + 1) (.int .i64 (wrap64 (fr - am))) (by omega)).below (Below.refl _ _).drew (kB5.other g (k * 5 + 1) (.int .i64 (wrap64 (fr - am))) (by omega)).lt
    obtain ⟨w6, hw6⟩ : ∃ w6, (w5.setCell ⟨g, k * 5 + 1, none⟩ (.int .i64 (wrap64 (fr - am)))).drew = w6 := ⟨_, rfl⟩
    rw [hw6] at D6 kB6
    have x2 := kB6.cell 0
    have x3 := (D6.at hkZ).c3
    have y3 := D6.row.frozen (k * 5 + 3)
    simp only [List.getElem?_cons_zero] at x2 x3
    have D7 := (D6.put hkZ 3 (by omega) (.int .i64 (wrap64 (st + am))) ((nm, wrap64 (fr - am), wrap64 (no + 1), wrap64 (st + am), ls), .slice av' ls.length cv') rfl rfl rfl).below (Below.refl _ _).drew
    obtain ⟨w7, hw7⟩ : ∃ w7, (w6.setCell ⟨g, k * 5 + 3, none⟩ (.int .i64 (wrap64 (st + am)))).drew = w7 := ⟨_, rfl⟩
    rw [hw7] at D7
    have r0 := D7.res.cell 0
    have r1 := D7.res.cell 1
    have g0 := D7.res.frozen 0
    have g1 := D7.res.frozen 1
    have m0 := D7.led.cell 0
    have m1 := D7.led.cell 1
    simp only [List.getElem?_cons_zero, List.getElem?_cons_succ] at r0 r1 m0 m1
    have HD7 := hide D7
    clear b4 kB kB5 D5 kB6 D6 D7
    go_enter Tryz.func74, Tryz.ntmps74
    go_upto_region 10 with fail
    go_region
    go_upto_region 11 with fail
    go_region
    (try rw [hw7])
    go_wp2
    refine bodyPost_ret (v := .tuple #[.agg #[.int .i64 e, .slice (some ⟨g, 0, none⟩) l.length cap], .bool true]) (by simp [results, Tryz.f74, go_sem, r0, r1]) rfl ?_
    have ho := HD7.out.fin (.int .i64 e) (.slice (some ⟨g, 0, none⟩) l.length cap)
    rw [HL.out] at ho
    exact hdef.out (l.set k (nm, wrap64 (fr - am), wrap64 (no + 1), wrap64 (st + am), ls)) true (by unfold dnA; rw [if_neg (show ¬ (2 : Int) = 1 by decide), hgd]; rfl) _ _ ho.1 ho.2
  · have HV : Hid (orV (3, fm, to, am, nc) = .iface 180 (.agg #[.int .i64 am])) := hide rfl
    rw [HV.out]
    have a1 := Tryz.unbondNoPay
    have a2 := Tryz.unbondNoBond
    have a3 := Tryz.isUnbond
    obtain ⟨w4, hw4⟩ : ∃ w4, w3.alloc (.cells #[.int .i64 0] 180) = w4 := ⟨_, rfl⟩
    have b4 : Below w3.heap.size w3 w4 := by rw [← hw4]; exact (Below.refl _ w3).alloc (Nat.le_refl _) _
    have kB : Blk w4 (w.heap.size + 1 + 1) 180 [.int .i64 0] := by rw [← hw4, ← s3]; exact Blk.new w3 _ _
    have kB5 := kB.set 0 (.int .i64 am)
    have D5 := (HD3.out.below b4).other (w.heap.size + 1 + 1) 0 (.int .i64 am) (by omega)
    obtain ⟨w5, hw5⟩ : ∃ w5, w4.setCell ⟨w.heap.size + 1 + 1, 0, none⟩ (.int .i64 am) = w5 := ⟨_, rfl⟩
    rw [hw5] at kB5 D5
    simp only [List.set_cons_zero] at kB5
    have e0 := kB.cell 0
    have f0 := kB.frozen 0
    have x0 := kB5.cell 0
    have x1 := (D5.at hkZ).c3
    have y1 := D5.row.frozen (k * 5 + 3)
    simp only [List.getElem?_cons_zero] at e0 x0 x1
    have D6 := (D5.put hkZ 3 (by omega) (.int .i64 (wrap64 (st - am))) ((nm, fr, wrap64 (no + 1), wrap64 (st - am), ls), .slice av' ls.length cv') rfl rfl rfl).below (Below.refl _ _).drew
    have kB6 := (kB5.other g (k * 5 + 3) (.int .i64 (wrap64 (st - am))) (by omega)).below (Below.refl _ _).drew (kB5.other g (k * 5 + 3) (.int .i64 (wrap64 (st - am))) (by omega)).lt
    obtain ⟨w6, hw6⟩ : ∃ w6, (w5.setCell ⟨g, k * 5 + 3, none⟩ (.int .i64 (wrap64 (st - am)))).drew = w6 := ⟨_, rfl⟩
    rw [hw6] at D6 kB6
    have x2 := kB6.cell 0
    have x3 := (D6.at hkZ).c4
    have m0 := D6.led.cell 0
    simp only [List.getElem?_cons_zero] at x2 x3 m0
    have hown6 : OwnL base w6 (.slice av' ls.length cv') ls := by
      have := D6.row.lvs.own k (by simpa using hkZ)
      simpa using this
    have hwr : wrap64 (e + 2) = IntKind.i64.wrap (e + 2) := by rw [IntKind.wrap_i64]; unfold wrap64; rfl
    have HLv : Hid (∀ W, Below w6.heap.size w6 W → Calls Tryz.prog 114 #[.slice av' ls.length cv', .agg #[.int .i64 am, .int .i64 (IntKind.i64.wrap (e + 2))]] W fun en w' => ∃ v', en = .returned v' ∧ OwnL W.heap.size w' v' (lvP am (wrap64 (e + 2)) ls) ∧ Below w6.heap.size w6 w' ∧ w6.heap.size ≤ W.heap.size) := hide (fun W hb => hwr ▸ (implWithLeave_any (.slice av' ls.length cv') ls am (wrap64 (e + 2)) W (hown6.rd.below hb (Nat.le_refl _)) (by omega)).mono (fun en w' ⟨v', h1, h2, h3⟩ => ⟨v', h1, by rw [← hwl]; exact h2, hb.trans (h3.mono hb.size), hb.size⟩))
    have HD6 := hide D6
    have Hwl := hide hwl
    clear b4 kB kB5 D5 kB6 D6 hown6 hwl hwr
    go_enter Tryz.func74, Tryz.ntmps74
    go_upto_region 14 with fail
    go_region
    go_upto_region 15 with fail
    (try rw [hw6])
    go_region_law ((go_simp; go_at_call 114; refine (HLv.out _ (by first | exact Below.refl _ _ | exact (Below.refl _ _).drew)).mono ?_; rintro en w8 ⟨v8, rfl, o8, b8, z8⟩; have hsh := o8.rd.shape; obtain ⟨a8, c8, hv8⟩ := hsh; subst hv8; have D8 := HD6.out.below b8; have x8 := (D8.at hkZ).c4; have x8f := D8.row.frozen (k * 5 + 4); simp only at x8))
    all_goals
      obtain ⟨kL, kR, hfin⟩ := D8.finL hkZ ((nm, fr, wrap64 (no + 1), wrap64 (st - am), lvP am (wrap64 (e + 2)) ls), .slice a8 (lvP am (wrap64 (e + 2)) ls).length c8) rfl o8 (by have := HD6.out.res.lt; omega)
      simp only at kL kR hfin
      obtain ⟨w9, hw9⟩ : ∃ w9, w8.setCell ⟨g, k * 5 + 4, none⟩ (.slice a8 (lvP am (wrap64 (e + 2)) ls).length c8) = w9 := ⟨_, rfl⟩
      rw [hw9] at kL kR hfin
      have r0 := kR.cell 0
      have r1 := kR.cell 1
      have g0 := kR.frozen 0
      have g1 := kR.frozen 1
      have m0 := kL.cell 0
      have m1 := kL.cell 1
      simp only [List.getElem?_cons_zero, List.getElem?_cons_succ] at r0 r1 m0 m1
      have HF := hide (hfin (.int .i64 e) (.slice (some ⟨g, 0, none⟩) l.length cap))
      rw [HL.out] at HF
      clear kL kR hfin D8 o8 b8
      go_wp2
      refine bodyPost_ret (v := .tuple #[.agg #[.int .i64 e, .slice (some ⟨g, 0, none⟩) l.length cap], .bool true]) (by simp [results, Tryz.f74, go_sem, r0, r1]) rfl ?_
      exact hdef.out (l.set k (nm, fr, wrap64 (no + 1), wrap64 (st - am), lvP am (wrap64 (e + 2)) ls)) true (by unfold dnA; rw [if_neg (show ¬ (3 : Int) = 1 by decide), hgd]; rfl) _ _ HF.out.1 HF.out.2
end Go.Proofs.YtocaednkhcjkcaaGreatDoor

namespace Go.Proofs.YtocaednkhcjkcaaGreatDoor
open Go.RowKit
set_option linter.unusedVariables false

/-- What afterOrder answers. -/
def AoPost (e : Int) (l : List Ac) (t : Tx5) (w : World) (en : Ending) (w' : World) : Prop :=
  ((apA e l t).2 ≠ 0 → en = .returned (.tuple #[lgV 0 (.slice none 0 0), lkV (apA e l t).2])) ∧
  ((apA e l t).2 = 0 → ∃ v', en = .returned (.tuple #[lgV e v', .nilIface]) ∧ OwnA w.heap.size w' v' (apA e l t).1) ∧ Below w.heap.size w w'
theorem AoPost.bad {e : Int} {l : List Ac} {t : Tx5} {w w' : World} {c : Int} (h : (apA e l t).2 = c) (hc : c ≠ 0) (hb : Below w.heap.size w w') : AoPost e l t w (.returned (.tuple #[lgV 0 (.slice none 0 0), lkV c])) w' :=
  ⟨fun _ => by rw [h], fun h0 => absurd (h.symm.trans h0) hc, hb⟩
theorem AoPost.good {e : Int} {l m : List Ac} {t : Tx5} {w w' : World} {v' : Value} (h : apA e l t = (m, 0)) (ho : OwnA w.heap.size w' v' m) (hb : Below w.heap.size w w') : AoPost e l t w (.returned (.tuple #[lgV e v', .nilIface])) w' :=
  ⟨fun h0 => absurd (by rw [h]) h0, fun _ => ⟨v', rfl, by rw [h]; exact ho⟩, hb⟩
theorem crA_len (l : List Ac) (s : ByteArray) (n : Int) : (crA l s n).1.length ≤ l.length + 1 := by
  unfold crA
  split
  · split
    · exact insA_len _ _
    · simp
  · simp
theorem aftA_lv (l : List Ac) (s : ByteArray) (n : Int) (h : ∀ a ∈ l, a.2.2.2.2.length ≤ 4000000) : (aftA l s n).2.2.2.2.length ≤ 4000000 := by
  unfold aftA
  cases hg : getA s l with
  | none => simp
  | some a => exact h a (getA_some hg).2
theorem crA_mem' {l : List Ac} {s : ByteArray} {n : Int} (hs : s.size ≤ maxLen) (h : ∀ a ∈ l, a.1.size ≤ maxLen ∧ a.2.2.2.2.length ≤ 4000000) : ∀ a ∈ (crA l s n).1, a.1.size ≤ maxLen ∧ a.2.2.2.2.length ≤ 4000000 := by
  unfold crA
  split
  · split
    · intro a ha
      rcases insA_mem _ _ _ ha with rfl | ha
      · exact ⟨by rw [aftA_name]; exact hs, aftA_lv l s n (fun a ha => (h a ha).2)⟩
      · exact h a ha
    · exact h
  · exact h
/-- What done answers, as what Apply asks of it. -/
theorem dn_says {e : Int} {l : List Ac} {t : Tx5} {k : Nat} (hl : lgB e l = true) (ht : txB t = true) (hk : k < l.length) (hs : ¬ hasA t l[k] < t.2.2.2.1) :
    ((dnA e t l k).2 = false → lgB e (doA e t l k) = false) ∧ ((dnA e t l k).2 = true → (dnA e t l k).1 = doA e t l k) := by
  have hgd := getD_at l k hk
  by_cases h1 : t.1 = 1
  · unfold hasA at hs
    rw [if_neg (by omega)] at hs
    obtain ⟨p1, p2⟩ := pay_full (e := e) hl ht h1 hk (by omega)
    have e1 : dnA e t l k = crA (l.set k (gvA e t l[k])) t.2.2.1 t.2.2.2.1 := by unfold dnA; rw [if_pos h1, hgd]
    rw [e1]
    exact ⟨fun h => by rw [← p1]; exact h, p2⟩
  · have e1 : dnA e t l k = (l.set k (gvA e t l[k]), true) := by unfold dnA; rw [if_neg h1, hgd]
    have e2 : doA e t l k = l.set k (gvA e t l[k]) := by unfold doA; rw [if_neg h1, hgd]
    rw [e1, e2]
    exact ⟨fun h => by simp at h, fun _ => rfl⟩
theorem dn_few {e : Int} {l : List Ac} {t : Tx5} {k : Nat} (hk : k < l.length) (hl : l.length ≤ 3999999) (hall : ∀ a ∈ l, a.1.size ≤ maxLen ∧ a.2.2.2.2.length ≤ 3999999) (ht : t.2.2.1.size ≤ maxLen) :
    (dnA e t l k).1.length ≤ 4000000 ∧ ∀ a ∈ (dnA e t l k).1, a.1.size ≤ maxLen ∧ a.2.2.2.2.length ≤ 4000000 := by
  have hgd := getD_at l k hk
  have hal := gv_all (e := e) (t := t) hk hall
  unfold dnA
  rw [hgd]
  split
  · have := crA_len (l.set k (gvA e t l[k])) t.2.2.1 t.2.2.2.1
    rw [List.length_set] at this
    exact ⟨by omega, crA_mem' ht hal⟩
  · exact ⟨by simp; omega, hal⟩
theorem RdA.atQ {w : World} {a : Option Addr} {cap i : Nat} {l : List Ac} (h : RdA w (.slice a l.length cap) l) (hi : i < l.length) :
    ∃ b off lv, a = some ⟨b, off, none⟩ ∧ b < w.heap.size ∧ AcAt w b (off + i * 5) l[i] lv ∧ RdL w lv l[i].2.2.2.2 := by
  rcases h with ⟨a', cap', e, rfl, -⟩ | ⟨b, off, cap', h0, e, h1, h2, h3, h4⟩
  · simp at hi
  · simp only [Value.slice.injEq, true_and] at e
    obtain ⟨rfl, rfl⟩ := e
    obtain ⟨lv, q1, q2⟩ := h4 i hi
    exact ⟨b, off, lv, rfl, h3, q1, q2⟩
set_option maxRecDepth 20000 in
set_option maxHeartbeats 4000000 in
theorem implAfter_any (e : Int) (v : Value) (l : List Ac) (t : Tx5) (w : World) (hr : RdA w v l) (hl : l.length ≤ 3999999) (hall : ∀ a ∈ l, a.1.size ≤ maxLen ∧ a.2.2.2.2.length ≤ 3999999) (hf : t.2.1.size ≤ maxLen) (ht : t.2.2.1.size ≤ maxLen) :
    Calls Tryz.prog 38 #[lgV e v, txV t] w fun en w' => AoPost e l t w en w' := by
  obtain ⟨av, cv, rfl⟩ := hr.shape
  have hall1 : ∀ a ∈ l, a.1.size ≤ maxLen ∧ a.2.2.2.2.length ≤ 4000000 := fun a ha => by have := hall a ha; omega
  have hall2 : ∀ a ∈ l, a.2.2.2.2.length ≤ 4000000 := fun a ha => (hall1 a ha).2
  obtain ⟨kd, fm, to, am, nc⟩ := t
  obtain ⟨w1, hw1⟩ : ∃ w1, w.alloc (.cells #[.int .i64 e, .slice av l.length cv] 26) = w1 := ⟨_, rfl⟩
  obtain ⟨w2, hw2⟩ : ∃ w2, w1.alloc (.cells #[.int .i64 kd, .string fm, .string to, .int .i64 am, .int .i64 nc] 28) = w2 := ⟨_, rfl⟩
  obtain ⟨w3, hw3⟩ : ∃ w3, w2.alloc (.cells #[.int .i64 0, .slice none 0 0] 26) = w3 := ⟨_, rfl⟩
  have s1 : w1.heap.size = w.heap.size + 1 := by rw [← hw1]; simp
  have s2 : w2.heap.size = w.heap.size + 1 + 1 := by rw [← hw2]; simp; omega
  have s3 : w3.heap.size = w.heap.size + 1 + 1 + 1 := by rw [← hw3]; simp; omega
  have hB3 : Below w.heap.size w w3 := by rw [← hw3, ← hw2, ← hw1]; exact (((Below.refl _ w).alloc (Nat.le_refl _) _).alloc (by simp) _).alloc (by simp; omega) _
  have kL : Blk w3 w.heap.size 26 [.int .i64 e, .slice av l.length cv] := by rw [← hw3, ← hw2, ← hw1]; exact ((Blk.new w _ _).alloc _).alloc _
  have kT : Blk w3 (w.heap.size + 1) 28 [.int .i64 kd, .string fm, .string to, .int .i64 am, .int .i64 nc] := by
    rw [← hw3, ← hw2, ← s1]
    exact (Blk.new w1 _ _).alloc _
  have kR : Blk w3 (w.heap.size + 1 + 1) 26 [.int .i64 0, .slice none 0 0] := by rw [← hw3, ← s2]; exact Blk.new w2 _ _
  have HO := hide (fun W h => implLedgerOk_any e (.slice av l.length cv) l W h (by omega) hall1)
  have HX := hide (fun W => implTxOk_any (kd, fm, to, am, nc) W hf ht)
  have HD := hide (fun W h => implCopiedLg_any e (.slice av l.length cv) l W h (by omega) hall2)
  have HA := hide (fun V W h => implAcctAt_any V l fm W h (by omega))
  have HOr := hide (fun W => orderOf_any (kd, fm, to, am, nc) W)
  have Hr := hide hr
  have Hall := hide hall
  obtain ⟨T, hT⟩ : ∃ T : Tx5, (kd, fm, to, am, nc) = T := ⟨_, rfl⟩
  have HT := hide hT
  have HP : Hid (∀ en w', AoPost e l (kd, fm, to, am, nc) w en w' → AoPost e l T w en w') := hide (fun en w' h => by rw [← hT]; exact h)
  simp only [lgV, txV] at HO HX HD HOr ⊢
  rw [hT]
  have l0 := kL.cell 0
  have l1 := kL.cell 1
  simp only [List.getElem?_cons_zero, List.getElem?_cons_succ] at l0 l1
  clear hr hall hall1 hall2 hT
  go_enter Tryz.func38, Tryz.ntmps38
  go_wp2_with fail
  refine (HO.out _ (Hr.out.below hB3 (Nat.le_refl _))).mono ?_
  rintro en w4 ⟨rfl, hb4⟩
  have hB4 : Below w.heap.size w w4 := hB3.trans (hb4.mono hB3.size)
  replace kL := kL.below hb4 kL.lt
  replace kT := kT.below hb4 kT.lt
  replace kR := kR.below hb4 kR.lt
  clear l0 l1
  cases h1 : lgB e l
  · have Hap := hide (apA_form (e := e) (l := l) (t := (kd, fm, to, am, nc)) (by rw [h1]; rfl))
    have r0 := kR.cell 0
    have r1 := kR.cell 1
    have g0 := kR.frozen 0
    have g1 := kR.frozen 1
    simp only [List.getElem?_cons_zero, List.getElem?_cons_succ] at r0 r1
    go_wp2
    refine bodyPost_ret (v := .tuple #[lgV 0 (.slice none 0 0), lkV 1]) (by simp [results, Tryz.f38, go_sem, r0, r1, lgV, lkV]) rfl ?_
    exact HP.out _ _ (AoPost.bad (by rw [Hap.out]) (by decide) ((hB4.setCell (p := ⟨w.heap.size + 1 + 1, 0, none⟩) (show w.heap.size ≤ w.heap.size + 1 + 1 by omega) _).setCell (p := ⟨w.heap.size + 1 + 1, 1, none⟩) (show w.heap.size ≤ w.heap.size + 1 + 1 by omega) _))
  · have t0 := kT.cell 0
    have t1 := kT.cell 1
    have t2 := kT.cell 2
    have t3 := kT.cell 3
    have t4 := kT.cell 4
    simp only [List.getElem?_cons_zero, List.getElem?_cons_succ] at t0 t1 t2 t3 t4
    have H1 := hide h1
    clear h1
    go_wp2_with fail
    refine (HX.out _).mono ?_
    rintro en w5 ⟨rfl, hb5⟩
    have hB5 : Below w.heap.size w w5 := hB4.trans (hb5.mono hB4.size)
    replace kL := kL.below hb5 kL.lt
    replace kT := kT.below hb5 kT.lt
    replace kR := kR.below hb5 kR.lt
    clear t0 t1 t2 t3 t4
    cases h2 : txB (kd, fm, to, am, nc)
    · have Hap := hide (apA_form (e := e) (l := l) (t := (kd, fm, to, am, nc)) (by rw [H1.out, h2]; rfl))
      have r0 := kR.cell 0
      have r1 := kR.cell 1
      have g0 := kR.frozen 0
      have g1 := kR.frozen 1
      simp only [List.getElem?_cons_zero, List.getElem?_cons_succ] at r0 r1
      go_wp2
      refine bodyPost_ret (v := .tuple #[lgV 0 (.slice none 0 0), lkV 1]) (by simp [results, Tryz.f38, go_sem, r0, r1, lgV, lkV]) rfl ?_
      exact HP.out _ _ (AoPost.bad (by rw [Hap.out]) (by decide) ((hB5.setCell (p := ⟨w.heap.size + 1 + 1, 0, none⟩) (show w.heap.size ≤ w.heap.size + 1 + 1 by omega) _).setCell (p := ⟨w.heap.size + 1 + 1, 1, none⟩) (show w.heap.size ≤ w.heap.size + 1 + 1 by omega) _))
    · have H2 : Hid ((lgB e l && txB (kd, fm, to, am, nc)) = true) := hide (by rw [H1.out, h2]; rfl)
      have Hx := hide h2
      have l0 := kL.cell 0
      have l1 := kL.cell 1
      simp only [List.getElem?_cons_zero, List.getElem?_cons_succ] at l0 l1
      have t1 := kT.cell 1
      simp only [List.getElem?_cons_zero, List.getElem?_cons_succ] at t1
      clear h2 HX
      go_wp2_with fail
      refine (HA.out _ _ (Hr.out.below hB5 (Nat.le_refl _))).mono ?_
      rintro en w6 ⟨rfl, hb6⟩
      have hB6 : Below w.heap.size w w6 := hB5.trans (hb6.mono hB5.size)
      replace kL := kL.below hb6 kL.lt
      replace kT := kT.below hb6 kT.lt
      replace kR := kR.below hb6 kR.lt
      clear l0 l1 t1 HA
      rcases at_cases l fm with hat | ⟨k, hk, hat, hkn, hkb⟩
      · have Hap := hide (apA_none (t := (kd, fm, to, am, nc)) H2.out (by show atA l fm < 0; rw [hat]; decide))
        rw [hat]
        have r0 := kR.cell 0
        have r1 := kR.cell 1
        have g0 := kR.frozen 0
        have g1 := kR.frozen 1
        simp only [List.getElem?_cons_zero, List.getElem?_cons_succ] at r0 r1
        go_wp2
        refine bodyPost_ret (v := .tuple #[lgV 0 (.slice none 0 0), lkV 2]) (by simp [results, Tryz.f38, go_sem, r0, r1, lgV, lkV]) rfl ?_
        exact HP.out _ _ (AoPost.bad (by rw [Hap.out]) (by decide) ((hB6.setCell (p := ⟨w.heap.size + 1 + 1, 0, none⟩) (show w.heap.size ≤ w.heap.size + 1 + 1 by omega) _).setCell (p := ⟨w.heap.size + 1 + 1, 1, none⟩) (show w.heap.size ≤ w.heap.size + 1 + 1 by omega) _))
      · rw [hat]
        have Hat := hide hat
        have hgd : l.getD k ac0 = l[k] := getD_at l k hk
        have htp := tx_parts Hx.out
        have hlg : lgB e l = true := H1.out
        have hasc := asc_lv (ac_parts (acs_at (lg_acs hlg) k hk)).2.2.2.2.2
        have Hwl := hide (wl_lv am (wrap64 (e + 2)) l[k].2.2.2.2 hasc)
        have Hfew := hide (dn_few (e := e) (t := (kd, fm, to, am, nc)) hk hl Hall.out ht)
        have Hsay := hide (dn_says (e := e) (t := (kd, fm, to, am, nc)) H1.out Hx.out hk)
        obtain ⟨b, off, lv, rfl, hbw, hatk, hrl⟩ := Hr.out.atQ hk
        have HDn : Hid (∀ (base g cap : Nat) (Z : List (Ac × Value)) (W : World), RowG base W g l.length cap Z → Z.map (·.1) = l → Calls Tryz.prog 74 #[.agg #[.int .i64 e, .slice (some ⟨g, 0, none⟩) l.length cap], .int .i64 (k : Int), orV (kd, fm, to, am, nc)] W fun en w' => ∃ v', en = .returned (.tuple #[.agg #[.int .i64 e, v'], .bool (dnA e (kd, fm, to, am, nc) l k).2]) ∧ OwnA base w' v' (dnA e (kd, fm, to, am, nc) l k).1 ∧ Below base W w') := hide (fun base g cap Z W h1 h2 => done_any e (kd, fm, to, am, nc) g cap Z l k base W h1 h2 hk htp.2.2.2 hl Hall.out ht Hwl.out)
        have Htp := hide htp
        have hatw := hatk.below hB6 hbw
        have hki : (k : Int) < (l.length : Int) := by omega
        have hk0 : (0 : Int) ≤ (k : Int) := by omega
        obtain ⟨av9, cv9, hlv⟩ := hrl.shape
        subst hlv
        have HAt : Hid (∀ W, Below w.heap.size w W → AcAt W b (off + k * 5) l[k] (.slice av9 l[k].2.2.2.2.length cv9)) := hide (fun W hW => hatk.below hW hbw)
        have Hnon := hide (fun h => apA_nonce (t := (kd, fm, to, am, nc)) H2.out Hat.out (by rw [hgd]; exact h))
        have Hsho := hide (fun h h3 => apA_short (t := (kd, fm, to, am, nc)) H2.out Hat.out (by rw [hgd]; exact h) (by rw [hgd]; exact h3))
        have Hful := hide (fun h h3 h4 => apA_full (t := (kd, fm, to, am, nc)) H2.out Hat.out (by rw [hgd]; exact h) (by rw [hgd]; exact h3) h4)
        have Hgoo := hide (fun h h3 h4 => apA_good (t := (kd, fm, to, am, nc)) H2.out Hat.out (by rw [hgd]; exact h) (by rw [hgd]; exact h3) h4)
        have Hcap : Hid (∀ W, Below w.heap.size w W → RdA W (.slice (some ⟨b, off, none⟩) l.length cv) l) := hide (fun W hW => Hr.out.below hW (Nat.le_refl _))
        clear htp hasc hlg hatk hrl hgd H1 H2 Hx Hat hkn hkb hat Hwl Hall Hr
        generalize hak : l[k] = ak at hatw HAt Hnon Hsho Hful Hgoo Hsay
        clear hak
        obtain ⟨nm, fr, no, st, ls⟩ := ak
        have c2 := hatw.c2
        have l1 := kL.cell 1
        have t4 := kT.cell 4
        simp only [List.getElem?_cons_zero, List.getElem?_cons_succ] at c2 l1 t4
        simp only at Hnon Hsho Hful Hgoo Hsay HAt
        clear hatw
        have KL := hide kL
        have KT := hide kT
        have KR := hide kR
        have HB6 := hide hB6
        go_upto_region 6 with fail
        go_region
        have bD : Below w6.heap.size w6 w6.drew := (Below.refl _ w6).drew
        replace kL := KL.out.below bD KL.out.lt
        replace kT := KT.out.below bD KT.out.lt
        replace kR := KR.out.below bD KR.out.lt
        have hBD : Below w.heap.size w w6.drew := HB6.out.drew
        clear c2 l1 t4 KL KT KR
        generalize w6.drew = wD at kL kT kR hBD bD ⊢
        by_cases hn : no = nc
        · subst hn
          have t0 := kT.cell 0
          have t1 := kT.cell 1
          have t2 := kT.cell 2
          have t3 := kT.cell 3
          have t4 := kT.cell 4
          simp only [List.getElem?_cons_zero, List.getElem?_cons_succ] at t0 t1 t2 t3 t4
          go_wp2_with fail
          refine (HOr.out _).mono ?_
          rintro en w7 ⟨rfl, hb7⟩
          have hB7 : Below w.heap.size w w7 := hBD.trans (hb7.mono hBD.size)
          replace kL := kL.below hb7 kL.lt
          replace kT := kT.below hb7 kT.lt
          replace kR := kR.below hb7 kR.lt
          clear t0 t1 t2 t3 t4 HOr
          have hat7 := HAt.out _ hB7.drew
          obtain ⟨c0, c1, c2, c3, c4⟩ := hat7
          simp only at c0 c1 c2 c3 c4
          have HSb : Hid (∀ W, Below w7.heap.size w7 W → (W.cell? ⟨w.heap.size, 1, none⟩ = some (.slice (some ⟨b, off, none⟩) l.length cv) ∧ W.cell? ⟨w.heap.size + 1, 3, none⟩ = some (.int .i64 am) ∧ W.cell? ⟨b, off + k * 5, none⟩ = some (.string nm) ∧ W.cell? ⟨b, off + k * 5 + 1, none⟩ = some (.int .i64 fr) ∧ W.cell? ⟨b, off + k * 5 + 2, none⟩ = some (.int .i64 no) ∧ W.cell? ⟨b, off + k * 5 + 3, none⟩ = some (.int .i64 st) ∧ W.cell? ⟨b, off + k * 5 + 4, none⟩ = some (.slice av9 ls.length cv9))) := hide (fun W hW => by
            have y1 := kL.below hW kL.lt
            have y2 := kT.below hW kT.lt
            obtain ⟨z0, z1, z2, z3, z4⟩ := HAt.out W (hB7.trans (hW.mono hB7.size))
            exact ⟨y1.cell 1, y2.cell 3, z0, z1, z2, z3, z4⟩)
          have KL := hide kL
          have KT := hide kT
          have KR := hide kR
          have HB7 := hide hB7
          have hmf : ∀ (fn : Fn) (first cap : Array Value) (w : World), (Instr.makeFunc fn first cap).run Tryz.prog w = .ok (.func fn first cap) w := fun _ _ _ _ => rfl
          clear kL kT kR c0 c1 c2 c3 c4
          have bE : Below w7.heap.size w7 w7.drew := (Below.refl _ w7).drew
          have hS7 := HSb.out _ bE
          rcases Htp.out.2.2.2 with rfl | rfl | rfl
          · have HV : Hid (orV (1, fm, to, am, no) = .iface 177 (.agg #[.string to, .int .i64 am])) := hide rfl
            rw [HV.out] at HDn ⊢
            have mth := Tryz.purseP
            have ahd := Tryz.aheadP
            have HC := hide (purseP_any to am (nm, fr, no, st, ls) (.slice av9 ls.length cv9) w7.drew ⟨_, _, _, rfl⟩)
            simp only [acV] at HC
            go_upto_region 9 with fail
            go_region_held_law (fun w' => w'.cell? ⟨w.heap.size, 1, none⟩ = some (.slice (some ⟨b, off, none⟩) l.length cv) ∧ w'.cell? ⟨w.heap.size + 1, 3, none⟩ = some (.int .i64 am) ∧ w'.cell? ⟨b, off + k * 5, none⟩ = some (.string nm) ∧ w'.cell? ⟨b, off + k * 5 + 1, none⟩ = some (.int .i64 fr) ∧ w'.cell? ⟨b, off + k * 5 + 2, none⟩ = some (.int .i64 no) ∧ w'.cell? ⟨b, off + k * 5 + 3, none⟩ = some (.int .i64 st) ∧ w'.cell? ⟨b, off + k * 5 + 4, none⟩ = some (.slice av9 ls.length cv9)) (first | with_reducible exact hS7 | with_reducible exact hS8) ((go_at_call 213; refine HC.out.mono ?_; rintro en w8 ⟨rfl, hb8⟩; have b8 := bE.trans (hb8.mono bE.size); have hS8 := HSb.out _ b8))
            have kL := KL.out.below b8 KL.out.lt
            have kT := KT.out.below b8 KT.out.lt
            have kR := KR.out.below b8 KR.out.lt
            have hB8 := HB7.out.trans (b8.mono HB7.out.size)
            clear hS7 hS8 HSb HC KL KT KR hmf mth ahd
            by_cases hs : fr < am
            · have Hap := hide (Hsho.out (by first | exact rfl | trivial) (show hasA (1, fm, to, am, no) (nm, fr, no, st, ls) < am from hs))
              have r0 := kR.cell 0
              have r1 := kR.cell 1
              have g0 := kR.frozen 0
              have g1 := kR.frozen 1
              simp only [List.getElem?_cons_zero, List.getElem?_cons_succ] at r0 r1
              go_wp2
              refine bodyPost_ret (v := .tuple #[lgV 0 (.slice none 0 0), lkV 4]) (by simp [results, Tryz.f38, go_sem, r0, r1, lgV, lkV]) rfl ?_
              exact HP.out _ _ (AoPost.bad (by rw [Hap.out]) (by decide) ((hB8.setCell (p := ⟨w.heap.size + 1 + 1, 0, none⟩) (show w.heap.size ≤ w.heap.size + 1 + 1 by omega) _).setCell (p := ⟨w.heap.size + 1 + 1, 1, none⟩) (show w.heap.size ≤ w.heap.size + 1 + 1 by omega) _))
            · have hs9 : ¬ hasA (1, fm, to, am, no) (nm, fr, no, st, ls) < am := hs
              have Hful2 := hide (Hful.out (by first | exact rfl | trivial) (by first | exact hs9 | exact Int.not_lt.1 hs9))
              have Hgoo2 := hide (Hgoo.out (by first | exact rfl | trivial) (by first | exact hs9 | exact Int.not_lt.1 hs9))
              have Hsay2 := hide (Hsay.out (by first | exact hs9 | exact Int.not_lt.1 hs9))
              clear hs9
              have l0 := kL.cell 0
              have l1 := kL.cell 1
              simp only [List.getElem?_cons_zero, List.getElem?_cons_succ] at l0 l1
              generalize dnA e (1, fm, to, am, no) l k = P at HDn Hsay2 Hfew
              obtain ⟨P, pb⟩ := P
              simp only at HDn Hsay2 Hfew
              clear Hsho Hful Hgoo Hsay Hnon kT
              go_wp2_with fail
              refine (HD.out _ (Hcap.out _ hB8)).mono ?_
              rintro en w9 ⟨v9, rfl, o9, hb9⟩
              have hB9 := hB8.trans (hb9.mono hB8.size)
              have kR9 := kR.below hb9 kR.lt
              have hlt9 := kR.lt
              obtain ⟨g, cap, Z, rfl, hZ, hG⟩ := o9.rowG
              have HDo := hide (HDn.out w8.heap.size g cap Z w9 hG hZ)
              have z9 := hb9.size
              have s8 := hB8.size
              clear l0 l1 hG o9 kL HDn
              go_wp2_with fail
              refine HDo.out.mono ?_
              rintro en w10 ⟨v10, rfl, o10, hb10⟩
              have hB10 := hB9.trans (hb10.mono s8)
              have kR10 := kR9.below hb10 hlt9
              have z10 := hb10.size
              obtain ⟨a10, c10, rfl⟩ := o10.rd.shape
              obtain ⟨w11, hw11⟩ : ∃ x, w10.alloc (.cells #[.int .i64 0, .slice none 0 0] 26) = x := ⟨_, rfl⟩
              have b11 : Below w10.heap.size w10 w11 := by rw [← hw11]; exact (Below.refl _ w10).alloc (Nat.le_refl _) _
              have kF11 : Blk w11 w10.heap.size 26 [.int .i64 0, .slice none 0 0] := by rw [← hw11]; exact Blk.new w10 _ _
              have kR11 := kR10.below b11 kR10.lt
              have hB11 := hB10.trans (b11.mono hB10.size)
              have s10 := hB10.size
              have kF12 := (kF11.set 0 (.int .i64 e)).set 1 (.slice a10 P.length c10)
              have kR12 := (kR11.other w10.heap.size 0 (.int .i64 e) (by have := kR10.lt; omega)).other w10.heap.size 1 (.slice a10 P.length c10) (by have := kR10.lt; omega)
              have hB12 := (hB11.setCell (p := ⟨w10.heap.size, 0, none⟩) s10 (.int .i64 e)).setCell (p := ⟨w10.heap.size, 1, none⟩) s10 (.slice a10 P.length c10)
              have o11 := o10.below b11 (Nat.le_refl _)
              have o12 : OwnA w8.heap.size ((w11.setCell ⟨w10.heap.size, 0, none⟩ (.int .i64 e)).setCell ⟨w10.heap.size, 1, none⟩ (.slice a10 P.length c10)) (.slice a10 P.length c10) P := by
                obtain ⟨g2, cap2, Z2, hv2, hZ2, hG2⟩ := o10.rowG
                have hlo : ∀ i (hi : i < Z2.length) r, Z2[i].2.ownBlock = some r → w10.heap.size ≠ r := fun i hi r hr e => by have := (hG2.lvs.own i hi).lt r hr; omega
                have hg2 := hG2.lt
                have h3 := (((hG2.below b11 (Nat.le_refl _)).other w10.heap.size 0 (.int .i64 e) (by omega) hlo).other w10.heap.size 1 (.slice a10 P.length c10) (by omega) hlo).own
                rw [hZ2, ← hv2] at h3
                exact h3
              obtain ⟨w12, hw12⟩ : ∃ x, (w11.setCell ⟨w10.heap.size, 0, none⟩ (.int .i64 e)).setCell ⟨w10.heap.size, 1, none⟩ (.slice a10 P.length c10) = x := ⟨_, rfl⟩
              rw [hw12] at kF12 kR12 hB12 o12
              simp only [List.set_cons_zero, List.set_cons_succ] at kF12
              have p0 := kF11.cell 0
              have p1 := kF11.cell 1
              have p2 := kF11.frozen 0
              have p3 := kF11.frozen 1
              have i0 := kF12.cell 0
              have i1 := kF12.cell 1
              simp only [List.getElem?_cons_zero, List.getElem?_cons_succ] at p0 p1 i0 i1
              have HOk := hide (implLedgerOk_any e (.slice a10 P.length c10) P w12 o12.rd Hfew.out.1 Hfew.out.2)
              have KR12 := hide kR12
              have KF12 := hide kF12
              have HB12 := hide hB12
              have HO12 := hide o12
              clear kR9 kR10 kF11 kR11 hB11 kF12 kR12 hB12 o11 o12 o10 hb10 b11 hZ HDo kR
              cases pb
              · have Hap := hide (Hful2.out (Hsay2.out.1 rfl))
                have hB12 := HB12.out
                have r0 := KR12.out.cell 0
                have r1 := KR12.out.cell 1
                have g0 := KR12.out.frozen 0
                have g1 := KR12.out.frozen 1
                simp only [List.getElem?_cons_zero, List.getElem?_cons_succ] at r0 r1
                clear Hsay2 Hful2 Hgoo2
                go_wp2
                refine bodyPost_ret (v := .tuple #[lgV 0 (.slice none 0 0), lkV 5]) (by simp [results, Tryz.f38, go_sem, r0, r1, lgV, lkV]) rfl ?_
                exact HP.out _ _ (AoPost.bad (by rw [Hap.out]) (by decide) ((hB12.setCell (p := ⟨w.heap.size + 1 + 1, 0, none⟩) (show w.heap.size ≤ w.heap.size + 1 + 1 by omega) _).setCell (p := ⟨w.heap.size + 1 + 1, 1, none⟩) (show w.heap.size ≤ w.heap.size + 1 + 1 by omega) _))
              · have hP := Hsay2.out.2 rfl
                rw [← hP] at Hful2 Hgoo2
                clear Hsay2 hP
                simp only [lgV] at HOk
                go_wp2_with fail
                refine HOk.out.mono ?_
                rintro en w13 ⟨rfl, hb13⟩
                have hB13 := HB12.out.trans (hb13.mono HB12.out.size)
                have kR13 := KR12.out.below hb13 KR12.out.lt
                have kF13 := KF12.out.below hb13 KF12.out.lt
                have o13 := HO12.out.below hb13 (Nat.le_refl _)
                have hRlt := KR12.out.lt
                clear p0 p1 p2 p3 i0 i1 HOk
                cases hp : lgB e P
                · have Hap := hide (Hful2.out hp)
                  clear hp Hful2 Hgoo2
                  have r0 := kR13.cell 0
                  have r1 := kR13.cell 1
                  have g0 := kR13.frozen 0
                  have g1 := kR13.frozen 1
                  simp only [List.getElem?_cons_zero, List.getElem?_cons_succ] at r0 r1
                  go_wp2
                  refine bodyPost_ret (v := .tuple #[lgV 0 (.slice none 0 0), lkV 5]) (by simp [results, Tryz.f38, go_sem, r0, r1, lgV, lkV]) rfl ?_
                  exact HP.out _ _ (AoPost.bad (by rw [Hap.out]) (by decide) ((hB13.setCell (p := ⟨w.heap.size + 1 + 1, 0, none⟩) (show w.heap.size ≤ w.heap.size + 1 + 1 by omega) _).setCell (p := ⟨w.heap.size + 1 + 1, 1, none⟩) (show w.heap.size ≤ w.heap.size + 1 + 1 by omega) _))
                · have Hap := hide (Hgoo2.out hp)
                  clear hp Hful2 Hgoo2
                  have i0 := kF13.cell 0
                  have i1 := kF13.cell 1
                  simp only [List.getElem?_cons_zero, List.getElem?_cons_succ] at i0 i1
                  have r0 := kR13.cell 0
                  have r1 := kR13.cell 1
                  have g0 := kR13.frozen 0
                  have g1 := kR13.frozen 1
                  simp only [List.getElem?_cons_zero, List.getElem?_cons_succ] at r0 r1
                  have HBx := hide ((hB13.setCell (p := ⟨w.heap.size + 1 + 1, 0, none⟩) (show w.heap.size ≤ w.heap.size + 1 + 1 by omega) (.int .i64 e)).setCell (p := ⟨w.heap.size + 1 + 1, 1, none⟩) (show w.heap.size ≤ w.heap.size + 1 + 1 by omega) (.slice a10 P.length c10))
                  have HOx := hide (((o13.older (g := w.heap.size + 1 + 1) (by omega) 0 (.int .i64 e)).older (g := w.heap.size + 1 + 1) (by omega) 1 (.slice a10 P.length c10)).mono (show w.heap.size ≤ _ by omega))
                  clear o13 kF13 kR13
                  go_wp2
                  refine bodyPost_ret (v := .tuple #[lgV e (.slice a10 P.length c10), .nilIface]) (by simp [results, Tryz.f38, go_sem, r0, r1, lgV]) rfl ?_
                  exact HP.out _ _ (AoPost.good Hap.out HOx.out HBx.out)
          · have HV : Hid (orV (2, fm, to, am, no) = .iface 179 (.agg #[.int .i64 am])) := hide rfl
            rw [HV.out] at HDn ⊢
            have mth := Tryz.purseB
            have ahd := Tryz.aheadB
            have HC := hide (purseB_any am (nm, fr, no, st, ls) (.slice av9 ls.length cv9) w7.drew ⟨_, _, _, rfl⟩)
            simp only [acV] at HC
            go_upto_region 9 with fail
            go_region_held_law (fun w' => w'.cell? ⟨w.heap.size, 1, none⟩ = some (.slice (some ⟨b, off, none⟩) l.length cv) ∧ w'.cell? ⟨w.heap.size + 1, 3, none⟩ = some (.int .i64 am) ∧ w'.cell? ⟨b, off + k * 5, none⟩ = some (.string nm) ∧ w'.cell? ⟨b, off + k * 5 + 1, none⟩ = some (.int .i64 fr) ∧ w'.cell? ⟨b, off + k * 5 + 2, none⟩ = some (.int .i64 no) ∧ w'.cell? ⟨b, off + k * 5 + 3, none⟩ = some (.int .i64 st) ∧ w'.cell? ⟨b, off + k * 5 + 4, none⟩ = some (.slice av9 ls.length cv9)) (first | with_reducible exact hS7 | with_reducible exact hS8) ((go_at_call 214; refine HC.out.mono ?_; rintro en w8 ⟨rfl, hb8⟩; have b8 := bE.trans (hb8.mono bE.size); have hS8 := HSb.out _ b8))
            have kL := KL.out.below b8 KL.out.lt
            have kT := KT.out.below b8 KT.out.lt
            have kR := KR.out.below b8 KR.out.lt
            have hB8 := HB7.out.trans (b8.mono HB7.out.size)
            clear hS7 hS8 HSb HC KL KT KR hmf mth ahd
            by_cases hs : fr < am
            · have Hap := hide (Hsho.out (by first | exact rfl | trivial) (show hasA (2, fm, to, am, no) (nm, fr, no, st, ls) < am from hs))
              have r0 := kR.cell 0
              have r1 := kR.cell 1
              have g0 := kR.frozen 0
              have g1 := kR.frozen 1
              simp only [List.getElem?_cons_zero, List.getElem?_cons_succ] at r0 r1
              go_wp2
              refine bodyPost_ret (v := .tuple #[lgV 0 (.slice none 0 0), lkV 4]) (by simp [results, Tryz.f38, go_sem, r0, r1, lgV, lkV]) rfl ?_
              exact HP.out _ _ (AoPost.bad (by rw [Hap.out]) (by decide) ((hB8.setCell (p := ⟨w.heap.size + 1 + 1, 0, none⟩) (show w.heap.size ≤ w.heap.size + 1 + 1 by omega) _).setCell (p := ⟨w.heap.size + 1 + 1, 1, none⟩) (show w.heap.size ≤ w.heap.size + 1 + 1 by omega) _))
            · have hs9 : ¬ hasA (2, fm, to, am, no) (nm, fr, no, st, ls) < am := hs
              have Hful2 := hide (Hful.out (by first | exact rfl | trivial) (by first | exact hs9 | exact Int.not_lt.1 hs9))
              have Hgoo2 := hide (Hgoo.out (by first | exact rfl | trivial) (by first | exact hs9 | exact Int.not_lt.1 hs9))
              have Hsay2 := hide (Hsay.out (by first | exact hs9 | exact Int.not_lt.1 hs9))
              clear hs9
              have l0 := kL.cell 0
              have l1 := kL.cell 1
              simp only [List.getElem?_cons_zero, List.getElem?_cons_succ] at l0 l1
              generalize dnA e (2, fm, to, am, no) l k = P at HDn Hsay2 Hfew
              obtain ⟨P, pb⟩ := P
              simp only at HDn Hsay2 Hfew
              clear Hsho Hful Hgoo Hsay Hnon kT
              go_wp2_with fail
              refine (HD.out _ (Hcap.out _ hB8)).mono ?_
              rintro en w9 ⟨v9, rfl, o9, hb9⟩
              have hB9 := hB8.trans (hb9.mono hB8.size)
              have kR9 := kR.below hb9 kR.lt
              have hlt9 := kR.lt
              obtain ⟨g, cap, Z, rfl, hZ, hG⟩ := o9.rowG
              have HDo := hide (HDn.out w8.heap.size g cap Z w9 hG hZ)
              have z9 := hb9.size
              have s8 := hB8.size
              clear l0 l1 hG o9 kL HDn
              go_wp2_with fail
              refine HDo.out.mono ?_
              rintro en w10 ⟨v10, rfl, o10, hb10⟩
              have hB10 := hB9.trans (hb10.mono s8)
              have kR10 := kR9.below hb10 hlt9
              have z10 := hb10.size
              obtain ⟨a10, c10, rfl⟩ := o10.rd.shape
              obtain ⟨w11, hw11⟩ : ∃ x, w10.alloc (.cells #[.int .i64 0, .slice none 0 0] 26) = x := ⟨_, rfl⟩
              have b11 : Below w10.heap.size w10 w11 := by rw [← hw11]; exact (Below.refl _ w10).alloc (Nat.le_refl _) _
              have kF11 : Blk w11 w10.heap.size 26 [.int .i64 0, .slice none 0 0] := by rw [← hw11]; exact Blk.new w10 _ _
              have kR11 := kR10.below b11 kR10.lt
              have hB11 := hB10.trans (b11.mono hB10.size)
              have s10 := hB10.size
              have kF12 := (kF11.set 0 (.int .i64 e)).set 1 (.slice a10 P.length c10)
              have kR12 := (kR11.other w10.heap.size 0 (.int .i64 e) (by have := kR10.lt; omega)).other w10.heap.size 1 (.slice a10 P.length c10) (by have := kR10.lt; omega)
              have hB12 := (hB11.setCell (p := ⟨w10.heap.size, 0, none⟩) s10 (.int .i64 e)).setCell (p := ⟨w10.heap.size, 1, none⟩) s10 (.slice a10 P.length c10)
              have o11 := o10.below b11 (Nat.le_refl _)
              have o12 : OwnA w8.heap.size ((w11.setCell ⟨w10.heap.size, 0, none⟩ (.int .i64 e)).setCell ⟨w10.heap.size, 1, none⟩ (.slice a10 P.length c10)) (.slice a10 P.length c10) P := by
                obtain ⟨g2, cap2, Z2, hv2, hZ2, hG2⟩ := o10.rowG
                have hlo : ∀ i (hi : i < Z2.length) r, Z2[i].2.ownBlock = some r → w10.heap.size ≠ r := fun i hi r hr e => by have := (hG2.lvs.own i hi).lt r hr; omega
                have hg2 := hG2.lt
                have h3 := (((hG2.below b11 (Nat.le_refl _)).other w10.heap.size 0 (.int .i64 e) (by omega) hlo).other w10.heap.size 1 (.slice a10 P.length c10) (by omega) hlo).own
                rw [hZ2, ← hv2] at h3
                exact h3
              obtain ⟨w12, hw12⟩ : ∃ x, (w11.setCell ⟨w10.heap.size, 0, none⟩ (.int .i64 e)).setCell ⟨w10.heap.size, 1, none⟩ (.slice a10 P.length c10) = x := ⟨_, rfl⟩
              rw [hw12] at kF12 kR12 hB12 o12
              simp only [List.set_cons_zero, List.set_cons_succ] at kF12
              have p0 := kF11.cell 0
              have p1 := kF11.cell 1
              have p2 := kF11.frozen 0
              have p3 := kF11.frozen 1
              have i0 := kF12.cell 0
              have i1 := kF12.cell 1
              simp only [List.getElem?_cons_zero, List.getElem?_cons_succ] at p0 p1 i0 i1
              have HOk := hide (implLedgerOk_any e (.slice a10 P.length c10) P w12 o12.rd Hfew.out.1 Hfew.out.2)
              have KR12 := hide kR12
              have KF12 := hide kF12
              have HB12 := hide hB12
              have HO12 := hide o12
              clear kR9 kR10 kF11 kR11 hB11 kF12 kR12 hB12 o11 o12 o10 hb10 b11 hZ HDo kR
              cases pb
              · have Hap := hide (Hful2.out (Hsay2.out.1 rfl))
                have hB12 := HB12.out
                have r0 := KR12.out.cell 0
                have r1 := KR12.out.cell 1
                have g0 := KR12.out.frozen 0
                have g1 := KR12.out.frozen 1
                simp only [List.getElem?_cons_zero, List.getElem?_cons_succ] at r0 r1
                clear Hsay2 Hful2 Hgoo2
                go_wp2
                refine bodyPost_ret (v := .tuple #[lgV 0 (.slice none 0 0), lkV 5]) (by simp [results, Tryz.f38, go_sem, r0, r1, lgV, lkV]) rfl ?_
                exact HP.out _ _ (AoPost.bad (by rw [Hap.out]) (by decide) ((hB12.setCell (p := ⟨w.heap.size + 1 + 1, 0, none⟩) (show w.heap.size ≤ w.heap.size + 1 + 1 by omega) _).setCell (p := ⟨w.heap.size + 1 + 1, 1, none⟩) (show w.heap.size ≤ w.heap.size + 1 + 1 by omega) _))
              · have hP := Hsay2.out.2 rfl
                rw [← hP] at Hful2 Hgoo2
                clear Hsay2 hP
                simp only [lgV] at HOk
                go_wp2_with fail
                refine HOk.out.mono ?_
                rintro en w13 ⟨rfl, hb13⟩
                have hB13 := HB12.out.trans (hb13.mono HB12.out.size)
                have kR13 := KR12.out.below hb13 KR12.out.lt
                have kF13 := KF12.out.below hb13 KF12.out.lt
                have o13 := HO12.out.below hb13 (Nat.le_refl _)
                have hRlt := KR12.out.lt
                clear p0 p1 p2 p3 i0 i1 HOk
                cases hp : lgB e P
                · have Hap := hide (Hful2.out hp)
                  clear hp Hful2 Hgoo2
                  have r0 := kR13.cell 0
                  have r1 := kR13.cell 1
                  have g0 := kR13.frozen 0
                  have g1 := kR13.frozen 1
                  simp only [List.getElem?_cons_zero, List.getElem?_cons_succ] at r0 r1
                  go_wp2
                  refine bodyPost_ret (v := .tuple #[lgV 0 (.slice none 0 0), lkV 5]) (by simp [results, Tryz.f38, go_sem, r0, r1, lgV, lkV]) rfl ?_
                  exact HP.out _ _ (AoPost.bad (by rw [Hap.out]) (by decide) ((hB13.setCell (p := ⟨w.heap.size + 1 + 1, 0, none⟩) (show w.heap.size ≤ w.heap.size + 1 + 1 by omega) _).setCell (p := ⟨w.heap.size + 1 + 1, 1, none⟩) (show w.heap.size ≤ w.heap.size + 1 + 1 by omega) _))
                · have Hap := hide (Hgoo2.out hp)
                  clear hp Hful2 Hgoo2
                  have i0 := kF13.cell 0
                  have i1 := kF13.cell 1
                  simp only [List.getElem?_cons_zero, List.getElem?_cons_succ] at i0 i1
                  have r0 := kR13.cell 0
                  have r1 := kR13.cell 1
                  have g0 := kR13.frozen 0
                  have g1 := kR13.frozen 1
                  simp only [List.getElem?_cons_zero, List.getElem?_cons_succ] at r0 r1
                  have HBx := hide ((hB13.setCell (p := ⟨w.heap.size + 1 + 1, 0, none⟩) (show w.heap.size ≤ w.heap.size + 1 + 1 by omega) (.int .i64 e)).setCell (p := ⟨w.heap.size + 1 + 1, 1, none⟩) (show w.heap.size ≤ w.heap.size + 1 + 1 by omega) (.slice a10 P.length c10))
                  have HOx := hide (((o13.older (g := w.heap.size + 1 + 1) (by omega) 0 (.int .i64 e)).older (g := w.heap.size + 1 + 1) (by omega) 1 (.slice a10 P.length c10)).mono (show w.heap.size ≤ _ by omega))
                  clear o13 kF13 kR13
                  go_wp2
                  refine bodyPost_ret (v := .tuple #[lgV e (.slice a10 P.length c10), .nilIface]) (by simp [results, Tryz.f38, go_sem, r0, r1, lgV]) rfl ?_
                  exact HP.out _ _ (AoPost.good Hap.out HOx.out HBx.out)
          · have HV : Hid (orV (3, fm, to, am, no) = .iface 180 (.agg #[.int .i64 am])) := hide rfl
            rw [HV.out] at HDn ⊢
            have mth := Tryz.purseU
            have ahd := Tryz.aheadU
            have HC := hide (purseU_any am (nm, fr, no, st, ls) (.slice av9 ls.length cv9) w7.drew ⟨_, _, _, rfl⟩)
            simp only [acV] at HC
            go_upto_region 9 with fail
            go_region_held_law (fun w' => w'.cell? ⟨w.heap.size, 1, none⟩ = some (.slice (some ⟨b, off, none⟩) l.length cv) ∧ w'.cell? ⟨w.heap.size + 1, 3, none⟩ = some (.int .i64 am) ∧ w'.cell? ⟨b, off + k * 5, none⟩ = some (.string nm) ∧ w'.cell? ⟨b, off + k * 5 + 1, none⟩ = some (.int .i64 fr) ∧ w'.cell? ⟨b, off + k * 5 + 2, none⟩ = some (.int .i64 no) ∧ w'.cell? ⟨b, off + k * 5 + 3, none⟩ = some (.int .i64 st) ∧ w'.cell? ⟨b, off + k * 5 + 4, none⟩ = some (.slice av9 ls.length cv9)) (first | with_reducible exact hS7 | with_reducible exact hS8) ((go_at_call 215; refine HC.out.mono ?_; rintro en w8 ⟨rfl, hb8⟩; have b8 := bE.trans (hb8.mono bE.size); have hS8 := HSb.out _ b8))
            have kL := KL.out.below b8 KL.out.lt
            have kT := KT.out.below b8 KT.out.lt
            have kR := KR.out.below b8 KR.out.lt
            have hB8 := HB7.out.trans (b8.mono HB7.out.size)
            clear hS7 hS8 HSb HC KL KT KR hmf mth ahd
            by_cases hs : st < am
            · have Hap := hide (Hsho.out (by first | exact rfl | trivial) (show hasA (3, fm, to, am, no) (nm, fr, no, st, ls) < am from hs))
              have r0 := kR.cell 0
              have r1 := kR.cell 1
              have g0 := kR.frozen 0
              have g1 := kR.frozen 1
              simp only [List.getElem?_cons_zero, List.getElem?_cons_succ] at r0 r1
              go_wp2
              refine bodyPost_ret (v := .tuple #[lgV 0 (.slice none 0 0), lkV 4]) (by simp [results, Tryz.f38, go_sem, r0, r1, lgV, lkV]) rfl ?_
              exact HP.out _ _ (AoPost.bad (by rw [Hap.out]) (by decide) ((hB8.setCell (p := ⟨w.heap.size + 1 + 1, 0, none⟩) (show w.heap.size ≤ w.heap.size + 1 + 1 by omega) _).setCell (p := ⟨w.heap.size + 1 + 1, 1, none⟩) (show w.heap.size ≤ w.heap.size + 1 + 1 by omega) _))
            · have hs9 : ¬ hasA (3, fm, to, am, no) (nm, fr, no, st, ls) < am := hs
              have Hful2 := hide (Hful.out (by first | exact rfl | trivial) (by first | exact hs9 | exact Int.not_lt.1 hs9))
              have Hgoo2 := hide (Hgoo.out (by first | exact rfl | trivial) (by first | exact hs9 | exact Int.not_lt.1 hs9))
              have Hsay2 := hide (Hsay.out (by first | exact hs9 | exact Int.not_lt.1 hs9))
              clear hs9
              have l0 := kL.cell 0
              have l1 := kL.cell 1
              simp only [List.getElem?_cons_zero, List.getElem?_cons_succ] at l0 l1
              generalize dnA e (3, fm, to, am, no) l k = P at HDn Hsay2 Hfew
              obtain ⟨P, pb⟩ := P
              simp only at HDn Hsay2 Hfew
              clear Hsho Hful Hgoo Hsay Hnon kT
              go_wp2_with fail
              refine (HD.out _ (Hcap.out _ hB8)).mono ?_
              rintro en w9 ⟨v9, rfl, o9, hb9⟩
              have hB9 := hB8.trans (hb9.mono hB8.size)
              have kR9 := kR.below hb9 kR.lt
              have hlt9 := kR.lt
              obtain ⟨g, cap, Z, rfl, hZ, hG⟩ := o9.rowG
              have HDo := hide (HDn.out w8.heap.size g cap Z w9 hG hZ)
              have z9 := hb9.size
              have s8 := hB8.size
              clear l0 l1 hG o9 kL HDn
              go_wp2_with fail
              refine HDo.out.mono ?_
              rintro en w10 ⟨v10, rfl, o10, hb10⟩
              have hB10 := hB9.trans (hb10.mono s8)
              have kR10 := kR9.below hb10 hlt9
              have z10 := hb10.size
              obtain ⟨a10, c10, rfl⟩ := o10.rd.shape
              obtain ⟨w11, hw11⟩ : ∃ x, w10.alloc (.cells #[.int .i64 0, .slice none 0 0] 26) = x := ⟨_, rfl⟩
              have b11 : Below w10.heap.size w10 w11 := by rw [← hw11]; exact (Below.refl _ w10).alloc (Nat.le_refl _) _
              have kF11 : Blk w11 w10.heap.size 26 [.int .i64 0, .slice none 0 0] := by rw [← hw11]; exact Blk.new w10 _ _
              have kR11 := kR10.below b11 kR10.lt
              have hB11 := hB10.trans (b11.mono hB10.size)
              have s10 := hB10.size
              have kF12 := (kF11.set 0 (.int .i64 e)).set 1 (.slice a10 P.length c10)
              have kR12 := (kR11.other w10.heap.size 0 (.int .i64 e) (by have := kR10.lt; omega)).other w10.heap.size 1 (.slice a10 P.length c10) (by have := kR10.lt; omega)
              have hB12 := (hB11.setCell (p := ⟨w10.heap.size, 0, none⟩) s10 (.int .i64 e)).setCell (p := ⟨w10.heap.size, 1, none⟩) s10 (.slice a10 P.length c10)
              have o11 := o10.below b11 (Nat.le_refl _)
              have o12 : OwnA w8.heap.size ((w11.setCell ⟨w10.heap.size, 0, none⟩ (.int .i64 e)).setCell ⟨w10.heap.size, 1, none⟩ (.slice a10 P.length c10)) (.slice a10 P.length c10) P := by
                obtain ⟨g2, cap2, Z2, hv2, hZ2, hG2⟩ := o10.rowG
                have hlo : ∀ i (hi : i < Z2.length) r, Z2[i].2.ownBlock = some r → w10.heap.size ≠ r := fun i hi r hr e => by have := (hG2.lvs.own i hi).lt r hr; omega
                have hg2 := hG2.lt
                have h3 := (((hG2.below b11 (Nat.le_refl _)).other w10.heap.size 0 (.int .i64 e) (by omega) hlo).other w10.heap.size 1 (.slice a10 P.length c10) (by omega) hlo).own
                rw [hZ2, ← hv2] at h3
                exact h3
              obtain ⟨w12, hw12⟩ : ∃ x, (w11.setCell ⟨w10.heap.size, 0, none⟩ (.int .i64 e)).setCell ⟨w10.heap.size, 1, none⟩ (.slice a10 P.length c10) = x := ⟨_, rfl⟩
              rw [hw12] at kF12 kR12 hB12 o12
              simp only [List.set_cons_zero, List.set_cons_succ] at kF12
              have p0 := kF11.cell 0
              have p1 := kF11.cell 1
              have p2 := kF11.frozen 0
              have p3 := kF11.frozen 1
              have i0 := kF12.cell 0
              have i1 := kF12.cell 1
              simp only [List.getElem?_cons_zero, List.getElem?_cons_succ] at p0 p1 i0 i1
              have HOk := hide (implLedgerOk_any e (.slice a10 P.length c10) P w12 o12.rd Hfew.out.1 Hfew.out.2)
              have KR12 := hide kR12
              have KF12 := hide kF12
              have HB12 := hide hB12
              have HO12 := hide o12
              clear kR9 kR10 kF11 kR11 hB11 kF12 kR12 hB12 o11 o12 o10 hb10 b11 hZ HDo kR
              cases pb
              · have Hap := hide (Hful2.out (Hsay2.out.1 rfl))
                have hB12 := HB12.out
                have r0 := KR12.out.cell 0
                have r1 := KR12.out.cell 1
                have g0 := KR12.out.frozen 0
                have g1 := KR12.out.frozen 1
                simp only [List.getElem?_cons_zero, List.getElem?_cons_succ] at r0 r1
                clear Hsay2 Hful2 Hgoo2
                go_wp2
                refine bodyPost_ret (v := .tuple #[lgV 0 (.slice none 0 0), lkV 5]) (by simp [results, Tryz.f38, go_sem, r0, r1, lgV, lkV]) rfl ?_
                exact HP.out _ _ (AoPost.bad (by rw [Hap.out]) (by decide) ((hB12.setCell (p := ⟨w.heap.size + 1 + 1, 0, none⟩) (show w.heap.size ≤ w.heap.size + 1 + 1 by omega) _).setCell (p := ⟨w.heap.size + 1 + 1, 1, none⟩) (show w.heap.size ≤ w.heap.size + 1 + 1 by omega) _))
              · have hP := Hsay2.out.2 rfl
                rw [← hP] at Hful2 Hgoo2
                clear Hsay2 hP
                simp only [lgV] at HOk
                go_wp2_with fail
                refine HOk.out.mono ?_
                rintro en w13 ⟨rfl, hb13⟩
                have hB13 := HB12.out.trans (hb13.mono HB12.out.size)
                have kR13 := KR12.out.below hb13 KR12.out.lt
                have kF13 := KF12.out.below hb13 KF12.out.lt
                have o13 := HO12.out.below hb13 (Nat.le_refl _)
                have hRlt := KR12.out.lt
                clear p0 p1 p2 p3 i0 i1 HOk
                cases hp : lgB e P
                · have Hap := hide (Hful2.out hp)
                  clear hp Hful2 Hgoo2
                  have r0 := kR13.cell 0
                  have r1 := kR13.cell 1
                  have g0 := kR13.frozen 0
                  have g1 := kR13.frozen 1
                  simp only [List.getElem?_cons_zero, List.getElem?_cons_succ] at r0 r1
                  go_wp2
                  refine bodyPost_ret (v := .tuple #[lgV 0 (.slice none 0 0), lkV 5]) (by simp [results, Tryz.f38, go_sem, r0, r1, lgV, lkV]) rfl ?_
                  exact HP.out _ _ (AoPost.bad (by rw [Hap.out]) (by decide) ((hB13.setCell (p := ⟨w.heap.size + 1 + 1, 0, none⟩) (show w.heap.size ≤ w.heap.size + 1 + 1 by omega) _).setCell (p := ⟨w.heap.size + 1 + 1, 1, none⟩) (show w.heap.size ≤ w.heap.size + 1 + 1 by omega) _))
                · have Hap := hide (Hgoo2.out hp)
                  clear hp Hful2 Hgoo2
                  have i0 := kF13.cell 0
                  have i1 := kF13.cell 1
                  simp only [List.getElem?_cons_zero, List.getElem?_cons_succ] at i0 i1
                  have r0 := kR13.cell 0
                  have r1 := kR13.cell 1
                  have g0 := kR13.frozen 0
                  have g1 := kR13.frozen 1
                  simp only [List.getElem?_cons_zero, List.getElem?_cons_succ] at r0 r1
                  have HBx := hide ((hB13.setCell (p := ⟨w.heap.size + 1 + 1, 0, none⟩) (show w.heap.size ≤ w.heap.size + 1 + 1 by omega) (.int .i64 e)).setCell (p := ⟨w.heap.size + 1 + 1, 1, none⟩) (show w.heap.size ≤ w.heap.size + 1 + 1 by omega) (.slice a10 P.length c10))
                  have HOx := hide (((o13.older (g := w.heap.size + 1 + 1) (by omega) 0 (.int .i64 e)).older (g := w.heap.size + 1 + 1) (by omega) 1 (.slice a10 P.length c10)).mono (show w.heap.size ≤ _ by omega))
                  clear o13 kF13 kR13
                  go_wp2
                  refine bodyPost_ret (v := .tuple #[lgV e (.slice a10 P.length c10), .nilIface]) (by simp [results, Tryz.f38, go_sem, r0, r1, lgV]) rfl ?_
                  exact HP.out _ _ (AoPost.good Hap.out HOx.out HBx.out)
        · have Hap := hide (Hnon.out hn)
          have hq : (nc != no) = true := by rw [bne_iff_ne]; exact fun h => hn h.symm
          clear hn HDn HOr
          have r0 := kR.cell 0
          have r1 := kR.cell 1
          have g0 := kR.frozen 0
          have g1 := kR.frozen 1
          simp only [List.getElem?_cons_zero, List.getElem?_cons_succ] at r0 r1
          go_wp2
          refine bodyPost_ret (v := .tuple #[lgV 0 (.slice none 0 0), lkV 3]) (by simp [results, Tryz.f38, go_sem, r0, r1, lgV, lkV]) rfl ?_
          exact HP.out _ _ (AoPost.bad (by rw [Hap.out]) (by decide) ((hBD.setCell (p := ⟨w.heap.size + 1 + 1, 0, none⟩) (show w.heap.size ≤ w.heap.size + 1 + 1 by omega) _).setCell (p := ⟨w.heap.size + 1 + 1, 1, none⟩) (show w.heap.size ≤ w.heap.size + 1 + 1 by omega) _))
end Go.Proofs.YtocaednkhcjkcaaGreatDoor
