/- Those who vote: what is right, on both sides. Blocks: a datum, its value, what reads as it, and which blocks are right. Plain facts on numbers: the groups of seven bits of a number, read and put; bit operations on an int that is not below 0. Plain facts on the bytes of a number, and the law of append over bytes of the call's own. -/
import Derived.Test.YtcmmdkabocfnfaaGreatDoorZgIn
import Derived.Test.YtcmmdkabocfnfaaGreatDoorZgNamesOk
import Derived.Lib.QuietBelow
import Derived.BigQuiet
import Derived.Test.YtcmmdkabocfnfaaGreatDoorZgTxVal
import Derived.Test.YtcmmdkabocfnfaaGreatDoorZgTxRow
import Derived.Test.YtcmmdkabocfnfaaGreatDoorRows
import Derived.WalkKit
import Derived.Laws.BitsAllLaws
import Derived.Test.YtcmmdkabocfnfaaGreatDoorZgToStr
import Derived.Laws.AppendOwnNone
namespace Go.Proofs.YtcmmdkabocfnfaaGreatDoor
open Go.RowKit Go.Sort
set_option linter.unusedVariables false

theorem sameV_regrown {P : Program} {f : FuncId} {args : Array Value} {w : World} {d : Nat} {os : Array Obj} {v : Value}
    (h : Calls P f args (grow (redrawn w d) os) fun e w' => e = .returned v ∧ w' = grow (redrawn w d) os) : Calls P f args (grow (redrawn w d) os) fun e w'' => e = .returned v ∧ ∃ p : Regrown, w'' = grow (redrawn w p.d) p.os :=
  h.mono fun _ _ ⟨he, hw⟩ => ⟨he, ⟨⟨d, os⟩, hw⟩⟩
def vl0 : Vl := (ByteArray.empty, 0)
/-- Whether one who votes is right. -/
def valB (p : Vl) : Bool := nmB p.1 && inB p.2 1 1000000
/-- What the i-th one must be. -/
def vlAt (l : List Vl) (i : Nat) : Bool := valB (l.getD i vl0) && (decide (i = 0) || Op.bytesLess (l.getD (i - 1) vl0).1.toList (l.getD i vl0).1.toList)
def setB (l : List Vl) : Bool := (List.range l.length).all (vlAt l) && inB l.length 1 12
theorem set_no (l : List Vl) (k : Nat) (h : k < l.length) (hk : vlAt l k = false) : setB l = false := by
  unfold setB
  have : (List.range l.length).all (vlAt l) = false := by
    rw [List.all_eq_false]
    exact ⟨k, List.mem_range.2 h, by simp [hk]⟩
  rw [this, Bool.false_and]
theorem set_yes (l : List Vl) (h : ∀ j, j < l.length → vlAt l j = true) : setB l = inB l.length 1 12 := by
  unfold setB
  have : (List.range l.length).all (vlAt l) = true := by
    rw [List.all_eq_true]
    exact fun j hj => h j (List.mem_range.1 hj)
  rw [this, Bool.true_and]
theorem vlAt_eq (l : List Vl) (k : Nat) (a : Vl) (h : k < l.length) (ha : l[k] = a) : vlAt l k = ((nmB a.1 && inB a.2 1 1000000) && (decide (k = 0) || Op.bytesLess (l.getD (k - 1) vl0).1.toList a.1.toList)) := by
  have : l.getD k vl0 = a := by rw [List.getD_eq_getElem?_getD, List.getElem?_eq_getElem h, ← ha]; rfl
  unfold vlAt; rw [this]; rfl

set_option maxRecDepth 20000 in
set_option maxHeartbeats 2000000 in
theorem specSetOk_any (v : Value) (l : List Vl) (w : World) (hr : RdV w v l) (hl : l.length ≤ 4000000) (hall : ∀ a ∈ l, a.1.size ≤ maxLen) :
    Calls Tryz.prog 63 #[v] w fun e w' => e = .returned (.bool (setB l)) ∧ Below w.heap.size w w' := by
  rcases hr with ⟨a, cap, rfl, rfl, -⟩ | ⟨b, off, cap, h0, rfl, h1, h2, h3, h4⟩
  · go_enter Tryz.func63, Tryz.ntmps63
    go_wp2
    refine wp_loop_rounds 1 ?_
    rw [rounds_succ]
    go_wp2_with (go_at_call 58; refine (l1In_any _ _ _ _).mono ?_; rintro e w2 ⟨rfl, rfl⟩)
    go_ret
    exact ⟨rfl, Below.refl _ _⟩
  · have H4 := hide h4
    have Hs := hide hall
    clear h4 hall
    go_enter Tryz.func63, Tryz.ntmps63
    go_wp2
    go_loopw [3] (fun i wr => ∃ k : Nat, k ≤ l.length ∧ i = .int .i64 k ∧ (∀ j, j < k → vlAt l j = true) ∧ Below w.heap.size w wr) (fun i _ => l.length - (intOf i).toNat)
    case atStart => exact ⟨0, Nat.zero_le _, rfl, fun j hj => by omega, Below.refl _ _⟩
    case round =>
      obtain ⟨k, hk, rfl, hok, hb⟩ := hrel
      have Hall := hide hok
      clear hok
      by_cases hlt : k < l.length
      · obtain ⟨d0, d1⟩ := H4.out k hlt
        have c0 := (hb.cell (p := ⟨b, off + k * 2, none⟩) h3).trans d0
        have c1 := (hb.cell (p := ⟨b, off + k * 2 + 1, none⟩) h3).trans d1
        have hsz := Hs.out l[k] (List.getElem_mem hlt)
        have Hok := hide (vlAt_eq l k l[k] hlt rfl)
        have Hno := hide (set_no l k hlt)
        have hli : (k : Int) < (l.length : Int) := by omega
        have Hnx : Hid (vlAt l k = true → ∀ j, j < k + 1 → vlAt l j = true) := hide (fun h j hj => by
          by_cases e : j = k
          · subst e; exact h
          · exact Hall.out j (by omega))
        have hprev : Hid (k ≥ 1 → wr.cell? ⟨b, off + (k - 1) * 2, none⟩ = some (.string (l.getD (k - 1) vl0).1)) := hide (fun hk1 => by
          rw [List.getD_eq_getElem?_getD, List.getElem?_eq_getElem (show k - 1 < l.length by omega)]
          exact (hb.cell (p := ⟨b, off + (k - 1) * 2, none⟩) h3).trans (H4.out (k - 1) (by omega)).1)
        clear d0 d1
        generalize l[k] = ak at c0 c1 Hok hsz
        generalize (l.getD (k - 1) vl0).1 = pn at hprev Hok
        obtain ⟨nm, wt⟩ := ak
        simp only at c0 c1 Hok hsz
        have HN := hide (fun (d : Nat) (os : Array Obj) => sameV_regrown (specNameOk_any nm (grow (redrawn wr d) os) hsz))
        have HI := hide (fun (d : Nat) (os : Array Obj) => sameV_regrown (l1In_any wt 1 1000000 (grow (redrawn wr d) os)))
        have g0 := cell_regrown c0
        have g1 := cell_regrown c1
        clear c0 c1 hsz
        cases hn : nmB nm
        · have hf := hide (Hno.out (by rw [Hok.out, hn]; rfl))
          rw [hn] at HN
          clear hn hprev Hnx
          go_wp2
          refine wp_region_quiet_below (by kernel_rfl) (by kernel_rfl) ?_
          repeat (go_big_quiet_step ((first | (go_at_call 59; exact HN.out _ _) | (go_at_call 58; exact HI.out _ _))))
          refine wpQuiet_nil ?_
          intro _ hw'
          obtain ⟨⟨dq, osq⟩, hw''⟩ := hw'
          subst hw''
          go_wp2
          go_ret
          exact ⟨ret_bool hf.out.symm, hb.trans ((below_regrown wr dq osq).mono hb.size)⟩
        · rw [hn] at HN
          cases hi : inB wt 1 1000000
          · have hf := hide (Hno.out (by rw [Hok.out, hn, hi]; rfl))
            rw [hi] at HI
            clear hn hi hprev Hnx
            go_wp2
            refine wp_region_quiet_below (by kernel_rfl) (by kernel_rfl) ?_
            repeat (go_big_quiet_step ((first | (go_at_call 59; exact HN.out _ _) | (go_at_call 58; exact HI.out _ _))))
            refine wpQuiet_nil ?_
            intro _ hw'
            obtain ⟨⟨dq, osq⟩, hw''⟩ := hw'
            subst hw''
            go_wp2
            go_ret
            exact ⟨ret_bool hf.out.symm, hb.trans ((below_regrown wr dq osq).mono hb.size)⟩
          · rw [hi] at HI
            by_cases hk1 : k < 1
            · have hd : decide (0 < k) = false := by simp; omega
              have hd2 : decide ((0 : Int) < (k : Int)) = false := by simp; omega
              have Hnx := hide (Hnx.out (by rw [Hok.out, hn, hi, show k = 0 from by omega]; rfl))
              clear hn hi hprev
              go_wp2
              refine wp_region_quiet_below (by kernel_rfl) (by kernel_rfl) ?_
              repeat (go_big_quiet_step ((first | (go_at_call 59; exact HN.out _ _) | (go_at_call 58; exact HI.out _ _))))
              refine wpQuiet_nil ?_
              intro _ hw'
              obtain ⟨⟨dq, osq⟩, hw''⟩ := hw'
              subst hw''
              go_wp2
              go_roundw
              case rel => exact ⟨k + 1, by omega, by go_num, Hnx.out, hb.trans ((below_regrown wr dq osq).mono hb.size)⟩
              case measure => simp [intOf]; omega
            · have hcp := cell_regrown (hprev.out (by omega))
              clear hprev
              have hpos : (0 : Int) < (k : Int) := by omega
              have hposN : 0 < k := by omega
              have hd1 : decide (0 < k) = true := by simp; omega
              have hix : ((k : Int) - 1).toNat = k - 1 := by omega
              have hix1 : (0 : Int) ≤ (k : Int) - 1 := by omega
              have hix2 : (k : Int) - 1 < (l.length : Int) := by omega
              cases hless : Op.bytesLess pn.toList nm.toList
              · have hf := hide (Hno.out (by rw [Hok.out, hn, hi, hless]; simp; omega))
                clear hn hi Hnx
                go_wp2
                refine wp_region_quiet_below (by kernel_rfl) (by kernel_rfl) ?_
                repeat (go_big_quiet_step ((first | (go_at_call 59; exact HN.out _ _) | (go_at_call 58; exact HI.out _ _))))
                refine wpQuiet_nil ?_
                intro _ hw'
                obtain ⟨⟨dq, osq⟩, hw''⟩ := hw'
                subst hw''
                go_wp2
                go_ret
                exact ⟨ret_bool hf.out.symm, hb.trans ((below_regrown wr dq osq).mono hb.size)⟩
              · have Hnx := hide (Hnx.out (by rw [Hok.out, hn, hi, hless]; simp))
                clear hn hi
                go_wp2
                refine wp_region_quiet_below (by kernel_rfl) (by kernel_rfl) ?_
                repeat (go_big_quiet_step ((first | (go_at_call 59; exact HN.out _ _) | (go_at_call 58; exact HI.out _ _))))
                refine wpQuiet_nil ?_
                intro _ hw'
                obtain ⟨⟨dq, osq⟩, hw''⟩ := hw'
                subst hw''
                go_wp2
                go_roundw
                case rel => exact ⟨k + 1, by omega, by go_num, Hnx.out, hb.trans ((below_regrown wr dq osq).mono hb.size)⟩
                case measure => simp [intOf]; omega
      · have hf := hide (set_yes l (fun j hj => Hall.out j (by omega)))
        go_wp2_with (go_at_call 58; refine (l1In_any _ _ _ _).mono ?_; rintro e w2 ⟨rfl, rfl⟩)
        go_ret
        exact ⟨ret_bool hf.out.symm, hb⟩
end Go.Proofs.YtcmmdkabocfnfaaGreatDoor

namespace Go.Proofs.YtcmmdkabocfnfaaGreatDoor
open Go.RowKit
set_option linter.unusedVariables false

/-- A block: its number, epoch and round, who made it; the certificate's round, block and names; what was left out: its round, names, Highs; the orders; whether it ends the epoch, who votes next, the root. -/
structure Bk where
  id : Int
  ep : Int
  rd : Int
  md : ByteArray
  qr : Int
  qb : Int
  qw : List ByteArray
  tr : Int
  tw : List ByteArray
  th : List Int
  ts : List Tx5
  en : Bool
  nx : List Vl
  rt : ByteArray
/-- A block's lists, as values. -/
structure Bv where
  q : Value
  w : Value
  h : Value
  t : Value
  n : Value
def bkC (b : Bk) (v : Bv) : List Value := [.int .i64 b.id, .int .i64 b.ep, .int .i64 b.rd, .string b.md, .int .i64 b.qr, .int .i64 b.qb, v.q, .int .i64 b.tr, v.w, v.h, v.t, .bool b.en, v.n, .string b.rt]
def bkV (b : Bk) (v : Bv) : Value := .agg #[.int .i64 b.id, .int .i64 b.ep, .int .i64 b.rd, .string b.md, .int .i64 b.qr, .int .i64 b.qb, v.q, .int .i64 b.tr, v.w, v.h, v.t, .bool b.en, v.n, .string b.rt]
/-- The lists read as the block's. -/
structure RdK (w : World) (b : Bk) (v : Bv) : Prop where
  q : RdS w v.q b.qw
  p : RdS w v.w b.tw
  h : RdI w v.h b.th
  t : RdT w v.t b.ts
  n : RdV w v.n b.nx
theorem RdK.below {B : Nat} {w w' : World} {b : Bk} {v : Bv} (h : RdK w b v) (hb : Below B w w') (hB : w.heap.size ≤ B) : RdK w' b v :=
  ⟨h.q.below hb hB, h.p.below hb hB, h.h.below hb hB, h.t.below hb hB, h.n.below hb hB⟩
/-- The lists are no longer than what the laws ask of. -/
structure FewK (b : Bk) : Prop where
  q : b.qw.length ≤ 4000000
  w : b.tw.length ≤ 4000000
  h : b.th.length ≤ 4000000
  t : b.ts.length ≤ 4000000
  n : b.nx.length ≤ 4000000
  qs : ∀ s ∈ b.qw, s.size ≤ maxLen
  ws : ∀ s ∈ b.tw, s.size ≤ maxLen
  ts : ∀ t ∈ b.ts, t.2.1.size ≤ maxLen ∧ t.2.2.1.size ≤ maxLen
  ns : ∀ p ∈ b.nx, p.1.size ≤ maxLen
  ms : b.md.size ≤ maxLen
  rs : b.rt.size ≤ maxLen
def q9B (b : Bk) : Bool := rootB b.qr b.qb b.qw || (inB b.qr 1 (wrap64 (b.rd - 1)) && (inB b.qb 0 (wrap64 (b.id - 1)) && nmsB b.qw))
def t9B (b : Bk) : Bool := noneB b.tr b.tw b.th || (inB b.tr 1 (wrap64 (b.rd - 1)) && (nmsB b.tw && (decide (b.th.length = b.tw.length) && hisB b.tr b.th)))
def e9B (b : Bk) : Bool := if b.en = true then setB b.nx && decide (b.rt.size = 32) else decide (b.nx.length = 0) && decide (b.rt = ⟨#[]⟩)
/-- Whether a block is right. -/
def blB (b : Bk) : Bool := inB b.id 0 100000 && (inB b.ep 0 900 && (inB b.rd 1 10000 && (nmB b.md && (q9B b && (t9B b && (decide (b.ts.length ≤ 4) && (b.ts.all txB && e9B b)))))))
end Go.Proofs.YtcmmdkabocfnfaaGreatDoor

namespace Go.Proofs.YtcmmdkabocfnfaaGreatDoor
open Go.RowKit

theorem i64_and_nat (a b : Nat) (ha : a < 9223372036854775808) (hb : b < 9223372036854775808) : bits .and .i64 (a : Int) (b : Int) = ((a &&& b : Nat) : Int) := by
  have hx : a &&& b < 2 ^ 63 := Nat.and_lt_two_pow _ (by omega)
  show IntKind.i64.wrap ((BitVec.ofInt 64 (a : Int) &&& BitVec.ofInt 64 (b : Int)).toNat : Int) = _
  rw [BitVec.toNat_and, ofInt_u64 a (by omega), ofInt_u64 b (by omega), IntKind.wrap_i64]
  omega
theorem i64_or_nat (a b : Nat) (ha : a < 9223372036854775808) (hb : b < 9223372036854775808) : bits .or .i64 (a : Int) (b : Int) = ((a ||| b : Nat) : Int) := by
  have hx : a ||| b < 2 ^ 63 := Nat.or_lt_two_pow (by omega) (by omega)
  show IntKind.i64.wrap ((BitVec.ofInt 64 (a : Int) ||| BitVec.ofInt 64 (b : Int)).toNat : Int) = _
  rw [BitVec.toNat_or, ofInt_u64 a (by omega), ofInt_u64 b (by omega), IntKind.wrap_i64]
  omega
theorem and127 (a : Nat) (ha : a < 9223372036854775808) : bits .and .i64 (a : Int) 127 = ((a % 128 : Nat) : Int) := by
  have := i64_and_nat a 127 ha (by omega)
  rw [show ((127 : Nat) : Int) = 127 from rfl] at this
  rw [this, show (127 : Nat) = 2 ^ 7 - 1 from rfl, Nat.and_two_pow_sub_one_eq_mod]
theorem and1 (a : Nat) (ha : a < 9223372036854775808) : bits .and .i64 (a : Int) 1 = ((a % 2 : Nat) : Int) := by
  have := i64_and_nat a 1 ha (by omega)
  rw [show ((1 : Nat) : Int) = 1 from rfl] at this
  rw [this, show (1 : Nat) = 2 ^ 1 - 1 from rfl, Nat.and_two_pow_sub_one_eq_mod]
theorem or_high (a c i : Nat) (h : a < 2 ^ i) : a ||| c * 2 ^ i = a + c * 2 ^ i := by
  rw [← Nat.shiftLeft_eq, Nat.or_comm, ← Nat.shiftLeft_add_eq_or_of_lt h, Nat.add_comm]
theorem or128 (a : Nat) (ha : a < 128) : bits .or .i64 (a : Int) 128 = ((a + 128 : Nat) : Int) := by
  have := i64_or_nat a 128 (by omega) (by omega)
  rw [show ((128 : Nat) : Int) = 128 from rfl] at this
  rw [this]
  have h := or_high a 1 7 (by omega)
  simp at h
  rw [h]

/-- The groups of a number: what has been read, how many groups, and the last one. -/
def gr : Nat → List UInt8 → Nat → Nat → Option (Nat × Nat × Nat)
  | 0, _, _, _ => none
  | _ + 1, [], _, _ => none
  | f + 1, c :: t, m, k => if 128 ≤ c.toNat then gr f t (m + c.toNat % 128 * 128 ^ k) (k + 1) else some (m + c.toNat % 128 * 128 ^ k, k, c.toNat)

/-- What a place of these bytes reads as: 0, 0 and false, or the number, the place behind, and true. -/
def getN (l : List UInt8) (p : Int) : Int × Int × Bool :=
  if 0 ≤ p ∧ p < l.length then
    match gr 5 (l.drop p.toNat) 0 0 with
    | none => (0, 0, false)
    | some (m, k, c) => if (0 < k ∧ c = 0) ∨ 2000000000 < m then (0, 0, false) else ((if m % 2 = 1 then -((m : Int) / 2) - 1 else (m : Int) / 2), p + k + 1, true)
  else (0, 0, false)

theorem gr_step (f : Nat) (l : List UInt8) (q : Nat) (h : q < l.length) (m k : Nat) :
    gr (f + 1) (l.drop q) m k = if 128 ≤ l[q].toNat then gr f (l.drop (q + 1)) (m + l[q].toNat % 128 * 128 ^ k) (k + 1) else some (m + l[q].toNat % 128 * 128 ^ k, k, l[q].toNat) := by
  rw [List.drop_eq_getElem_cons h]; rfl
theorem gr_end (f : Nat) (l : List UInt8) (q : Nat) (h : l.length ≤ q) (m k : Nat) : gr f (l.drop q) m k = none := by
  rw [List.drop_of_length_le h]; cases f <;> rfl

theorem pow128 (k : Nat) : (128 : Nat) ^ k = 2 ^ (7 * k) := by
  rw [show (128 : Nat) = 2 ^ 7 from rfl, ← Nat.pow_mul]
theorem sum_lt (m k c : Nat) (h : m < 128 ^ k) (hc : c < 128) : m + c * 128 ^ k < 128 ^ (k + 1) := by
  have h1 : (c + 1) * 128 ^ k ≤ 128 * 128 ^ k := Nat.mul_le_mul_right _ (by omega)
  rw [Nat.add_mul] at h1
  rw [Nat.pow_succ]; omega
theorem pow128_le (k : Nat) (h : k ≤ 5) : 128 ^ k ≤ 34359738368 := by
  have : (128 : Nat) ^ k ≤ 128 ^ 5 := Nat.pow_le_pow_right (by omega) h
  simpa using this

theorem num_or (m k D E M : Nat) (h : m < 128 ^ k) (hD : D < 128) (hk : k < 5) (hE : D * 128 ^ k = E) (hM : m + E = M) :
    M < 34359738368 ∧ M < 128 ^ (k + 1) ∧ bits .or .i64 (m : Int) (E : Int) = (M : Int) ∧ wrap64 ((D : Int) * 2 ^ (7 * k)) = (E : Int) := by
  have h1 : M < 128 ^ (k + 1) := by have := sum_lt m k D h hD; rwa [hE, hM] at this
  have h2 : M < 34359738368 := by have := pow128_le (k + 1) (by omega); omega
  have hmE : m < 9223372036854775808 := by omega
  have hEE : E < 9223372036854775808 := by omega
  refine ⟨h2, h1, ?_, ?_⟩
  · rw [i64_or_nat m E hmE hEE, ← hM, ← hE, pow128, or_high m D (7 * k) (by rw [← pow128]; exact h)]
  · have e : ((D : Int) * 2 ^ (7 * k)) = ((D * 2 ^ (7 * k) : Nat) : Int) := by simp
    rw [e, ← pow128, hE]; clear e; unfold wrap64; omega

theorem num_mul (k D E : Nat) (u : Int) (hU : ((128 ^ k : Nat) : Int) = u) (hE : D * 128 ^ k = E) (h : E < 34359738368) : wrap64 ((D : Int) * u) = (E : Int) := by
  have e : ((D : Int) * u) = ((D * 128 ^ k : Nat) : Int) := by rw [← hU]; simp
  rw [e, hE]; clear e hE hU; unfold wrap64; omega

theorem getN_none (l : List UInt8) (q : Nat) (h : gr 5 (l.drop q) 0 0 = none) : getN l q = (0, 0, false) := by
  unfold getN; rw [Int.toNat_natCast, h]; split <;> rfl
theorem getN_bad (l : List UInt8) (q M k C : Nat) (h : gr 5 (l.drop q) 0 0 = some (M, k, C)) (hb : (0 < k ∧ C = 0) ∨ 2000000000 < M) : getN l q = (0, 0, false) := by
  unfold getN; rw [Int.toNat_natCast, h]; simp only [if_pos hb]; split <;> rfl
theorem getN_odd (l : List UInt8) (q M k C : Nat) (hq : q < l.length) (h : gr 5 (l.drop q) 0 0 = some (M, k, C)) (hb : ¬ ((0 < k ∧ C = 0) ∨ 2000000000 < M)) (hp : M % 2 = 1) : getN l q = (-((M : Int) / 2) - 1, (q : Int) + k + 1, true) := by
  unfold getN; rw [Int.toNat_natCast, h, if_pos (by omega)]; simp only [if_neg hb, if_pos hp]
theorem getN_even (l : List UInt8) (q M k C : Nat) (hq : q < l.length) (h : gr 5 (l.drop q) 0 0 = some (M, k, C)) (hb : ¬ ((0 < k ∧ C = 0) ∨ 2000000000 < M)) (hp : ¬ M % 2 = 1) : getN l q = ((M : Int) / 2, (q : Int) + k + 1, true) := by
  unfold getN; rw [Int.toNat_natCast, h, if_pos (by omega)]; simp only [if_neg hb, if_neg hp]

theorem gr_last (l : List UInt8) (q k m C M : Nat) (hk : k < 5) (hlt : q + k < l.length) (hg : gr 5 (l.drop q) 0 0 = gr (5 - k) (l.drop (q + k)) m k) (hC : l[q + k].toNat = C) (hM : m + C % 128 * 128 ^ k = M) (hb : ¬ 128 ≤ C) :
    gr 5 (l.drop q) 0 0 = some (M, k, C) := by
  have h := gr_step (4 - k) l (q + k) hlt m k
  rw [hC, hM, if_neg hb, show 4 - k + 1 = 5 - k from by omega] at h
  rw [hg, h]
theorem gr_next (l : List UInt8) (q k m C M : Nat) (hk : k < 5) (hlt : q + k < l.length) (hg : gr 5 (l.drop q) 0 0 = gr (5 - k) (l.drop (q + k)) m k) (hC : l[q + k].toNat = C) (hM : m + C % 128 * 128 ^ k = M) (hb : 128 ≤ C) :
    gr 5 (l.drop q) 0 0 = gr (5 - (k + 1)) (l.drop (q + (k + 1))) M (k + 1) := by
  have h := gr_step (4 - k) l (q + k) hlt m k
  rw [hC, hM, if_pos hb, show 4 - k + 1 = 5 - k from by omega] at h
  rw [hg, h, show 4 - k = 5 - (k + 1) from by omega, Nat.add_assoc]
end Go.Proofs.YtcmmdkabocfnfaaGreatDoor

namespace Go.Proofs.YtcmmdkabocfnfaaGreatDoor
open Go.RowKit
set_option linter.unusedVariables false

def foldN (n : Int) : Nat := if n < 0 then (2 * min (-n) 1000000000 - 1).toNat else (2 * min n 1000000000).toNat

def putG : Nat → Nat → List UInt8
  | 0, m => [UInt8.ofNat m]
  | f + 1, m => if m ≤ 127 then [UInt8.ofNat m] else UInt8.ofNat (m % 128 + 128) :: putG f (m / 128)

def numB (n : Int) : List UInt8 := putG 5 (foldN n)

theorem foldN_le (n : Int) : foldN n ≤ 2000000000 := by unfold foldN; split <;> omega
theorem putG_len : ∀ (f m : Nat), (putG f m).length ≤ f + 1 := by
  intro f
  induction f with
  | zero => intro m; simp [putG]
  | succ f ih =>
    intro m
    rw [putG]
    split
    · simp
    · have := ih (m / 128); simp only [List.length_cons]; omega
theorem numB_len (n : Int) : (numB n).length ≤ 6 := putG_len 5 _
theorem putG_last (f m : Nat) (h : m ≤ 127) : putG f m = [UInt8.ofNat m] := by
  cases f with
  | zero => rfl
  | succ f => rw [putG, if_pos h]
theorem putG_more (f m : Nat) (h : ¬ m ≤ 127) : putG (f + 1) m = UInt8.ofNat (m % 128 + 128) :: putG f (m / 128) := by rw [putG, if_neg h]

theorem byte_of (m : Nat) (h : m < 256) : (m : Int) = ((UInt8.ofNat m).toNat : Int) := by
  rw [UInt8.toNat_ofNat']; omega

theorem div_lt_pow (m f : Nat) (h : m < 128 ^ (f + 1 + 1)) : m / 128 < 128 ^ (f + 1) := by
  rw [Nat.pow_succ] at h
  exact Nat.div_lt_of_lt_mul (by rw [Nat.mul_comm]; exact h)

theorem fold_pow (M : Nat) (h : M ≤ 2000000000) : M < 128 ^ (5 + 1) := by
  have : (128 : Nat) ^ (5 + 1) = 4398046511104 := by decide
  omega

theorem rd_one (w : World) (x : Int) (c : UInt8) (h : x = (c.toNat : Int)) : RdB (w.alloc (.cells #[.int .u8 x] 5)) (.slice (some ⟨w.heap.size, 0, none⟩) 1 1) [c] := by
  refine .inr ⟨w.heap.size, 0, 1, by simp, rfl, by simp, by unfold maxLen; omega, by simp, ?_⟩
  intro i hi
  simp only [List.length_cons, List.length_nil] at hi
  have : i = 0 := by omega
  subst this
  simp [World.cell?_alloc_at, h]

theorem own_nil (w : World) (base : Nat) (h : base ≤ w.heap.size) : OwnB base (w.alloc (.cells #[] 5)) (.slice (some ⟨w.heap.size, 0, none⟩) 0 0) [] :=
  World.ownsRow_lit w #[] 0 h (by unfold maxLen; omega) (by simp)

theorem OwnB.alloc {base : Nat} {w : World} {v : Value} {l : List UInt8} (h : OwnB base w v l) (o : Obj) : OwnB base (w.alloc o) v l := World.ownsRow.alloc h o

theorem app_own {ops : Array Oper} {rest : List Oper} {o : Oper} {a : Act} {Q : Exit → Act → World → Prop} (w : World) (hgd : o.guard = none) (s x : Operand)
    (ho : o.op = .call { callee := .builtin .append, args := #[s, x], argTypes := #[22, 22] })
    (base : Nat) (v vx : Value) (l k : List UInt8) (hs : a.eval s = v) (hx : a.eval x = vx) (hown : OwnB base w v l) (hrd : RdB w vx k)
    (hlen : l.length + k.length ≤ 100000000) (hbase : base ≤ w.heap.size)
    (h : ∀ v' w', OwnB base w' v' (l ++ k) → Below base w w' → wpList Tryz.prog ops Q rest (a.put o.dst v') w') : wpList Tryz.prog ops Q (o :: rest) a w := by
  obtain ⟨i0, hi, hz0, hz1, hz2⟩ := info_parts Tryz.infoU8
  have hbel : ∀ w', w.grownBy w' v.ownBlock → Below base w w' := fun w' hg => (Below.refl _ _).grown hg hbase (fun k hk => (World.ownsRow.lt hown k hk).1)
  rcases hrd with ⟨ax, cap, rfl, rfl, hnil⟩ | ⟨b, off, cap, h0, rfl, h1, h2, h3, h4⟩
  · cases ax with
    | none =>
      have hc : cap = 0 := hnil rfl
      subst hc
      refine wpList_append_own_none hgd s x 22 ho base 5 i0 1 Tryz.underlying22 hi v l.length (l.map cb) hs hown hx ?_
      exact h v w (by simpa [OwnB] using hown) (Below.refl _ _)
    | some ad =>
      refine wpList_append_own w hgd s x 22 ho base 5 i0 (.int .u8 0) 1 1 Tryz.underlying22 hi hz0 hz1 hz2 rfl (by decide) v l.length (l.map cb) hs hown ad 0 cap [] hx rfl (by intro j u hj; simp at hj) (by intro u hu; simp at hu) (by unfold maxLen; simp at hlen; omega) (by simp at hlen; omega) hbase ?_
      intro v' w' ho' hg _
      exact h v' w' (by simpa [OwnB] using ho') (hbel w' hg)
  · refine wpList_append_own w hgd s x 22 ho base 5 i0 (.int .u8 0) 1 1 Tryz.underlying22 hi hz0 hz1 hz2 rfl (by decide) v l.length (l.map cb) hs hown ⟨b, off, none⟩ k.length cap (k.map cb) hx (by simp) ?_ ?_ (by unfold maxLen; omega) (by omega) hbase ?_
    · intro j u hj
      have hj' : j < k.length := by have := (List.getElem?_eq_some_iff.1 hj).1; simpa using this
      have ea : (⟨b, off, none⟩ : Addr).add j = ⟨b, off + j, none⟩ := by
        by_cases hz : j = 0
        · subst hz; simp [Addr.add]
        · simp [Addr.add, hz]
      rw [ea, h4 j hj']
      simp [hj', cb] at hj
      rw [← hj]
    · intro u hu
      obtain ⟨c, _, rfl⟩ := List.mem_map.1 hu
      rfl
    · intro v' w' ho' hg _
      exact h v' w' (by simpa [OwnB] using ho') (hbel w' hg)
end Go.Proofs.YtcmmdkabocfnfaaGreatDoor
