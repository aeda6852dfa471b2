/- A slice of bytes that came in reads as bytes. Whether a code is too long for the laws; the shape of what a call owns. What the row's condition says of the package-level variable that holds a type's handle: its cell. Apply's answer is the accounts as they were, or accounts that are right (plain). The kit's cut, with its range reckoned. What an order leaves: as much as there was, and what it does to the account of the one who gave it (plain facts). What a drawn order does leaves as much as there was, makes the number of orders of the one who gave it one more, and its amount goes where it must: the law FnApplied returns true at every code, with no condition but that the package-level variable of the errors package reads as the program's text lays it. -/
import Derived.Test.YtocaednkhcjkcaaGreatDoorMem
import Derived.OpenShut
import Derived.Test.YtocaednkhcjkcaaGreatDoorLgAs
import Derived.LaidLaws
import Derived.LaidHandle
import Derived.LaidMore
import Derived.OpenVars
import Derived.Stop.Joined
import Derived.Test.YtocaednkhcjkcaaGreatDoorRows
import Derived.Test.YtocaednkhcjkcaaGreatDoorLgAp
import Derived.Test.YtocaednkhcjkcaaGreatDoorLgFacts
import Derived.Deep.DeepCutAuto
import Derived.Test.YtocaednkhcjkcaaGreatDoorTie
import Derived.Test.YtocaednkhcjkcaaGreatDoorCards
import Derived.Test.YtocaednkhcjkcaaGreatDoorZaDo
import Derived.Test.YtocaednkhcjkcaaGreatDoorAcImpl2
import Derived.Test.YtocaednkhcjkcaaGreatDoorLgImpl
import Derived.Test.YtocaednkhcjkcaaGreatDoorZaDt
import Derived.ChangeSame
import Derived.ChangeVars
import Derived.JoinedOf
import Derived.RowKitTokens
import Derived.WalkKit
import Derived.ProofKit
import Derived.ShutString
import Derived.ChangeOld
import Derived.Below
import Derived.SliceStrings
import Derived.SevenTiedAt
namespace Go.Proofs.YtocaednkhcjkcaaGreatDoor
open Go.RowKit
set_option linter.unusedVariables false

/-- What is told of a slice of integers that came in: it is nil, or it leads to a row of 'cap' cells, the numbers zs, each fitting its kind. -/
def IsRow (k : IntKind) (w : World) (a : Option Addr) (len cap : Nat) (zs : List Int) : Prop :=
  (a = none ∧ len = 0 ∧ cap = 0 ∧ zs = []) ∨
  ∃ x, a = some x ∧ len ≤ cap ∧ cap ≤ maxLen ∧ zs.length = cap ∧ (∀ i, i < zs.length → w.cell? (x.add i) = some (.int k (zs.getD i 0))) ∧ ∀ n ∈ zs, (Lit.int k n).wf = true

theorem wf_u8 {z : Int} (h : (Lit.int .u8 z).wf = true) : 0 ≤ z ∧ z ≤ 255 := bounds_u8 h
theorem wf_i64 {z : Int} (h : (Lit.int .i64 z).wf = true) : -9223372036854775808 ≤ z ∧ z ≤ 9223372036854775807 := bounds_i64 h

theorem IsRow.rd {w : World} {a : Option Addr} {len cap : Nat} {zs : List Int} (h : IsRow .u8 w a len cap zs) : ∃ l : List UInt8, len = l.length ∧ RdB w (.slice a len cap) l := by
  rcases h with ⟨rfl, rfl, rfl, rfl⟩ | ⟨x, rfl, hlc, hm, hz, hcell, hwf⟩
  · exact ⟨[], rfl, .inl ⟨_, _, rfl, rfl, fun h => by first | rfl | cases h⟩⟩
  · by_cases h0 : len = 0
    · subst h0; exact ⟨[], rfl, .inl ⟨_, _, rfl, rfl, fun h => by first | rfl | cases h⟩⟩
    · obtain ⟨b, off, spot⟩ := x
      have hc0 := hcell 0 (by omega)
      have hspot : spot = none := by simpa [Addr.add] using World.cell?_spot hc0
      subst hspot
      have hlen : ((zs.take len).map (fun z => UInt8.ofNat z.toNat)).length = len := by simp; omega
      refine ⟨(zs.take len).map (fun z => UInt8.ofNat z.toNat), hlen.symm, .inr ⟨b, off, cap, ?_, by rw [hlen], by omega, hm, ?_, ?_⟩⟩
      · intro e; rw [e] at hlen; simp at hlen; omega
      · have := World.block_lt_of_cell? w _ hc0; simpa [Addr.add] using this
      · intro i hi
        rw [hlen] at hi
        have hi' : i < zs.length := by omega
        have hc := hcell i hi'
        have hb := wf_u8 (hwf zs[i] (List.getElem_mem hi'))
        have hg : zs.getD i 0 = zs[i] := by simp [hi']
        rw [hg] at hc
        have hv : ((((zs.take len).map (fun z => UInt8.ofNat z.toNat))[i]'(by rw [hlen]; exact hi)).toNat : Int) = zs[i] := by
          simp only [List.getElem_map, List.getElem_take, UInt8.toNat_ofNat']
          omega
        rw [hv]
        have ea : (⟨b, off, none⟩ : Addr).add i = ⟨b, off + i, none⟩ := by
          by_cases hz : i = 0
          · subst hz; simp [Addr.add]
          · simp [Addr.add, hz]
        rwa [ea] at hc
end Go.Proofs.YtocaednkhcjkcaaGreatDoor

namespace Go.Proofs.YtocaednkhcjkcaaGreatDoor
open Go.RowKit
set_option linter.unusedVariables false

set_option maxRecDepth 20000 in
theorem big_any (v : Value) (l : List UInt8) (w : World) (hr : RdB w v l) (hl : l.length ≤ 9223372036854775807) :
    Calls Tryz.prog 7 #[v] w fun e w' => e = .returned (.bool (decide (1048576 < l.length))) ∧ w' = w := by
  obtain ⟨a, cap, rfl⟩ := hr.shape
  clear hr
  by_cases h : 1048576 < l.length
  · have hd := hide (decide_eq_true h)
    go_enter Tryz.func7, Tryz.ntmps7
    go_wp2
    go_ret
    exact ⟨ret_bool (by rw [hd.out]; simp; omega), rfl⟩
  · have hd := hide (decide_eq_false h)
    go_enter Tryz.func7, Tryz.ntmps7
    go_wp2
    go_ret
    exact ⟨ret_bool (by rw [hd.out]; simp; omega), rfl⟩

theorem OwnB.shape {base : Nat} {w : World} {v : Value} {l : List UInt8} (h : OwnB base w v l) (hl : l ≠ []) : ∃ g cap, v = .slice (some ⟨g, 0, none⟩) l.length cap ∧ l.length ≤ cap ∧ cap ≤ 9223372036854775807 := by
  rcases h.2 with ⟨hv, hn⟩ | ⟨g, cap, cur, hv, hb, hg, hnc, hcm, hcs, ht⟩
  · exact absurd (List.length_eq_zero_iff.1 hn) hl
  · exact ⟨g, cap, hv, hnc, by unfold maxLen at hcm; omega⟩

theorem RdB.cut {w : World} {g cap : Nat} {l : List UInt8} (h : RdB w (.slice (some ⟨g, 0, none⟩) l.length cap) l) (k : Nat) (hk : k ≤ l.length) : RdB w (.slice (some ⟨g, 0, none⟩) k cap) (l.take k) := by
  have hlen : (l.take k).length = k := by simp; omega
  rcases h with ⟨a, c, hv, rfl, hn⟩ | ⟨b, off, c, h0, hv, h1, h2, h3, h4⟩
  · have : k = 0 := by simpa using hk
    subst this
    exact .inl ⟨_, _, rfl, by simp, fun h => by cases h⟩
  · simp only [Value.slice.injEq, Option.some.injEq, Addr.mk.injEq, and_true, true_and] at hv
    obtain ⟨⟨rfl, rfl⟩, rfl⟩ := hv
    by_cases hk0 : k = 0
    · subst hk0; exact .inl ⟨_, _, rfl, by simp, fun h => by cases h⟩
    · refine .inr ⟨g, 0, cap, ?_, by rw [hlen], by omega, h2, h3, ?_⟩
      · intro e; rw [e] at hlen; simp at hlen; omega
      · intro i hi
        rw [h4 i (by omega)]
        simp
end Go.Proofs.YtocaednkhcjkcaaGreatDoor

namespace Go.Proofs.YtocaednkhcjkcaaGreatDoor
open Go.ChangeShapes Go.WideShapes Go.RowKit
set_option linter.unusedVariables false

theorem Tryz.et : Tryz.prog.globalNamed "errors.errorType" = some 0 := by kernel_rfl
theorem Tryz.rt : (Tryz.prog.cutTypes.find? (·.1 == "internal/reflectlite.rtype")).map (·.2) = some 185 := by kernel_rfl
theorem Tryz.oneRow : ((List.range 301).filter fun t => Tryz.prog.rowNamed t [101, 114, 114, 111, 114]) = [74] := by kernel_rfl
theorem Tryz.nTypes : Tryz.prog.types.size = 301 := by kernel_rfl

theorem gh_of_handles {W : World} (h : handlesMet Tryz.prog [("errors.errorType", Rows.laid_errors_errorType)] W) : Gh W := by
  obtain ⟨name, u, ty, e1, e2, e3, e4, e5⟩ := h _ (List.mem_singleton.2 rfl)
  have en : name = [101, 114, 114, 111, 114] := (Option.some.inj e1).symm
  subst en
  obtain rfl := Option.some.inj (Tryz.rt.symm.trans e2)
  have hm : ty ∈ (List.range 301).filter fun t => Tryz.prog.rowNamed t [101, 114, 114, 111, 114] := List.mem_filter.2 ⟨List.mem_range.2 (by rw [← Tryz.nTypes]; exact e3), e4⟩
  rw [Tryz.oneRow] at hm
  obtain rfl := List.mem_singleton.1 hm
  have hh : typeHandle Tryz.prog 74 = .pointer (some ⟨1, 74, none⟩) := by kernel_rfl
  rw [hh] at e5
  unfold Gh
  simpa using World.var?_cell Tryz.et e5 0
/-- The variable's cell laid anew. -/
def handPut : Obj → Obj
  | .cells _ t frozen => .cells #[.iface 185 (.agg #[.pointer (some ⟨1, 74, none⟩)])] t frozen
  | o => o
/-- A world that meets the condition: w0, the variable's cell laid. -/
def laidOn (w0 : World) : World := { w0 with heap := w0.heap.modify 0 handPut }
end Go.Proofs.YtocaednkhcjkcaaGreatDoor

namespace Go.Proofs.YtocaednkhcjkcaaGreatDoor
open Go.RowKit
set_option linter.unusedVariables false

theorem OwnX.old {base hi : Nat} {w : World} {v : Value} {l : List Ac} (h : OwnX base hi w v l) {b : Nat} (hb : b < base) (j : Nat) (u : Value) : OwnX base hi (w.setCell ⟨b, j, none⟩ u) v l :=
  h.btw (Btw.of_grown (lo := 0) (hi := base) (grown_set w b j u) (fun k hk => ⟨Nat.zero_le _, by cases hk; exact hb⟩)) (.inr (Nat.le_refl _))
theorem apA_is (e : Int) (l : List Ac) (t : Tx5) : (apA e l t).1 = l ∨ acsB (apA e l t).1 = true := by
  unfold apA
  split
  · exact .inl rfl
  · split
    · exact .inl rfl
    · split
      · exact .inl rfl
      · split
        · exact .inl rfl
        · split
          · exact .inl rfl
          · rename_i h
            exact .inr (lg_acs (by simpa using h))
end Go.Proofs.YtocaednkhcjkcaaGreatDoor

namespace Go.Proofs.YtocaednkhcjkcaaGreatDoor
end Go.Proofs.YtocaednkhcjkcaaGreatDoor

namespace Go.Proofs.YtocaednkhcjkcaaGreatDoor
open Go.RowKit
set_option linter.unusedVariables false

theorem amI_lvP (n t : Int) : ∀ l : List (Int × Int), (∀ p ∈ l, 0 ≤ p.1 ∧ p.1 ≤ 1000000) → (0 ≤ n ∧ n ≤ 1000000) → amI (lvP n t l) = amI l + n
  | [], _, _ => by simp [lvP, amI]
  | x :: r, h, hn => by
    have hx := h x List.mem_cons_self
    have ih := amI_lvP n t r (fun p hp => h p (List.mem_cons_of_mem _ hp)) hn
    rw [lvP]
    by_cases e1 : x.2 = t
    · rw [if_pos e1, show wrap64 (x.1 + n) = x.1 + n from by unfold wrap64; omega]
      simp only [amI, List.map_cons, List.sum_cons]
      omega
    · rw [if_neg e1]
      by_cases e2 : t < x.2
      · rw [if_pos e2]; simp only [amI, List.map_cons, List.sum_cons]; omega
      · rw [if_neg e2]; simp only [amI, List.map_cons, List.sum_cons] at ih ⊢; omega
/-- What an order that is good does to the one who gave it: a ahead of it, b behind it. -/
structure Gave (t : Tx5) (a b : Ac) : Prop where
  bf : 0 ≤ a.2.1 ∧ a.2.1 ≤ 1000000
  bn : 0 ≤ a.2.2.1 ∧ a.2.2.1 ≤ 10000
  bs : 0 ≤ a.2.2.2.1 ∧ a.2.2.2.1 ≤ 1000000
  bm : 1 ≤ t.2.2.2.1 ∧ t.2.2.2.1 ≤ 1000000
  nonce : b.2.2.1 = a.2.2.1 + 1
  bond : t.1 = 2 → b.2.2.2.1 = a.2.2.2.1 + t.2.2.2.1 ∧ b.2.1 = a.2.1 - t.2.2.2.1
  unbond : t.1 = 3 → b.2.2.2.1 = a.2.2.2.1 - t.2.2.2.1 ∧ b.2.1 = a.2.1
  pay : t.1 ≠ 2 → t.1 ≠ 3 → (t.2.2.1 ≠ t.2.1 → b.2.1 = a.2.1 - t.2.2.2.1) ∧ b.2.2.2.1 = a.2.2.2.1
theorem doA_facts {e : Int} {l : List Ac} {t : Tx5} {k : Nat} (hl : lgB e l = true) (ht : txB t = true) (hk : k < l.length) (hn : l[k].1 = t.2.1) (h3 : ¬ hasA t l[k] < t.2.2.2.1) :
    wealthA (doA e t l k) = wealthA l ∧ ∃ b, getA t.2.1 (doA e t l k) = some b ∧ Gave t l[k] b := by
  have hac : acsB l = true := by unfold lgB at hl; rw [Bool.and_eq_true] at hl; exact hl.2
  obtain ⟨-, hm, -, hkind⟩ := tx_parts ht
  have hall := acs_all hac
  have hasc := asc_of_ok l hac
  have hkk := hall l[k] (List.getElem_mem _)
  obtain ⟨p1, p2, p3, p4, p5, p6⟩ := ac_parts hkk
  have hasc' := ascA_set hasc k (gvA e t l[k]) hk (gvA_name _ _ _)
  have hgk : getA t.2.1 (l.set k (gvA e t l[k])) = some (gvA e t l[k]) := by
    have := getA_at hasc' k (by simpa using hk)
    simpa [gvA_name, hn] using this
  have w1 : wrap64 (l[k].2.2.1 + 1) = l[k].2.2.1 + 1 := by unfold wrap64; omega
  rcases hkind with h1 | h1 | h1
  · have hs : t.2.2.2.1 ≤ l[k].2.1 := by unfold hasA at h3; rw [if_neg (by omega)] at h3; omega
    have w2 : wrap64 (l[k].2.1 - t.2.2.2.1) = l[k].2.1 - t.2.2.2.1 := by unfold wrap64; omega
    have hg : gvA e t l[k] = (l[k].1, l[k].2.1 - t.2.2.2.1, l[k].2.2.1 + 1, l[k].2.2.2.1, l[k].2.2.2.2) := by
      unfold gvA; rw [if_pos h1, w1, w2]
    have hd : doA e t l k = insA (aftA (l.set k (gvA e t l[k])) t.2.2.1 t.2.2.2.1) (l.set k (gvA e t l[k])) := by unfold doA; rw [if_pos h1, getD_at l k hk]
    rw [hd]
    constructor
    · rw [wealth_given _ _ _ hasc', wealth_is, wealth_is, wsI_set l k _ hk, hg]
      unfold ofI
      show wrap64 (wrap64 (wsI l - (l[k].2.1 + l[k].2.2.2.1 + amI l[k].2.2.2.2) + (l[k].2.1 - t.2.2.2.1 + l[k].2.2.2.1 + amI l[k].2.2.2.2)) + t.2.2.2.1) = wrap64 (wsI l)
      unfold wrap64
      omega
    · by_cases hs2 : t.2.2.1 = t.2.1
      · refine ⟨aftA (l.set k (gvA e t l[k])) t.2.2.1 t.2.2.2.1, ?_, ⟨p2, p3, p4, hm, ?_, fun h => by omega, fun h => by omega, fun _ _ => ⟨fun h => absurd hs2 h, ?_⟩⟩⟩
        · have := getA_ins (aftA (l.set k (gvA e t l[k])) t.2.2.1 t.2.2.2.1) (l.set k (gvA e t l[k]))
          rw [aftA_name] at this
          exact (congrArg (fun s => getA s _) hs2.symm).trans this
        · unfold aftA; rw [hs2, hgk, hg]
        · unfold aftA; rw [hs2, hgk, hg]
      · refine ⟨gvA e t l[k], ?_, ⟨p2, p3, p4, hm, by rw [hg], fun h => by omega, fun h => by omega, fun _ _ => ⟨fun _ => by rw [hg], by rw [hg]⟩⟩⟩
        rw [getA_ins_other _ _ (by rw [aftA_name]; exact fun h => hs2 h.symm), hgk]
  · have hs : t.2.2.2.1 ≤ l[k].2.1 := by unfold hasA at h3; rw [if_neg (by omega)] at h3; omega
    have w2 : wrap64 (l[k].2.1 - t.2.2.2.1) = l[k].2.1 - t.2.2.2.1 := by unfold wrap64; omega
    have w3 : wrap64 (l[k].2.2.2.1 + t.2.2.2.1) = l[k].2.2.2.1 + t.2.2.2.1 := by unfold wrap64; omega
    have hg : gvA e t l[k] = (l[k].1, l[k].2.1 - t.2.2.2.1, l[k].2.2.1 + 1, l[k].2.2.2.1 + t.2.2.2.1, l[k].2.2.2.2) := by
      unfold gvA; rw [if_neg (by omega), if_pos h1, w1, w2, w3]
    have hd : doA e t l k = l.set k (gvA e t l[k]) := by unfold doA; rw [if_neg (by omega), getD_at l k hk]
    rw [hd]
    refine ⟨?_, gvA e t l[k], hgk, ⟨p2, p3, p4, hm, by rw [hg], fun _ => by rw [hg]; exact ⟨rfl, rfl⟩, fun h => by omega, fun h => absurd h1 h⟩⟩
    rw [wealth_is, wealth_is, wsI_set l k _ hk, hg]
    unfold ofI
    show wrap64 (wsI l - (l[k].2.1 + l[k].2.2.2.1 + amI l[k].2.2.2.2) + (l[k].2.1 - t.2.2.2.1 + (l[k].2.2.2.1 + t.2.2.2.1) + amI l[k].2.2.2.2)) = wrap64 (wsI l)
    congr 1
    omega
  · have hs : t.2.2.2.1 ≤ l[k].2.2.2.1 := by unfold hasA at h3; rw [if_pos h1] at h3; omega
    have w3 : wrap64 (l[k].2.2.2.1 - t.2.2.2.1) = l[k].2.2.2.1 - t.2.2.2.1 := by unfold wrap64; omega
    have hg : gvA e t l[k] = (l[k].1, l[k].2.1, l[k].2.2.1 + 1, l[k].2.2.2.1 - t.2.2.2.1, lvP t.2.2.2.1 (wrap64 (e + 2)) l[k].2.2.2.2) := by
      unfold gvA; rw [if_neg (by omega), if_neg (by omega), w1, w3]
    have hd : doA e t l k = l.set k (gvA e t l[k]) := by unfold doA; rw [if_neg (by omega), getD_at l k hk]
    rw [hd]
    refine ⟨?_, gvA e t l[k], hgk, ⟨p2, p3, p4, hm, by rw [hg], fun h => by omega, fun _ => by rw [hg]; exact ⟨rfl, rfl⟩, fun _ h => absurd h1 h⟩⟩
    rw [wealth_is, wealth_is, wsI_set l k _ hk, hg]
    unfold ofI
    show wrap64 (wsI l - (l[k].2.1 + l[k].2.2.2.1 + amI l[k].2.2.2.2) + (l[k].2.1 + (l[k].2.2.2.1 - t.2.2.2.1) + amI (lvP t.2.2.2.1 (wrap64 (e + 2)) l[k].2.2.2.2))) = wrap64 (wsI l)
    rw [amI_lvP _ _ _ (fun p hp => by have := lvs_mem p6 p hp; omega) (by omega)]
    congr 1
    omega
/-- What Apply answers, told: refused, and all is as it was; or good. -/
theorem apA_told (e : Int) (l : List Ac) (t : Tx5) : ((apA e l t).2 ≠ 0 ∧ (apA e l t).1 = l) ∨ ((apA e l t).2 = 0 ∧ lgB e (apA e l t).1 = true ∧ lgB e l = true ∧ wealthA (apA e l t).1 = wealthA l ∧ ∃ (k : Nat) (hk : k < l.length) (j : Nat) (hj : j < (apA e l t).1.length), atA l t.2.1 = (k : Int) ∧ atA (apA e l t).1 t.2.1 = (j : Int) ∧ Gave t l[k] (apA e l t).1[j]) := by
  cases h0 : (lgB e l && txB t)
  · rw [apA_form h0]; exact .inl ⟨by simp, rfl⟩
  · have h0' := h0
    rw [Bool.and_eq_true] at h0
    rcases at_cases l t.2.1 with h1 | ⟨k, hk, h1, hn, -⟩
    · rw [apA_none h0' (by omega)]; exact .inl ⟨by simp, rfl⟩
    · have hgd := getD_at l k hk
      by_cases h2 : (l.getD k ac0).2.2.1 = t.2.2.2.2
      · by_cases h3 : hasA t (l.getD k ac0) < t.2.2.2.1
        · rw [apA_short h0' h1 h2 h3]; exact .inl ⟨by simp, rfl⟩
        · cases h4 : lgB e (doA e t l k)
          · rw [apA_full h0' h1 h2 h3 h4]; exact .inl ⟨by simp, rfl⟩
          · rw [apA_good h0' h1 h2 h3 h4]
            rw [hgd] at h3
            obtain ⟨hw, b, hb, hG⟩ := doA_facts h0.1 h0.2 hk hn h3
            obtain ⟨j, hj, e1, e2, -⟩ := at_get hb
            exact .inr ⟨rfl, h4, h0.1, hw, k, hk, j, hj, h1, e1, by rw [e2]; exact hG⟩
      · rw [apA_nonce h0' h1 h2]; exact .inl ⟨by simp, rfl⟩
theorem apA_wealth (e : Int) (l : List Ac) (t : Tx5) : wealthA (apA e l t).1 = wealthA l := by
  rcases apA_told e l t with ⟨-, h⟩ | ⟨-, -, -, h, -⟩
  · rw [h]
  · exact h
end Go.Proofs.YtocaednkhcjkcaaGreatDoor

namespace Go.Proofs.YtocaednkhcjkcaaGreatDoor
open Go.ChangeShapes Go.WideShapes Go.ChangeAt Go.RowKit
open Go.ChangeMaps (open_string shut_string)
set_option linter.unusedVariables false

theorem fnApplied_own : ownKnob Tryz.prog.godebug = none := by kernel_rfl
theorem fnApplied_laidOut : laidOutB Tryz.prog = true := by kernel_rfl

theorem nmB_le {s : ByteArray} (h : nmB s = true) : s.size ≤ 8 := by
  unfold nmB inB at h
  simp only [Bool.and_eq_true, decide_eq_true_eq] at h
  omega
set_option maxRecDepth 20000 in
set_option maxHeartbeats 4000000 in
theorem fnApplied_walk (a0 : Option Addr) (len0 cap0 : Nat) (z0 : List Int) (w : World) (hgh : Gh w) (w0 : IsRow .u8 w a0 len0 cap0 z0) :
    Calls Tryz.prog 3 #[.slice a0 len0 cap0] w fun e w' => e = .returned (.bool true) ∧ Below w.heap.size w w' := by
  obtain ⟨cd, rfl, hr⟩ := w0.rd
  clear w0
  have hcap : cd.length ≤ 9223372036854775807 := by
    rcases hr with ⟨_, _, _, e, _⟩ | ⟨_, _, cap, _, _, h1, h2, _⟩
    · subst e; simp
    · unfold maxLen at h2; omega
  have Hbig := hide (big_any _ cd w hr hcap)
  by_cases hbig : 1048576 < cd.length
  · rw [decide_eq_true hbig] at Hbig
    clear hr hgh
    go_enter Tryz.func3, Tryz.ntmps3
    go_wp2_with fail
    refine Hbig.out.mono ?_
    rintro e w ⟨rfl, rfl⟩
    go_wp2
    go_ret
    exact ⟨rfl, Below.refl _ _⟩
  rw [decide_eq_false hbig] at Hbig
  have Hd := hide (drawApply_any w _ cd hr (by omega))
  have Hgh := hide hgh
  clear hr hgh
  go_enter Tryz.func3, Tryz.ntmps3
  go_wp2_with fail
  refine Hbig.out.mono ?_
  rintro e w ⟨rfl, rfl⟩
  go_wp2_with fail
  refine Hd.out.mono ?_
  rintro en w2 ⟨e, v, l, ⟨kd, fm, tn, am, nc⟩, rfl, hrl, hl6, hsm, hf9, ht9, hB2⟩
  obtain ⟨av, cv, rfl⟩ := hrl.shape
  simp only [lgV, txV]
  simp only at hf9 ht9
  clear Hbig Hd hbig hcap
  have hall : ∀ a ∈ l, a.1.size ≤ maxLen ∧ a.2.2.2.2.length ≤ 3999999 := fun a ha => by have := hsm a ha; unfold maxLen; omega
  have hfm : fm.size ≤ maxLen := by unfold maxLen; omega
  have htn : tn.size ≤ maxLen := by unfold maxLen; omega
  obtain ⟨w3, hw3⟩ : ∃ x, (w2.alloc (.cells #[.int .i64 e, .slice av l.length cv] 26)).alloc (.cells #[.int .i64 kd, .string fm, .string tn, .int .i64 am, .int .i64 nc] 28) = x := ⟨_, rfl⟩
  have hb3 : Below w2.heap.size w2 w3 := by rw [← hw3]; exact ((Below.refl _ w2).alloc (Nat.le_refl _) _).alloc (by simp) _
  have hs3 : w3.heap.size = w2.heap.size + 2 := by rw [← hw3]; simp
  have kL3 : Blk w3 w2.heap.size 26 [.int .i64 e, .slice av l.length cv] := by rw [← hw3]; exact (Blk.new w2 _ _).allocD _
  have kT3 : Blk w3 (w2.heap.size + 1) 28 [.int .i64 kd, .string fm, .string tn, .int .i64 am, .int .i64 nc] := by rw [← hw3]; exact Blk.new' _ _ [.int .i64 kd, .string fm, .string tn, .int .i64 am, .int .i64 nc] _ (by simp)
  have hB3 : Below w.heap.size w w3 := hB2.trans (hb3.mono hB2.size)
  have hr3 := hrl.below hb3 (Nat.le_refl _)
  have HI := hide (implApply_any e _ l (kd, fm, tn, am, nc) w3 (Hgh.out.below hB3) hr3 (by omega) hall hfm htn)
  have HS := hide (fun V (hV : Below w3.heap.size w3 V) => specApply_any e (.slice av l.length cv) l (kd, fm, tn, am, nc) V (hr3.below hV (Nat.le_refl _)) (by omega) hall hfm htn)
  have HT := hide (apA_told e l (kd, fm, tn, am, nc))
  have HWe := hide (apA_wealth e l (kd, fm, tn, am, nc))
  have HF := hide (apA_is e l (kd, fm, tn, am, nc))
  simp only [ApPost, lgV, txV] at HI HS
  generalize apA e l (kd, fm, tn, am, nc) = R at HI HS HT HWe HF
  obtain ⟨X, C⟩ := R
  simp only at HI HS HT HWe HF
  have hX12 : X.length ≤ 12 := by
    rcases HF.out with h | h
    · rw [h]; omega
    · exact acs_len' h
  have hXall : ∀ a ∈ X, a.1.size ≤ maxLen ∧ a.2.2.2.2.length ≤ 4000000 := by
    rcases HF.out with h | h
    · rw [h]; exact fun a ha => by have := hall a ha; omega
    · exact fun a ha => ⟨by have := nmB_le (ac_parts (acs_all h a ha)).1; unfold maxLen; omega, by have := acs_four h a ha; omega⟩
  have c0 := kL3.cell 0
  have c1 := kL3.cell 1
  have d0 := kT3.cell 0
  have d1 := kT3.cell 1
  have d2 := kT3.cell 2
  have d3 := kT3.cell 3
  have d4 := kT3.cell 4
  simp only [List.getElem?_cons_zero, List.getElem?_cons_succ] at c0 c1 d0 d1 d2 d3 d4
  have KL3 := hide kL3
  have KT3 := hide kT3
  have HB3 := hide hB3
  have Hr3 := hide hr3
  clear hrl hr3 hB2 hB3 hb3 kL3 kT3
  go_wp2_with fail
  refine HI.out.mono ?_
  rintro en w4 ⟨v4, rfl, ho4, hb4⟩
  obtain ⟨a4, q4, rfl⟩ := ho4.rd.shape
  obtain ⟨w5, hw5⟩ : ∃ x, w4.alloc (.cells #[.int .i64 e, .slice a4 X.length q4] 26) = x := ⟨_, rfl⟩
  have b5 : Below w4.heap.size w4 w5 := by rw [← hw5]; exact (Below.refl _ w4).alloc (Nat.le_refl _) _
  have kX5 : Blk w5 w4.heap.size 26 [.int .i64 e, .slice a4 X.length q4] := by rw [← hw5]; exact Blk.new w4 _ _
  have hb35 := hb4.trans (b5.mono hb4.size)
  have HX5 := hide (ho4.rd.below b5 (Nat.le_refl _))
  have kL5 := KL3.out.below hb35 KL3.out.lt
  have kT5 := KT3.out.below hb35 KT3.out.lt
  have HS5 := hide (HS.out w5 hb35)
  clear c0 c1 d0 d1 d2 d3 d4 hw3 HI HS ho4
  have c0 := kL5.cell 0
  have c1 := kL5.cell 1
  have d0 := kT5.cell 0
  have d1 := kT5.cell 1
  have d2 := kT5.cell 2
  have d3 := kT5.cell 3
  have d4 := kT5.cell 4
  simp only [List.getElem?_cons_zero, List.getElem?_cons_succ] at c0 c1 d0 d1 d2 d3 d4
  have KX5 := hide kX5
  have KL5 := hide kL5
  have KT5 := hide kT5
  have Hb35 := hide hb35
  clear kX5 kL5 kT5 b5 hb4 hb35
  go_wp2_with fail
  refine HS5.out.mono ?_
  rintro en w6 ⟨v6, rfl, ho6, hb6⟩
  obtain ⟨a6, q6, rfl⟩ := ho6.rd.shape
  obtain ⟨w7, hw7⟩ : ∃ x, w6.alloc (.cells #[.int .i64 e, .slice a6 X.length q6] 26) = x := ⟨_, rfl⟩
  have b7 : Below w6.heap.size w6 w7 := by rw [← hw7]; exact (Below.refl _ w6).alloc (Nat.le_refl _) _
  have hb57 := hb6.trans (b7.mono hb6.size)
  have kX7 := KX5.out.below hb57 KX5.out.lt
  have kL7 := KL5.out.below hb57 KL5.out.lt
  have kT7 := KT5.out.below hb57 KT5.out.lt
  have hX7 := HX5.out.below hb57 (Nat.le_refl _)
  have hb37 := Hb35.out.trans (hb57.mono Hb35.out.size)
  have hL7 := Hr3.out.below hb37 (Nat.le_refl _)
  have hB7 := HB3.out.trans (hb37.mono HB3.out.size)
  clear c0 c1 d0 d1 d2 d3 d4 hw5 HS5 ho6
  have hall4 : ∀ a ∈ l, a.2.2.2.2.length ≤ 4000000 := fun a ha => by have := hall a ha; omega
  have HW1 := hide (fun (d : Nat) (os : Array Obj) => Calls.regrown_of (implWealth_any (.slice a4 X.length q4) X (Sort.grow (redrawn w7 d) os) (hX7.below (below_regrown w7 d os) (Nat.le_refl _)) (by omega) (fun a ha => (hXall a ha).2)))
  have HW2 := hide (fun (d : Nat) (os : Array Obj) => Calls.regrown_of (implWealth_any (.slice av l.length cv) l (Sort.grow (redrawn w7 d) os) (hL7.below (below_regrown w7 d os) (Nat.le_refl _)) (by omega) hall4))
  rw [HWe.out] at HW1
  generalize wealthA l = We at HW1 HW2 HWe
  have x1 := cell_regrown (show w7.cell? ⟨w4.heap.size, 1, none⟩ = some (.slice a4 X.length q4) from kX7.cell 1)
  have y1 := cell_regrown (show w7.cell? ⟨w2.heap.size, 1, none⟩ = some (.slice av l.length cv) from kL7.cell 1)
  have KX7 := hide kX7
  have KL7 := hide kL7
  have KT7 := hide kT7
  have HX7 := hide hX7
  have HL7 := hide hL7
  have HB7 := hide hB7
  clear kX7 kL7 kT7 hX7 hL7 hB7 b7 hb6 hb57 hb37 Hb35 HB3 Hr3
  go_wp2
  refine wp_region_quiet_below (by kernel_rfl) (by kernel_rfl) ?_
  repeat (go_big_quiet_step ((go_at_call 11; first | with_reducible exact HW1.out _ _ | with_reducible exact HW2.out _ _)))
  refine wpQuiet_nil ?_
  intro _ hw'
  obtain ⟨⟨dq, osq⟩, hw''⟩ := hw'
  subst hw''
  have b8 := below_regrown w7 dq osq
  generalize Sort.grow (redrawn w7 dq) osq = w8 at b8 ⊢
  have kX8 := KX7.out.below b8 KX7.out.lt
  have kL8 := KL7.out.below b8 KL7.out.lt
  have kT8 := KT7.out.below b8 KT7.out.lt
  have hX8 := HX7.out.below b8 (Nat.le_refl _)
  have hL8 := HL7.out.below b8 (Nat.le_refl _)
  have hB8 := HB7.out.trans (b8.mono HB7.out.size)
  clear x1 y1 hw7 HW1 HW2 HWe KX7 KL7 KT7 HX7 HL7 HB7 b8 KX5 KL5 KT5 KL3 KT3 HX5
  rcases HT.out with ⟨hC, hXl⟩ | ⟨hC, hlg, hlg0, -, k, hk, j, hj, ek, ej, hG⟩
  · subst hXl
    have hCb : (C == 0) = false := by rw [beq_eq_false_iff_ne]; exact hC
    have x0 := kX8.cell 0
    have x1 := kX8.cell 1
    have y0 := kL8.cell 0
    have y1 := kL8.cell 1
    simp only [List.getElem?_cons_zero, List.getElem?_cons_succ] at x0 x1 y0 y1
    have HB8 := hide hB8
    clear kX8 kL8 kT8 hX8 hL8 hB8 HT HF hC
    go_wp2
    go_ret
    exact ⟨rfl, HB8.out⟩
  · subst hC
    obtain ⟨b1, o1, lv1, rfl, p1, p2, p3, hA1, hM1⟩ := hL8.atP hk
    obtain ⟨b2, o2, lv2, rfl, p4, p5, p6, hA2, hM2⟩ := hX8.atP hj
    generalize l[k] = A at hA1 hM1 hG
    generalize X[j] = B at hA2 hM2 hG
    obtain ⟨An, Af, Ao, As, Al⟩ := A
    obtain ⟨Bn, Bf, Bo, Bs, Bl⟩ := B
    obtain ⟨bf, bn, bs, bm, hno, hbond, hunb, hpay⟩ := hG
    simp only at bf bn bs bm hno hbond hunb hpay ek ej
    subst hno
    obtain ⟨g0, g1, g2, g3, g4⟩ := hA1
    obtain ⟨f0, f1, f2, f3, f4⟩ := hA2
    obtain ⟨ax, cx, rfl⟩ := hM1.shape
    obtain ⟨bx, dx, rfl⟩ := hM2.shape
    simp only at g0 g1 g2 g3 g4 f0 f1 f2 f3 f4
    have hki : (k : Int) < (l.length : Int) := by omega
    have hji : (j : Int) < (X.length : Int) := by omega
    have HAt1 := hide (fun V (hV : Below w8.heap.size w8 V) => implAcctAt_any (.slice (some ⟨b1, o1, none⟩) l.length cv) l fm V (hL8.below hV (Nat.le_refl _)) (by omega))
    rw [ek] at HAt1
    have HAt2 := hide (fun V (hV : RdA V (.slice (some ⟨b2, o2, none⟩) X.length q4) X) => implAcctAt_any (.slice (some ⟨b2, o2, none⟩) X.length q4) X fm V hV (by omega))
    rw [ej] at HAt2
    have HOk := hide (fun V (hV : RdA V (.slice (some ⟨b2, o2, none⟩) X.length q4) X) => implLedgerOk_any e (.slice (some ⟨b2, o2, none⟩) X.length q4) X V hV (by omega) hXall)
    rw [hlg] at HOk
    simp only [lgV] at HOk
    have hw1 : IntKind.i64.wrap (Ao + 1) = Ao + 1 := by rw [IntKind.wrap_i64]; omega
    have hw2 : IntKind.i64.wrap (As + am) = As + am := by rw [IntKind.wrap_i64]; omega
    have hw3 : IntKind.i64.wrap (Af - am) = Af - am := by rw [IntKind.wrap_i64]; omega
    have hw4 : IntKind.i64.wrap (As - am) = As - am := by rw [IntKind.wrap_i64]; omega
    clear HT HF hXall hall hall4 hM1 hM2 ek ej hlg hlg0 hsm
    have HS1 : Hid (∀ V, Below w8.heap.size w8 V → (V.cell? ⟨w2.heap.size, 1, none⟩ = some (.slice (some ⟨b1, o1, none⟩) l.length cv) ∧ V.cell? ⟨w2.heap.size + 1, 1, none⟩ = some (.string fm) ∧ V.cell? ⟨b1, o1 + k * 5, none⟩ = some (.string An) ∧ V.cell? ⟨b1, o1 + k * 5 + 1, none⟩ = some (.int .i64 Af) ∧ V.cell? ⟨b1, o1 + k * 5 + 2, none⟩ = some (.int .i64 Ao) ∧ V.cell? ⟨b1, o1 + k * 5 + 3, none⟩ = some (.int .i64 As) ∧ V.cell? ⟨b1, o1 + k * 5 + 4, none⟩ = some (.slice ax Al.length cx))) := hide (fun V hv => ⟨(kL8.below hv kL8.lt).cell 1, (kT8.below hv kT8.lt).cell 1, (hv.cell (p := ⟨b1, o1 + k * 5, none⟩) p3).trans g0, (hv.cell (p := ⟨b1, o1 + k * 5 + 1, none⟩) p3).trans g1, (hv.cell (p := ⟨b1, o1 + k * 5 + 2, none⟩) p3).trans g2, (hv.cell (p := ⟨b1, o1 + k * 5 + 3, none⟩) p3).trans g3, (hv.cell (p := ⟨b1, o1 + k * 5 + 4, none⟩) p3).trans g4⟩)
    have bD1 : Below w8.heap.size w8 w8.drew := (Below.refl _ w8).drew
    have bE1 : Below w8.heap.size w8 (w8.alloc (.cells #[.string { data := #[] }, .int .i64 0, .int .i64 0, .int .i64 0, .slice none 0 0] 36)).drew := ((Below.refl _ w8).alloc (Nat.le_refl _) _).drew
    have nE1 : Blk (w8.alloc (.cells #[.string { data := #[] }, .int .i64 0, .int .i64 0, .int .i64 0, .slice none 0 0] 36)).drew w8.heap.size 36 [.string { data := #[] }, .int .i64 0, .int .i64 0, .int .i64 0, .slice none 0 0] := Blk.new w8 _ _
    go_upto_region 10 with fail
    go_cut [9] (fun sp wc => ∃ Ba : Nat, sp = .pointer (some ⟨Ba, 0, none⟩) ∧ Blk wc Ba 36 [.string An, .int .i64 Af, .int .i64 Ao, .int .i64 As, .slice ax Al.length cx] ∧ Below w8.heap.size w8 wc)
    case first =>
      go_region_held_law (fun w' => w'.cell? ⟨w2.heap.size, 1, none⟩ = some (.slice (some ⟨b1, o1, none⟩) l.length cv) ∧ w'.cell? ⟨w2.heap.size + 1, 1, none⟩ = some (.string fm) ∧ w'.cell? ⟨b1, o1 + k * 5, none⟩ = some (.string An) ∧ w'.cell? ⟨b1, o1 + k * 5 + 1, none⟩ = some (.int .i64 Af) ∧ w'.cell? ⟨b1, o1 + k * 5 + 2, none⟩ = some (.int .i64 Ao) ∧ w'.cell? ⟨b1, o1 + k * 5 + 3, none⟩ = some (.int .i64 As) ∧ w'.cell? ⟨b1, o1 + k * 5 + 4, none⟩ = some (.slice ax Al.length cx)) ((refine HS1.out _ ?_; repeat (first | with_reducible exact bD1 | with_reducible exact bE1 | with_reducible exact cc1 | with_reducible exact Below.refl _ _ | refine Below.drew ?_ | refine Below.alloc ?_ (by first | omega | (simp; done) | (simp; omega)) _ | refine Below.setCell ?_ (by first | omega | (simp; done)) _))) ((first
        | (go_at_call 12; (with_reducible refine (HAt1.out w8.drew bD1).mono ?_); rintro en u1 ⟨rfl, hu1⟩; have cc1 := bD1.trans (hu1.mono bD1.size); have zz1 := cc1.size)
        | (go_at_call 12; (with_reducible refine (HAt1.out (w8.alloc (.cells #[.string { data := #[] }, .int .i64 0, .int .i64 0, .int .i64 0, .slice none 0 0] 36)).drew bE1).mono ?_); rintro en u1 ⟨rfl, hu1⟩; have cc1 := bE1.trans (hu1.mono bE1.size); have zz1 := cc1.size; have nb1 := nE1.below hu1 nE1.lt; have n0 := nb1.cell 0; have n1 := nb1.cell 1; have n2 := nb1.cell 2; have n3 := nb1.cell 3; have n4 := nb1.cell 4; have m0 := nb1.frozen 0; have m1 := nb1.frozen 1; have m2 := nb1.frozen 2; have m3 := nb1.frozen 3; have m4 := nb1.frozen 4; simp only [List.getElem?_cons_zero, List.getElem?_cons_succ] at n0 n1 n2 n3 n4)))
      all_goals
        go_wp2_with fail
        go_meet
        case rel =>
          first
            | exact ⟨w8.heap.size, rfl, ((((nb1.setD 0 _ (by simp)).setD 1 _ (by simp)).setD 2 _ (by simp)).setD 3 _ (by simp)).setD 4 _ (by simp), cc1.trans (below_put5 u1 w8.heap.size _ _ _ _ _)⟩
            | exact ⟨u1.heap.size, rfl, Blk.new u1 _ _, cc1.alloc zz1 _⟩
    obtain ⟨w9, rfl⟩ : ∃ x, x = wc := ⟨_, rfl⟩
    obtain ⟨Ba1, rfl, kA1, bW1⟩ := hcut
    have kX9 := kX8.below bW1 kX8.lt
    have kT9 := kT8.below bW1 kT8.lt
    have hX9 := hX8.below bW1 (Nat.le_refl _)
    have hB9 := hB8.trans (bW1.mono hB8.size)
    have f90 := (bW1.cell (p := ⟨b2, o2 + j * 5, none⟩) p6).trans f0
    have f91 := (bW1.cell (p := ⟨b2, o2 + j * 5 + 1, none⟩) p6).trans f1
    have f92 := (bW1.cell (p := ⟨b2, o2 + j * 5 + 2, none⟩) p6).trans f2
    have f93 := (bW1.cell (p := ⟨b2, o2 + j * 5 + 3, none⟩) p6).trans f3
    have f94 := (bW1.cell (p := ⟨b2, o2 + j * 5 + 4, none⟩) p6).trans f4
    have p9 : b2 < w9.heap.size := Nat.lt_of_lt_of_le p6 bW1.size
    have HAt3 := hide (fun V (hV : Below w9.heap.size w9 V) => HAt2.out V (hX9.below hV (Nat.le_refl _)))
    have hAlt := kA1.lt
    clear kX8 kL8 kT8 hX8 hL8 hB8 bW1 f0 f1 f2 f3 f4 g0 g1 g2 g3 g4 HS1 bD1 bE1 nE1 HAt1 HAt2 p6
    have HS2 : Hid (∀ V, Below w9.heap.size w9 V → (V.cell? ⟨w4.heap.size, 1, none⟩ = some (.slice (some ⟨b2, o2, none⟩) X.length q4) ∧ V.cell? ⟨w2.heap.size + 1, 1, none⟩ = some (.string fm) ∧ V.cell? ⟨b2, o2 + j * 5, none⟩ = some (.string Bn) ∧ V.cell? ⟨b2, o2 + j * 5 + 1, none⟩ = some (.int .i64 Bf) ∧ V.cell? ⟨b2, o2 + j * 5 + 2, none⟩ = some (.int .i64 (Ao + 1)) ∧ V.cell? ⟨b2, o2 + j * 5 + 3, none⟩ = some (.int .i64 Bs) ∧ V.cell? ⟨b2, o2 + j * 5 + 4, none⟩ = some (.slice bx Bl.length dx))) := hide (fun V hv => ⟨(kX9.below hv kX9.lt).cell 1, (kT9.below hv kT9.lt).cell 1, (hv.cell (p := ⟨b2, o2 + j * 5, none⟩) p9).trans f90, (hv.cell (p := ⟨b2, o2 + j * 5 + 1, none⟩) p9).trans f91, (hv.cell (p := ⟨b2, o2 + j * 5 + 2, none⟩) p9).trans f92, (hv.cell (p := ⟨b2, o2 + j * 5 + 3, none⟩) p9).trans f93, (hv.cell (p := ⟨b2, o2 + j * 5 + 4, none⟩) p9).trans f94⟩)
    have bD2 : Below w9.heap.size w9 w9.drew := (Below.refl _ w9).drew
    have bE2 : Below w9.heap.size w9 (w9.alloc (.cells #[.string { data := #[] }, .int .i64 0, .int .i64 0, .int .i64 0, .slice none 0 0] 36)).drew := ((Below.refl _ w9).alloc (Nat.le_refl _) _).drew
    have nE2 : Blk (w9.alloc (.cells #[.string { data := #[] }, .int .i64 0, .int .i64 0, .int .i64 0, .slice none 0 0] 36)).drew w9.heap.size 36 [.string { data := #[] }, .int .i64 0, .int .i64 0, .int .i64 0, .slice none 0 0] := Blk.new w9 _ _
    go_upto_region 11 with fail
    go_cut [10] (fun sp wc => ∃ Ba : Nat, sp = .pointer (some ⟨Ba, 0, none⟩) ∧ Blk wc Ba 36 [.string Bn, .int .i64 Bf, .int .i64 (Ao + 1), .int .i64 Bs, .slice bx Bl.length dx] ∧ Below w9.heap.size w9 wc)
    case first =>
      go_region_held_law (fun w' => w'.cell? ⟨w4.heap.size, 1, none⟩ = some (.slice (some ⟨b2, o2, none⟩) X.length q4) ∧ w'.cell? ⟨w2.heap.size + 1, 1, none⟩ = some (.string fm) ∧ w'.cell? ⟨b2, o2 + j * 5, none⟩ = some (.string Bn) ∧ w'.cell? ⟨b2, o2 + j * 5 + 1, none⟩ = some (.int .i64 Bf) ∧ w'.cell? ⟨b2, o2 + j * 5 + 2, none⟩ = some (.int .i64 (Ao + 1)) ∧ w'.cell? ⟨b2, o2 + j * 5 + 3, none⟩ = some (.int .i64 Bs) ∧ w'.cell? ⟨b2, o2 + j * 5 + 4, none⟩ = some (.slice bx Bl.length dx)) ((refine HS2.out _ ?_; repeat (first | with_reducible exact bD2 | with_reducible exact bE2 | with_reducible exact cc2 | with_reducible exact Below.refl _ _ | refine Below.drew ?_ | refine Below.alloc ?_ (by first | omega | (simp; done) | (simp; omega)) _ | refine Below.setCell ?_ (by first | omega | (simp; done)) _))) ((first
        | (go_at_call 12; (with_reducible refine (HAt3.out w9.drew bD2).mono ?_); rintro en u2 ⟨rfl, hu2⟩; have cc2 := bD2.trans (hu2.mono bD2.size); have zz2 := cc2.size)
        | (go_at_call 12; (with_reducible refine (HAt3.out (w9.alloc (.cells #[.string { data := #[] }, .int .i64 0, .int .i64 0, .int .i64 0, .slice none 0 0] 36)).drew bE2).mono ?_); rintro en u2 ⟨rfl, hu2⟩; have cc2 := bE2.trans (hu2.mono bE2.size); have zz2 := cc2.size; have nb2 := nE2.below hu2 nE2.lt; have n0 := nb2.cell 0; have n1 := nb2.cell 1; have n2 := nb2.cell 2; have n3 := nb2.cell 3; have n4 := nb2.cell 4; have m0 := nb2.frozen 0; have m1 := nb2.frozen 1; have m2 := nb2.frozen 2; have m3 := nb2.frozen 3; have m4 := nb2.frozen 4; simp only [List.getElem?_cons_zero, List.getElem?_cons_succ] at n0 n1 n2 n3 n4)))
      all_goals
        go_wp2_with fail
        go_meet
        case rel =>
          first
            | exact ⟨w9.heap.size, rfl, ((((nb2.setD 0 _ (by simp)).setD 1 _ (by simp)).setD 2 _ (by simp)).setD 3 _ (by simp)).setD 4 _ (by simp), cc2.trans (below_put5 u2 w9.heap.size _ _ _ _ _)⟩
            | exact ⟨u2.heap.size, rfl, Blk.new u2 _ _, cc2.alloc zz2 _⟩
    obtain ⟨w10, rfl⟩ : ∃ x, x = wc := ⟨_, rfl⟩
    obtain ⟨Ba2, rfl, kA2, bW2⟩ := hcut
    have kX10 := kX9.below bW2 kX9.lt
    have kT10 := kT9.below bW2 kT9.lt
    have kA10 := kA1.below bW2 hAlt
    have hX10 := hX9.below bW2 (Nat.le_refl _)
    have HB10 := hide (hB9.trans (bW2.mono hB9.size))
    have HO10 := hide (HOk.out w10 hX10)
    have d0 := kT10.cell 0
    have d1 := kT10.cell 1
    have d2 := kT10.cell 2
    have d3 := kT10.cell 3
    have s1 := kA10.cell 1
    have s2 := kA10.cell 2
    have s3 := kA10.cell 3
    have r1 := kA2.cell 1
    have r2 := kA2.cell 2
    have r3 := kA2.cell 3
    have x0 := kX10.cell 0
    have x1 := kX10.cell 1
    simp only [List.getElem?_cons_zero, List.getElem?_cons_succ] at d0 d1 d2 d3 s1 s2 s3 r1 r2 r3 x0 x1
    clear kX9 kT9 hX9 hB9 bW2 kX10 kT10 kA10 kA1 kA2 hX10 f90 f91 f92 f93 f94 HS2 bD2 bE2 nE2 HAt3 HOk p9
    by_cases h2 : kd = 2
    · obtain ⟨rfl, rfl⟩ := hbond h2
      subst h2
      clear hbond hunb hpay
      go_wp2_with fail
      refine HO10.out.mono ?_
      rintro en w11 ⟨rfl, hb11⟩
      have HB11 := hide (HB10.out.trans (hb11.mono HB10.out.size))
      clear d0 d1 d2 d3 s1 s2 s3 r1 r2 r3 x0 x1 hb11
      go_wp2
      go_ret
      exact ⟨rfl, HB11.out⟩
    · have h2b : (kd == 2) = false := by rw [beq_eq_false_iff_ne]; exact h2
      by_cases h3 : kd = 3
      · obtain ⟨rfl, rfl⟩ := hunb h3
        subst h3
        clear hbond hunb hpay h2
        go_wp2_with fail
        refine HO10.out.mono ?_
        rintro en w11 ⟨rfl, hb11⟩
        have HB11 := hide (HB10.out.trans (hb11.mono HB10.out.size))
        clear d0 d1 d2 d3 s1 s2 s3 r1 r2 r3 x0 x1 hb11
        go_wp2
        go_ret
        exact ⟨rfl, HB11.out⟩
      · have h3b : (kd == 3) = false := by rw [beq_eq_false_iff_ne]; exact h3
        obtain ⟨hp1, rfl⟩ := hpay h2 h3
        clear hbond hunb hpay h2 h3
        by_cases h4 : tn = fm
        · subst h4
          clear hp1
          go_wp2_with fail
          refine HO10.out.mono ?_
          rintro en w11 ⟨rfl, hb11⟩
          have HB11 := hide (HB10.out.trans (hb11.mono HB10.out.size))
          clear d0 d1 d2 d3 s1 s2 s3 r1 r2 r3 x0 x1 hb11
          go_wp2
          go_ret
          exact ⟨rfl, HB11.out⟩
        · have e1 := hp1 h4
          subst e1
          have h4b := bytes_ne h4
          clear hp1 h4
          go_wp2_with fail
          refine HO10.out.mono ?_
          rintro en w11 ⟨rfl, hb11⟩
          have HB11 := hide (HB10.out.trans (hb11.mono HB10.out.size))
          clear d0 d1 d2 d3 s1 s2 s3 r1 r2 r3 x0 x1 hb11
          go_wp2
          go_ret
          exact ⟨rfl, HB11.out⟩

theorem fnApplied_met (os : Os) (args : Array Value) : laidMetH Tryz.prog Rows.fnAppliedRow.laid ((laidOn (World.holding Tryz.prog os ⟨#[], #[], []⟩)).forCall (fun _ _ => 0) ⟨#[], args, []⟩).memory :=
  laidMetH_of_parts (laidMet_nil _ _) (by kernel_rfl)
theorem fnApplied_gh {W : World} (h : laidMetH Tryz.prog Rows.fnAppliedRow.laid W) : Gh W := by
  have h' : laidMet Tryz.prog [] W ∧ handlesMet Tryz.prog Rows.fnAppliedRow.laid W := h
  exact gh_of_handles h'.2

set_option maxRecDepth 100000 in
theorem fnApplied_lifted (os : Os) (started : os.Started) (H : Type) (enc : TypeId × Value → H) :
    ReturnsInHanded {} Tryz.checked os 3 .any (fun w args => (Rows.fnAppliedSpec.pre enc Tryz.prog Tryz.f3 [] false w args ∧ laidMetH Tryz.prog Rows.fnAppliedRow.laid w) ∧ sizedMet enc Tryz.prog Tryz.f3 (OpenSpec.ofChange Rows.fnAppliedSpec) false w args)
      (Rows.fnAppliedSpec.post enc Tryz.prog Tryz.f3 false true false false) := by
  refine returnsInHanded_of_change_and (C := Tryz.checked) (X := fun w _ => laidMetH Tryz.prog Rows.fnAppliedRow.laid w) (fun _ _ _ hh h => h.of_heap hh) fnApplied_own started (by kernel_rfl) Tryz.func3
    (ChangeSpec.witness_at (enc := enc) (C := Tryz.checked) (os := os) (X := fun w _ => laidMetH Tryz.prog Rows.fnAppliedRow.laid w) false (laidOn (World.holding Tryz.prog os ⟨#[], #[], []⟩)) #[.slice none 0 0] 8 rfl (by kernel_rfl) (by kernel_rfl) (by kernel_rfl) (by kernel_rfl) (by kernel_rfl) (fnApplied_met os _)) ?_
  intro W base args ds gs before hval0 hW _ _ hL _
  have hval : ∀ (j : Nat) t v, Tryz.f3.params[j]? = some t → args[j]? = some v → Value.okWide Tryz.prog W .any base t v := hval0
  have hW' := hW
  obtain ⟨p, q, hA0, hV0, rfl, hfz, hnd⟩ := hW
  have hV : DataW.TrodVars enc Tryz.prog W (fun _ => true) [] gs q := hV0
  obtain ⟨rfl, rfl⟩ : gs = [] ∧ q = [] := by
    cases gs with
    | nil => exact ⟨rfl, hV⟩
    | cons g r => exact absurd hV (by intro h; cases h)
  have hA : DataW.TrodAll enc Tryz.prog W 0 (fun _ => true) true Tryz.f3.params.toList args.toList ds p := hA0
  rw [Tryz.params3] at hA hval
  obtain ⟨v0, vs0, d0, ds0, p0, q0, hargs, rfl, rfl, h0, r0⟩ := trodAll_cons hA
  obtain ⟨rfl, rfl, rfl⟩ := trodAll_nil r0
  obtain rfl : args = #[v0] := by cases args; simp_all
  obtain ⟨a0, len0, cap0, rfl⟩ := okWide_slice Tryz.underlying22 (hval 0 22 v0 rfl rfl)
  have k0 := h0
  have lt0 : ∀ x ∈ p0, x.block < W.heap.size := by obtain ⟨m, hm⟩ := k0; exact DataW.trod_lt m _ _ _ hm
  obtain ⟨z0, w0⟩ : ∃ zs, IsRow .u8 W a0 len0 cap0 zs := by
    obtain ⟨fuel, hf⟩ := h0
    rcases open_ints Tryz.underlying22 Tryz.underlying5 (by kernel_rfl) hf with ⟨hcs, _⟩ | ⟨x, l, c, zs, hcs, _, hl, hm, hz, _, hcell, hwz⟩
    · simp [Value.cells] at hcs
      obtain ⟨rfl, rfl, rfl⟩ := hcs
      exact ⟨[], .inl ⟨rfl, rfl, rfl, rfl⟩⟩
    · simp [Value.cells] at hcs
      obtain ⟨rfl, rfl, rfl⟩ := hcs
      exact ⟨zs, .inr ⟨_, rfl, hl, hm, by simpa using hz, hcell, hwz⟩⟩
  clear hA0 hval0
  refine (fnApplied_walk a0 len0 cap0 z0 W (fnApplied_gh hL) w0).mono fun e W' ⟨he, bel⟩ => ?_
  subst he
  exact ⟨_, rfl, _, _, _, [], _, [], hW', trodAll_mk1 (shut_bool Tryz.underlying4 _), (trodAll_cons_mk (Below.trod fnApplied_laidOut (by kernel_rfl) (of_decide_eq_true (by kernel_rfl)) k0 bel lt0) trodAll_mk0), rfl, bel.frame _, fun h => by cases h⟩

theorem fnApplied_holds : Rows.FnAppliedSaid :=
  OpenClaim.holds_of_wide 3 Tryz.f3 rfl rfl rfl rfl rfl rfl rfl ⟨rfl, rfl, rfl, rfl, rfl⟩ rfl rfl rfl rfl rfl (by kernel_rfl) Tryz.func3 (by kernel_rfl)
    (of_decide_eq_true (by kernel_rfl)) (by unfold Func.isWrapper; first | (rw [if_pos (by decide +kernel)]; kernel_rfl) | (rw [if_neg (by decide +kernel)]; exact ⟨rfl, rfl⟩))
    (fun os started H enc _ => fnApplied_lifted os started H enc)

/-- The card: the variable is tied to the program's text by the given tie. -/
theorem fnApplied_card : Rows.FnAppliedCardSaid :=
  Claim7.holds_tied_plain_at .later [] [.handle] true Rows.fnAppliedCard.stood.harness true
    fnApplied_holds (fun _ h => by cases h) (by kernel_rfl) (fun _ h => by cases h) fnApplied_row_tie rfl ⟨rfl, rfl⟩ (by kernel_rfl) rfl
    (fun f fn hf hfn => by
      obtain rfl : f = 3 := Option.some.inj ((show Tryz.prog.funcNamed Rows.fnAppliedRow.func = some 3 by kernel_rfl).symm.trans hf) |>.symm
      obtain rfl : fn = Tryz.f3 := (Option.some.inj (Tryz.func3.symm.trans hfn)).symm
      exact ⟨by kernel_rfl, fun j t ht => by
        rw [Tryz.params3] at ht
        have hm : t ∈ [22] := by simpa using Array.mem_of_getElem? ht
        have hall : ([22].all fun u => !Tryz.prog.wantsStandIn u) = true := by kernel_rfl
        exact (show Tryz.prog.wantsStandIn t = false by simpa using List.all_eq_true.1 hall t hm)⟩)
    (by kernel_rfl)

end Go.Proofs.YtocaednkhcjkcaaGreatDoor
