/- Chains in a tree, and what extends what, by the model. -/
import Derived.Test.YtlfoaobgdipdlaaZmTrSpec
import Derived.Test.YtlfoaobgdipdlaaZmTrChain
import Derived.Test.YtlfoaobgdipdlaaIntApp
namespace Go.Proofs.Ytlfoaobgdipdlaa
open Go.RowKit
set_option linter.unusedVariables false

theorem RdKs.parts9 {w : World} {a : Option Addr} {cap : Nat} {l : List Bk} (h : RdKs w (.slice a l.length cap) l) (hl : 0 < l.length) : ∃ b off, a = some ⟨b, off, none⟩ ∧ b < w.heap.size ∧ ∀ i (h : i < l.length), ∃ bv, BkAt w b (off + i * 14) l[i] bv ∧ RdK w l[i] bv := by
  rcases h with ⟨a', cap', e, rfl, hn⟩ | ⟨b, off, cap', h0, e, h1, h2, h3, h4⟩
  · simp at hl
  · simp only [Value.slice.injEq] at e
    exact ⟨b, off, e.1, h3, h4⟩
/-- A place as a number. -/
def ofN (i : Nat) : Int := (i : Int)
/-- How far the walk up a chain is: 'out' is its end, and what is left is the chain of id. -/
structure UpTo (l : List Bk) (id0 id : Int) (O : List Nat) : Prop where
  all : chA l id0 = chA l id ++ O
  there : O = [] ∨ id < 0 ∨ 0 ≤ atI l id
theorem UpTo.next {l : List Bk} (ht : treeP l) {id0 id : Int} {O : List Nat} (h : UpTo l id0 id O) {k : Nat} (hk : k < l.length) (e : atI l id = (k : Int)) : UpTo l id0 l[k].qb (k :: O) := by
  refine ⟨?_, ?_⟩
  · rw [h.all, chA_step ht hk e, List.append_assoc]; rfl
  · rcases par ht hk with ⟨_, q⟩ | ⟨j, hj, q, _⟩
    · exact .inr (.inl (by omega))
    · exact .inr (.inr (by omega))
theorem UpTo.len {l : List Bk} (ht : treeP l) {id0 id : Int} {O : List Nat} (h : UpTo l id0 id O) : O.length ≤ l.length := by
  have := chA_len ht id0
  rw [h.all] at this
  simp at this
  omega
set_option maxRecDepth 20000 in
set_option maxHeartbeats 2000000 in
theorem specChain_any (v : Value) (l : List Bk) (id0 : Int) (w : World) (hr : RdKs w v l) (hl : l.length ≤ 4000000) (ht : treeP l) :
    Calls Try.prog 96 #[v, .int .i64 id0] w fun e w' => ∃ x, e = .returned x ∧ OwnI w.heap.size w' x ((chA l id0).map ofN) ∧ Below w.heap.size w w' := by
  obtain ⟨a, cap, rfl⟩ := hr.shape
  have Hr := hide hr
  have Ht := hide ht
  have HA := hide (fun V (hV : Below w.heap.size w V) id => specAt_any (.slice a l.length cap) l id V (hr.below hV (Nat.le_refl _)) hl)
  have HT := hide (chA_len ht id0)
  clear hr ht
  go_enter Try.func96, Try.ntmps96
  go_wp2
  have o1 := own_nilI w w.heap.size (Nat.le_refl _)
  have b1 : Below w.heap.size w (w.alloc (.cells #[] 3)) := (Below.refl _ w).alloc (Nat.le_refl _) _
  go_loopw [1, 5] (fun iv ov wr => ∃ (id : Int) (O : List Nat), iv = .int .i64 id ∧ UpTo l id0 id O ∧ slen ov = O.length ∧ OwnI w.heap.size wr ov (O.map ofN) ∧ Below w.heap.size w wr) (fun _ ov _ => l.length - slen ov)
  case atStart => exact ⟨id0, [], rfl, ⟨by simp, .inl rfl⟩, rfl, o1, b1⟩
  case round =>
    clear o1 b1
    obtain ⟨id, O, rfl, hu, hs, ho, hb⟩ := hrel
    obtain ⟨oa, oc, rfl⟩ := ho.rd.shape
    have Hu := hide hu
    have Ho := hide ho
    clear hu ho hs
    by_cases hlow : id < 0
    · have HX : Hid (chA l id0 = O) := hide (by rw [Hu.out.all, chA_none (by rw [at_low Ht.out hlow]; omega)]; rfl)
      go_wp2
      go_ret
      exact ⟨_, rfl, by rw [HX.out]; exact Ho.out, hb⟩
    · have hge : 0 ≤ id := by omega
      go_wp2_with fail
      refine (HA.out wr hb id).mono ?_
      rintro e w2 ⟨rfl, rfl⟩
      by_cases hn : atI l id < 0
      · have HX : Hid (chA l id0 = []) := hide (by
          rcases Hu.out.there with h | h | h
          · rw [Hu.out.all, chA_none hn, h]; rfl
          · omega
          · omega)
        have HO := hide (own_nilI w2 w.heap.size hb.size)
        have HB := hide (hb.alloc (o := .cells #[] 3) hb.size)
        go_wp2
        go_ret
        exact ⟨_, rfl, by rw [HX.out]; exact HO.out, HB.out⟩
      · obtain ⟨k, hk, e, -⟩ := at_lt (l := l) (id := id) (by omega)
        have Hu2 := hide (Hu.out.next Ht.out hk e)
        have hm := Hu2.out.len Ht.out
        obtain ⟨b, off, rfl, h3, hcell⟩ := Hr.out.parts9 (by omega)
        obtain ⟨lv, hat, -⟩ := hcell k hk
        have c5 := (hat.below hb h3).cells.2.2.2.2.2.1
        have h39 : b < w2.heap.size := by have := hb.size; omega
        rw [e]
        have hk0 : (0 : Int) ≤ (k : Int) := by omega
        have hkl : (k : Int) < (l.length : Int) := by omega
        have HC : Hid (∀ V, Below w.heap.size w V → V.cell? ⟨b, off + k * 14 + 5, none⟩ = some (.int .i64 l[k].qb)) := hide (fun V hV => (hat.below hV h3).cells.2.2.2.2.2.1)
        have hO : O.length + 1 ≤ l.length := by simpa using hm
        have HO1 := hide (own_oneI w2 w.heap.size (k : Int) hb.size)
        have HR1 := hide (Ho.out.rd.below ((Below.refl w2.heap.size w2).alloc (Nat.le_refl _) (.cells #[.int .i64 (k : Int)] 3)) (Nat.le_refl _))
        have HB1 := hide (hb.alloc (o := .cells #[.int .i64 (k : Int)] 3) hb.size)
        clear hn hm hcell hat c5 Hu HA Hr
        generalize l[k].qb = qb at HC Hu2
        have hlen1 : ((O.map ofN).length : Nat) = O.length := by simp
        rw [hlen1] at HR1
        have hdone : ∀ v3 w3, OwnI w.heap.size w3 v3 ([(k : Int)] ++ O.map ofN) → slen v3 = O.length + 1 := fun v3 w3 h => by
          obtain ⟨a3, c3, rfl⟩ := h.rd.shape
          simp [slen]
        have Hdone := hide hdone
        clear hdone
        simp only
        go_wp2_with (at_builtin; refine app_ownIs _ rfl _ _ rfl w.heap.size _ _ [(k : Int)] (O.map ofN) rfl rfl HO1.out HR1.out (by simp; omega) (by have := HB1.out.size; omega) ?_; intro v3 w3 ho3 hg3 hb3 _; have cc := HC.out w3 (HB1.out.trans hb3))
        have HS3 := hide (Hdone.out v3 w3 ho3)
        have Ho3 := hide ho3
        clear ho3
        go_roundw
        case rel => exact ⟨qb, k :: O, rfl, Hu2.out, by rw [HS3.out]; rfl, Ho3.out, HB1.out.trans hb3⟩
        case measure => rw [HS3.out]; simp [slen]; omega
theorem RdI.cellI {w : World} {a : Option Addr} {cap : Nat} {l : List Int} {n : Nat} (h : RdI w (.slice a n cap) l) (hn : n = l.length) {k : Nat} (hk : k < l.length) : ∃ b off, a = some ⟨b, off, none⟩ ∧ b < w.heap.size ∧ w.cell? ⟨b, off + k, none⟩ = some (.int .i64 l[k]) := by
  rcases h with ⟨a', cap', e, rfl, hn⟩ | ⟨b, off, cap', h0, e, h1, h2, h3, h4⟩
  · simp at hk
  · simp only [Value.slice.injEq] at e
    exact ⟨b, off, e.1, h3, h4 k hk⟩
set_option maxRecDepth 20000 in
set_option maxHeartbeats 2000000 in
theorem specChainOf_any (v : Value) (l : List Bk) (id : Int) (w : World) (hr : RdKs w v l) (hl : l.length ≤ 4000000) (hf : ∀ b ∈ l, FewK b) (hbd : ∀ b ∈ l, -9223372036854775808 ≤ b.tr ∧ b.tr ≤ 9223372036854775807) :
    Calls Try.prog 30 #[v, .int .i64 id] w fun e w' => ∃ x, e = .returned x ∧ OwnI w.heap.size w' x (coA l id) ∧ Below w.heap.size w w' := by
  obtain ⟨a, cap, rfl⟩ := hr.shape
  have o1 := own_nilI w w.heap.size (Nat.le_refl _)
  have b1 : Below w.heap.size w (w.alloc (.cells #[] 3)) := (Below.refl _ w).alloc (Nat.le_refl _) _
  have HT := hide (specTreeOk_any _ l _ (hr.below b1 (Nat.le_refl _)) hl hf hbd)
  have HC := hide (fun (ht : treeP l) V (hV : Below w.heap.size w V) => specChain_any _ l id V (hr.below hV (Nat.le_refl _)) hl ht)
  have Hr := hide hr
  have O1 := hide o1
  have B1 := hide b1
  clear hr hf hbd o1 b1
  go_enter Try.func30, Try.ntmps30
  go_wp2_with fail
  refine HT.out.mono ?_
  rintro e w2 ⟨rfl, hb2⟩
  have o2 := O1.out.below hb2 (Nat.le_refl _)
  have hB2 := B1.out.trans (hb2.mono B1.out.size)
  have O2 := hide o2
  cases htb : treeB l
  · have HX : Hid (coA l id = []) := hide (by rw [coA, htb, if_neg (by simp)])
    clear htb HC HT o2
    go_wp2
    go_ret
    exact ⟨_, rfl, by rw [HX.out]; exact O2.out, hB2⟩
  · have ht := treeP_of htb
    have HX : Hid (coA l id = (chA l id).map (idAt l)) := hide (by rw [coA, htb, if_pos rfl])
    have hcl := chA_len ht id
    have Hclt := hide (chA_lt ht id)
    have HC2 := hide (HC.out ht w2 hB2)
    clear htb HC HT o2 ht
    generalize chA l id = C at HX hcl Hclt HC2
    go_wp2_with fail
    refine HC2.out.mono ?_
    rintro e w3 ⟨cv, rfl, oc, hb3⟩
    have hB3 := hB2.trans (hb3.mono hB2.size)
    have O3 := hide (O2.out.below hb3 (Nat.le_refl _))
    obtain ⟨ca, cc, rfl⟩ := oc.rd.shape
    have HRc := hide oc.rd
    have hlc : (C.map ofN).length = C.length := by simp
    rw [hlc] at HRc ⊢
    have Hoc : Hid (OwnI w2.heap.size w3 (.slice ca C.length cc) (C.map ofN)) := hide (by rw [hlc] at oc; exact oc)
    have hap : Hid (∀ g, (Value.slice (some ⟨w.heap.size, 0, none⟩) 0 0).ownBlock = some g → (Value.slice ca C.length cc).ownBlock ≠ some g) := hide (fun g h1 h2 => by
      have e1 := Hoc.out.ge g h2
      simp only [Value.ownBlock, Option.some.injEq] at h1
      have := hB2.size
      have := O2.out.lt w.heap.size rfl
      omega)
    clear oc HC2 O2 hb3 hB2 hb2 hlc HRc
    go_wp2
    go_loopw [7, 5] (fun iv ov wr => ∃ k : Nat, k ≤ C.length ∧ iv = .int .i64 (k : Int) ∧ OwnI w.heap.size wr ov ((C.take k).map (idAt l)) ∧ Below w.heap.size w wr ∧ OwnI w2.heap.size wr (.slice ca C.length cc) (C.map ofN) ∧ ∀ g, ov.ownBlock = some g → (Value.slice ca C.length cc).ownBlock ≠ some g) (fun iv _ _ => C.length - (intOf iv).toNat)
    case atStart => exact ⟨0, Nat.zero_le _, rfl, O3.out, hB3, Hoc.out, hap.out⟩
    case round =>
      clear O3 hB3 Hoc hap
      obtain ⟨k, hk, rfl, ho, hb, hoc, hap⟩ := hrel
      obtain ⟨oa, oc, rfl⟩ := ho.rd.shape
      have Ho := hide ho
      have Hoc := hide hoc
      have Hap := hide hap
      clear ho hoc hap
      by_cases hlt : k < C.length
      · obtain ⟨b2, off2, rfl, h32, cc0⟩ := RdI.cellI Hoc.out.rd (by simp) (k := k) (by simpa using hlt)
        rw [List.getElem_map] at cc0
        have hCk := Hclt.out C[k] (List.getElem_mem hlt)
        obtain ⟨b, off, rfl, h3, hcell⟩ := Hr.out.parts9 (by omega)
        obtain ⟨lv, hat, -⟩ := hcell C[k] hCk
        have c0 := (hat.below hb h3).cells.1
        have HY : Hid (((C.take k).map (idAt l)) ++ [l[C[k]].id] = (C.take (k + 1)).map (idAt l)) := hide (by
          rw [List.take_succ_eq_append_getElem hlt, List.map_append]
          simp [idAt_eq hCk])
        generalize l[C[k]].id = d at c0 HY
        generalize hj : C[k] = j at cc0 c0 hCk
        clear hj hat hcell
        simp only [ofN] at cc0
        have hki : (k : Int) < (C.length : Int) := by omega
        have hk0 : (0 : Int) ≤ (k : Int) := by omega
        have hji : (j : Int) < (l.length : Int) := by omega
        have hj0 : (0 : Int) ≤ (j : Int) := by omega
        have hln : ((C.take k).map (idAt l)).length = k := by simp; omega
        have Hln := hide hln
        rw [hln] at Ho Hap ⊢
        clear hln
        obtain ⟨w4, hw4⟩ : ∃ x, wr.alloc (.cells #[.int .i64 d] 3) = x := ⟨_, rfl⟩
        have b4 : Below wr.heap.size wr w4 := by rw [← hw4]; exact (Below.refl _ wr).alloc (Nat.le_refl _) _
        have k4 : Blk w4 wr.heap.size 3 [.int .i64 d] := by rw [← hw4]; exact Blk.new wr _ _
        have HB4 := hide (hb.trans (b4.mono hb.size))
        have HO4 := hide (Ho.out.below b4 (Nat.le_refl _))
        have HC4 := hide (Hoc.out.below b4 (Nat.le_refl _))
        have HR4 := hide (rd_oneI k4)
        have s4 : w4.heap.size = wr.heap.size + 1 := by rw [← hw4]; simp
        have Hs4 := hide s4
        clear b4 k4 Ho Hoc s4 Hr
        go_wp2_with (at_builtin; (try rw [hw4]); refine app_ownIs w4 rfl _ _ rfl w.heap.size (.slice oa k oc) _ ((C.take k).map (idAt l)) [d] rfl rfl HO4.out HR4.out (by simp; omega) HB4.out.size ?_; intro v5 w5 ho5 hg5 hb5 hl5)
        have HO5 : Hid (OwnI w.heap.size w5 v5 ((C.take (k + 1)).map (idAt l))) := hide (by rw [← HY.out]; exact ho5)
        have HC5 := hide (HC4.out.kept hg5 (by
          cases ho : (Value.slice oa k oc).ownBlock with
          | none => right; simp [Value.ownBlock]
          | some g => right; exact Hap.out g ho))
        have HP5 : Hid (∀ g, v5.ownBlock = some g → (Value.slice (some ⟨b2, off2, none⟩) C.length cc).ownBlock ≠ some g) := hide (fun g h1 h2 => by
          rcases hl5 with e | e
          · rw [e] at h1; exact Hap.out g h1 h2
          · rw [e] at h1
            have h9 := HC4.out.lt g h2
            simp only [Option.some.injEq] at h1
            omega)
        go_roundw
        case rel => exact ⟨k + 1, by omega, by go_num, HO5.out, HB4.out.trans hb5, HC5.out, HP5.out⟩
        case measure => simp [intOf]; omega
      · obtain rfl : k = C.length := by omega
        have HZ : Hid ((C.take C.length).map (idAt l) = coA l id) := hide (by rw [HX.out, List.take_length])
        rw [HZ.out] at Ho
        go_wp2
        go_ret
        exact ⟨_, rfl, by rw [← HZ.out] at Ho ⊢; exact Ho.out, hb⟩
set_option maxRecDepth 20000 in
set_option maxHeartbeats 2000000 in
theorem specExtends_any (v : Value) (l : List Bk) (a b : Int) (w : World) (hr : RdKs w v l) (hl : l.length ≤ 4000000) (hf : ∀ b ∈ l, FewK b) (hbd : ∀ b ∈ l, -9223372036854775808 ≤ b.tr ∧ b.tr ≤ 9223372036854775807) :
    Calls Try.prog 36 #[v, .int .i64 a, .int .i64 b] w fun e w' => e = .returned (.bool (exB l a b)) ∧ Below w.heap.size w w' := by
  obtain ⟨aa, cap, rfl⟩ := hr.shape
  have HT := hide (specTreeOk_any _ l w hr hl hf hbd)
  have HC := hide (fun (ht : treeP l) V (hV : Below w.heap.size w V) => specChain_any _ l b V (hr.below hV (Nat.le_refl _)) hl ht)
  have HA := hide (fun V (hV : Below w.heap.size w V) => specAt_any (.slice aa l.length cap) l b V (hr.below hV (Nat.le_refl _)) hl)
  have Hr := hide hr
  have HX : Hid (exB l a b = (treeB l && (if a = -1 then (decide (b = -1) || decide (0 ≤ atI l b)) else ((chA l b).map (idAt l)).any (fun x => decide (x = a))))) := hide rfl
  generalize exB l a b = X at HX ⊢
  clear hr hf hbd
  go_enter Try.func36, Try.ntmps36
  go_wp2_with fail
  refine HT.out.mono ?_
  rintro e w2 ⟨rfl, hB2⟩
  cases htb : treeB l
  · rw [htb, Bool.false_and] at HX
    clear htb HC HA HT
    go_wp2
    go_ret
    exact ⟨ret_bool HX.out.symm, hB2⟩
  · rw [htb, Bool.true_and] at HX
    have ht := treeP_of htb
    by_cases ha : a = -1
    · rw [if_pos ha] at HX
      subst ha
      clear HC HT htb ht
      by_cases hb : b = -1
      · subst hb
        rw [show (decide ((-1 : Int) = -1)) = true from by simp, Bool.true_or] at HX
        clear HA
        go_wp2
        go_ret
        exact ⟨ret_bool HX.out.symm, hB2⟩
      · have hbe : (b == -1) = false := by rw [beq_eq_false_iff_ne]; exact hb
        rw [show decide (b = -1) = false from by simp [hb], Bool.false_or] at HX
        have HA2 := hide (HA.out w2 hB2)
        generalize atI l b = r at HX HA2
        clear HA hb
        go_wp2_with (go_at_call 94; refine HA2.out.mono ?_; rintro e w2 ⟨rfl, rfl⟩)
        go_ret
        exact ⟨ret_bool HX.out.symm, hB2⟩
    · rw [if_neg ha] at HX
      have hae : (a == -1) = false := by rw [beq_eq_false_iff_ne]; exact ha
      have hcl := chA_len ht b
      have Hclt := hide (chA_lt ht b)
      have HC2 := hide (HC.out ht w2 hB2)
      clear htb HC HT ht HA ha
      generalize chA l b = C at HX hcl Hclt HC2
      go_wp2_with fail
      refine HC2.out.mono ?_
      rintro e w3 ⟨cv, rfl, oc, hb3⟩
      have hB3 := hB2.trans (hb3.mono hB2.size)
      obtain ⟨ca, cc, rfl⟩ := oc.rd.shape
      have HRc := hide oc.rd
      have hlc : (C.map ofN).length = C.length := by simp
      rw [hlc] at HRc ⊢
      clear oc HC2 hb3 hB2 hlc
      go_wp2
      go_loopw [8] (fun iv wr => ∃ k : Nat, k ≤ C.length ∧ iv = .int .i64 (k : Int) ∧ (∀ j (h : j < C.length), j < k → idAt l C[j] ≠ a) ∧ wr = w3) (fun iv _ => C.length - (intOf iv).toNat)
      case atStart => exact ⟨0, Nat.zero_le _, rfl, fun j _ h => by omega, rfl⟩
      case round =>
        obtain ⟨k, hk, rfl, hno, rfl⟩ := hrel
        have Hno := hide hno
        clear hno
        by_cases hlt : k < C.length
        · obtain ⟨b2, off2, rfl, h32, cc0⟩ := RdI.cellI HRc.out (by simp) (k := k) (by simpa using hlt)
          rw [List.getElem_map] at cc0
          have hCk := Hclt.out C[k] (List.getElem_mem hlt)
          obtain ⟨b, off, rfl, h3, hcell⟩ := Hr.out.parts9 (by omega)
          obtain ⟨lv, hat, -⟩ := hcell C[k] hCk
          have c0 := (hat.below hB3 h3).cells.1
          have HY : Hid (l[C[k]].id ≠ a → ∀ j (h : j < C.length), j < k + 1 → idAt l C[j] ≠ a) := hide (fun h j hj hjk => by
            by_cases e : j = k
            · subst e; rw [idAt_eq hCk]; exact h
            · exact Hno.out j hj (by omega))
          have HZ : Hid (l[C[k]].id = a → (C.map (idAt l)).any (fun x => decide (x = a)) = true) := hide (fun h => by
            rw [List.any_eq_true]
            exact ⟨idAt l C[k], List.mem_map.2 ⟨C[k], List.getElem_mem hlt, rfl⟩, by rw [idAt_eq hCk]; simp [h]⟩)
          generalize l[C[k]].id = d at c0 HY HZ
          generalize hj : C[k] = j at cc0 c0 hCk
          clear hj hat hcell
          simp only [ofN] at cc0
          have hki : (k : Int) < (C.length : Int) := by omega
          have hk0 : (0 : Int) ≤ (k : Int) := by omega
          have hji : (j : Int) < (l.length : Int) := by omega
          have hj0 : (0 : Int) ≤ (j : Int) := by omega
          by_cases hd : d = a
          · have HX2 := hide (HX.out.trans (HZ.out hd))
            subst hd
            have hdd : (d == d) = true := by simp
            clear HX HZ HY
            go_wp2
            go_ret
            exact ⟨ret_bool HX2.out.symm, hB3⟩
          · have HY2 := hide (HY.out hd)
            have hdd : (d == a) = false := by rw [beq_eq_false_iff_ne]; exact hd
            clear HZ HY hd
            go_wp2
            go_roundw
            case rel => exact ⟨k + 1, by omega, by go_num, HY2.out, by first | trivial | rfl⟩
            case measure => simp [intOf]; omega
        · have HX2 : Hid (X = false) := hide (by
            rw [HX.out, List.any_eq_false]
            intro x hx
            obtain ⟨c, hc, rfl⟩ := List.mem_map.1 hx
            obtain ⟨j, hj, rfl⟩ := List.mem_iff_getElem.1 hc
            simpa using Hno.out j hj (by omega))
          clear HX
          go_wp2
          go_ret
          exact ⟨ret_bool HX2.out.symm, hB3⟩
end Go.Proofs.Ytlfoaobgdipdlaa
