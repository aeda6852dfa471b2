/- The ledger at a place of a tree, by the landed code. What the row's condition says of the package-level variable that holds a type's handle: its cell. At all ledgers, lists of blocks and numbers LedgerAt of the program answers as the model's LedgerAt, writes into no argument, and its answer owns its memory: the law FnExactLedgerAt returns true; its one variable of the library reads as the program's text lays it. -/
import Derived.Test.YtggkonpboahdeaaGreatDoorZlLaSpec
import Derived.Test.YtggkonpboahdeaaGreatDoorZlLgAllI
import Derived.Test.YtggkonpboahdeaaGreatDoorZlLgOrd
import Derived.LaidLaws
import Derived.LaidHandle
import Derived.LaidMore
import Derived.OpenVars
import Derived.Stop.Joined
import Derived.Test.YtggkonpboahdeaaGreatDoorRows
import Derived.Test.YtggkonpboahdeaaGreatDoorTie
import Derived.Test.YtggkonpboahdeaaGreatDoorCards
import Derived.Test.YtggkonpboahdeaaGreatDoorZlToStr
import Derived.Test.YtggkonpboahdeaaGreatDoorZlVsEq
import Derived.Test.YtggkonpboahdeaaGreatDoorZlBkEq
import Derived.Test.YtggkonpboahdeaaGreatDoorZlHeldStr
import Derived.Test.YtggkonpboahdeaaGreatDoorZlKsMark
import Derived.Test.YtggkonpboahdeaaGreatDoorZlLgFacts
import Derived.Test.YtggkonpboahdeaaGreatDoorZlLgWith
import Derived.Test.YtggkonpboahdeaaGreatDoorZlLgAllS
import Derived.ChangeSame
import Derived.ChangeVars
import Derived.JoinedOf
import Derived.RowKitTokens
import Derived.WalkKit
import Derived.ProofKit
import Derived.OpenShut
import Derived.ShutString
import Derived.ChangeOld
import Derived.Below
import Derived.SliceStrings
import Derived.SevenTiedAt
namespace Go.Proofs.YtggkonpboahdeaaGreatDoor
open Go.RowKit
set_option linter.unusedVariables false

set_option maxRecDepth 20000 in
set_option maxHeartbeats 4000000 in
theorem ledgerBehind_any (e : Int) (v vq : Value) (z : List Ac) (l : List Bk) (al : Option Addr) (cl b off base : Nat) (C : List Nat) (w : World) (hgh : Gh w) (hr : RdA w v z) (hrl : RdKs w (.slice al l.length cl) l) (hq : OwnQ base w vq b off C) (ha : 0 < C.length → al = some ⟨b, off, none⟩) (hclt0 : ∀ x ∈ C, x < l.length) (hcl : C.length ≤ 4000000) (hz : z.length ≤ 3999999) (hall : ∀ a ∈ z, a.1.size ≤ maxLen ∧ a.2.2.2.2.length ≤ 3999999) (hf : ∀ b ∈ l, FewK b) :
    Calls Tryz.prog 25 #[lgV e v, vq] w fun en w' => ∃ v', en = .returned (lgV e v') ∧ OwnA w.heap.size w' v' (foL e z l C) ∧ Below w.heap.size w w' := by
  obtain ⟨av, cv, rfl⟩ := hr.shape
  have hall2 : ∀ a ∈ z, a.2.2.2.2.length ≤ 4000000 := fun a ha => by have := hall a ha; omega
  have Hfew := hide (fun k C => foL_few (e := e) l (List.take k C) z hz hall)
  simp only [lgV] at *
  obtain ⟨w2, hw2⟩ : ∃ w2, (w.alloc (.cells #[.int .i64 e, .slice av z.length cv] 30)).alloc (.cells #[.int .i64 0, .slice none 0 0] 30) = w2 := ⟨_, rfl⟩
  have hs2 : w2.heap.size = w.heap.size + 2 := by rw [← hw2]; simp
  have hb2 : Below w.heap.size w w2 := by rw [← hw2]; exact ((Below.refl _ w).alloc (Nat.le_refl _) _).alloc (by simp) _
  have kA : Blk w2 w.heap.size 30 [.int .i64 e, .slice av z.length cv] := by
    rw [← hw2]
    exact (Blk.new w 30 [.int .i64 e, .slice av z.length cv]).below ((Below.refl (w.heap.size + 1) _).alloc (by simp) _) (by omega)
  have kR : Blk w2 (w.heap.size + 1) 30 [.int .i64 0, .slice none 0 0] := by
    rw [← hw2]
    have h := Blk.new (w.alloc (.cells #[.int .i64 e, .slice av z.length cv] 30)) 30 [.int .i64 0, .slice none 0 0]
    simp only [World.size_alloc] at h
    exact h
  have HC := hide (implCopiedLg_any e (.slice av z.length cv) z w2 (hr.below hb2 (Nat.le_refl _)) (by omega) hall2)
  simp only [lgV] at HC
  have Hf := hide hf
  have Hb2 := hide hb2
  have KR := hide kR
  have c0 := kA.cell 0
  have c1 := kA.cell 1
  simp only [List.getElem?_cons_zero, List.getElem?_cons_succ] at c0 c1
  obtain ⟨qa, qc, rfl⟩ := hq.shape
  have Hrl := hide hrl
  have Hq := hide hq
  have Ha := hide ha
  have Hclt := hide hclt0
  have Hgh := hide hgh
  clear hq ha hclt0 hgh
  clear hr hrl hf hall hall2 hb2 kA kR
  go_enter Tryz.func25, Tryz.ntmps25
  go_wp2_with fail
  refine HC.out.mono ?_
  rintro en w3 ⟨v3, rfl, o3, hb3⟩
  obtain ⟨a3, c3, rfl⟩ := o3.rd.shape
  obtain ⟨w4, hw4⟩ : ∃ w4, w3.alloc (.cells #[.int .i64 e, .slice a3 z.length c3] 30) = w4 := ⟨_, rfl⟩
  have b4 : Below w3.heap.size w3 w4 := by rw [← hw4]; exact (Below.refl _ w3).alloc (Nat.le_refl _) _
  have k4 : Blk w4 w3.heap.size 30 [.int .i64 e, .slice a3 z.length c3] := by rw [← hw4]; exact Blk.new w3 _ _
  have s4 : w4.heap.size = w3.heap.size + 1 := by rw [← hw4]; simp
  have x4 := o3.ox.below b4 (Nat.le_refl _)
  have hB4 := hb3.trans (b4.mono hb3.size)
  have hz3 := hb3.size
  clear o3 hb3 b4 c0 c1 hw2 HC
  have K5 := hide k4
  have X5 := hide x4
  have B5 := hide hB4
  clear k4 x4 hB4
  go_wp2
  go_loopw [12] (fun iv wr => ∃ (i : Nat) (a : Option Addr) (c base hi : Nat), i ≤ C.length ∧ iv = .int .i64 (i : Int) ∧ Blk wr w3.heap.size 30 [.int .i64 e, .slice a (foL e z l (C.take i)).length c] ∧ OwnX base hi wr (.slice a (foL e z l (C.take i)).length c) (foL e z l (C.take i)) ∧ w2.heap.size ≤ base ∧ (w3.heap.size < base ∨ hi ≤ w3.heap.size) ∧ Below w2.heap.size w2 wr) (fun iv _ => C.length - (intOf iv).toNat)
  case atStart => exact ⟨0, a3, c3, w2.heap.size, w3.heap.size, by omega, rfl, K5.out, X5.out, Nat.le_refl _, .inr (Nat.le_refl _), B5.out⟩
  case round =>
    obtain ⟨i, a, c, base, hi, hi1, rfl, kO, x, hbase, hdis, hb⟩ := hrel
    clear K5 X5 B5 hw4
    have hwr := hb.size
    have hO := kO.lt
    have hBw := Hb2.out.trans (hb.mono Hb2.out.size)
    have few := Hfew.out i C
    by_cases hlt : i < C.length
    · have Hsn := hide (foL_snoc e z l C i hlt)
      have hCk := Hclt.out C[i] (List.getElem_mem hlt)
      obtain ⟨gq, rfl, cc0⟩ := Hq.out.cell hlt
      obtain rfl := Ha.out (by omega)
      obtain ⟨b9, off9, e9, h3, hcell⟩ := Hrl.out.parts9 (by omega)
      simp only [Option.some.injEq, Addr.mk.injEq, and_true] at e9
      obtain ⟨rfl, rfl⟩ := e9
      obtain ⟨lv, hat, hrk⟩ := hcell C[i] hCk
      have hqlt := (World.ownsRow.lt Hq.out gq rfl).2
      replace cc0 := (hBw.cell (p := ⟨gq, i, none⟩) hqlt).trans cc0
      have hfk := Hf.out l[C[i]] (List.getElem_mem hCk)
      have ct := (hat.below hBw h3).cells.2.2.2.2.2.2.2.2.2.2.1
      have hrt := hrk.t
      obtain ⟨ta, tc, hte⟩ := hrt.shape
      rw [hte] at ct hrt
      rw [tsAt_eq hCk] at Hsn
      generalize foL e z l (C.take i) = P at kO x few Hsn
      have HAl : Hid (∀ V, Below wr.heap.size wr V → Calls Tryz.prog 53 #[.agg #[.int .i64 e, .slice a P.length c], .slice ta l[C[i]].ts.length tc] V fun en w' => ∃ v', en = .returned (.tuple #[.agg #[.int .i64 e, v'], .int .i64 ((alA e P l[C[i]].ts).2 : Int)]) ∧ OwnA V.heap.size w' v' (alA e P l[C[i]].ts).1 ∧ Below wr.heap.size wr w' ∧ wr.heap.size ≤ V.heap.size) := hide (fun V hV => (implAll_any e (.slice a P.length c) (.slice ta l[C[i]].ts.length tc) P l[C[i]].ts V (Hgh.out.below (hBw.trans (hV.mono hBw.size))) (x.rd.below hV (Nat.le_refl _)) (hrt.below (hBw.trans (hV.mono hBw.size)) (Nat.le_refl _)) few.1 few.2 hfk.t hfk.ts).mono (fun en w' ⟨v', h1, h2, h3⟩ => ⟨v', h1, h2, hV.trans (h3.mono hV.size), hV.size⟩))
      have d0 := kO.cell 0
      have d1 := kO.cell 1
      simp only [List.getElem?_cons_zero, List.getElem?_cons_succ] at d0 d1
      have KO := hide kO
      have Hb := hide hb
      have hki : (i : Int) < (C.length : Int) := by omega
      have hk0 : (0 : Int) ≤ (i : Int) := by omega
      generalize l[C[i]].ts = ts at HAl ct Hsn hrt
      generalize C[i] = j at cc0 ct hCk
      simp only [pk] at cc0
      generalize hAA : alA e P ts = AA at HAl Hsn
      obtain ⟨A, nA⟩ := AA
      simp only at HAl Hsn
      have hji : (j : Int) < (l.length : Int) := by omega
      have hj0 : (0 : Int) ≤ (j : Int) := by omega
      clear hAA hat hrk hcell hfk hte hrt kO x few hb hBw
      go_upto_region 5 with fail
      go_region_law ((go_simp; go_at_call 53; refine (HAl.out _ (by first | exact Below.refl _ _ | exact (Below.refl _ _).drew)).mono ?_; rintro en wA ⟨vA, rfl, oA, bA, zA⟩; have hsh := oA.rd.shape; obtain ⟨aA, cA, hvA⟩ := hsh; subst hvA; have kA := KO.out.below bA KO.out.lt; have q0 := kA.cell 0; have q1 := kA.cell 1; have f0 := kA.frozen 0; have f1 := kA.frozen 1; simp only [List.getElem?_cons_zero, List.getElem?_cons_succ] at q0 q1))
      all_goals
        have kN := (kA.set 0 (.int .i64 e)).set 1 (.slice aA A.length cA)
        have oN := (oA.older (g := w3.heap.size) (by omega) 0 (.int .i64 e)).older (g := w3.heap.size) (by omega) 1 (.slice aA A.length cA)
        have bN := ((Hb.out.trans (bA.mono hwr)).setCell (p := ⟨w3.heap.size, 0, none⟩) (show w2.heap.size ≤ w3.heap.size by omega) (.int .i64 e)).setCell (p := ⟨w3.heap.size, 1, none⟩) (show w2.heap.size ≤ w3.heap.size by omega) (.slice aA A.length cA)
        simp only [List.set_cons_zero, List.set_cons_succ] at kN
        have KN := hide kN
        have XN := hide oN.ox
        have BN := hide bN
        clear kA kN oA oN bA bN
        go_wp2
        go_roundw
        case rel => exact ⟨i + 1, aA, cA, _, _, by omega, by go_num, by rw [Hsn.out]; exact KN.out, by rw [Hsn.out]; exact XN.out, by omega, .inl (by omega), BN.out⟩
        case measure => simp [intOf]; omega
    · obtain rfl : i = C.length := by omega
      rw [List.take_length] at kO x
      have d0 := kO.cell 0
      have d1 := kO.cell 1
      simp only [List.getElem?_cons_zero, List.getElem?_cons_succ] at d0 d1
      have kR := KR.out.below hb KR.out.lt
      have r0 := kR.cell 0
      have r1 := kR.cell 1
      have g0 := kR.frozen 0
      have g1 := kR.frozen 1
      simp only [List.getElem?_cons_zero, List.getElem?_cons_succ] at r0 r1
      have HBx := hide ((hBw.setCell (p := ⟨w.heap.size + 1, 0, none⟩) (show w.heap.size ≤ w.heap.size + 1 by omega) (.int .i64 e)).setCell (p := ⟨w.heap.size + 1, 1, none⟩) (show w.heap.size ≤ w.heap.size + 1 by omega) (.slice a (foL e z l C).length c))
      have HOx := hide (((x.own.older (g := w.heap.size + 1) (by omega) 0 (.int .i64 e)).older (g := w.heap.size + 1) (by omega) 1 (.slice a (foL e z l C).length c)).mono (show w.heap.size ≤ _ by omega))
      clear kO x kR hb hBw few
      obtain ⟨P, hP⟩ : ∃ P, foL e z l C = P := ⟨_, rfl⟩
      rw [hP] at d1 HBx HOx
      have HPe := hide hP
      clear hP
      go_wp2
      refine bodyPost_ret (v := .agg #[.int .i64 e, .slice a P.length c]) (by simp [results, Tryz.f25, go_sem, r0, r1]) rfl ?_
      exact ⟨_, rfl, by rw [HPe.out]; exact HOx.out, HBx.out⟩
set_option maxRecDepth 20000 in
set_option maxHeartbeats 4000000 in
theorem implLedgerAt_any (e : Int) (v vl : Value) (z : List Ac) (l : List Bk) (id : Int) (w : World) (hgh : Gh w) (hr : RdA w v z) (hrl : RdKs w vl l) (hz : z.length ≤ 3999999) (hall : ∀ a ∈ z, a.1.size ≤ maxLen ∧ a.2.2.2.2.length ≤ 3999999) (hl : l.length ≤ 4000000) (hf : ∀ b ∈ l, FewK b) (hbd : ∀ b ∈ l, -9223372036854775808 ≤ b.tr ∧ b.tr ≤ 9223372036854775807) :
    Calls Tryz.prog 9 #[lgV e v, vl, .int .i64 id] w fun en w' => ∃ v', en = .returned (.tuple #[lgV e v', .bool (laA e z l id).2]) ∧ OwnA w.heap.size w' v' (laA e z l id).1 ∧ Below w.heap.size w w' := by
  obtain ⟨av, cv, rfl⟩ := hr.shape
  obtain ⟨al, cl, rfl⟩ := hrl.shape
  have hall2 : ∀ a ∈ z, a.2.2.2.2.length ≤ 4000000 := fun a ha => by have := hall a ha; omega
  obtain ⟨w2, hw2⟩ : ∃ w2, (w.alloc (.cells #[.int .i64 e, .slice av z.length cv] 30)).alloc (.cells #[.int .i64 0, .slice none 0 0] 30) = w2 := ⟨_, rfl⟩
  have hs2 : w2.heap.size = w.heap.size + 2 := by rw [← hw2]; simp
  have hb2 : Below w.heap.size w w2 := by rw [← hw2]; exact ((Below.refl _ w).alloc (Nat.le_refl _) _).alloc (by simp) _
  have kA : Blk w2 w.heap.size 30 [.int .i64 e, .slice av z.length cv] := by
    rw [← hw2]
    exact (Blk.new w 30 [.int .i64 e, .slice av z.length cv]).below ((Below.refl (w.heap.size + 1) _).alloc (by simp) _) (by omega)
  have kR : Blk w2 (w.heap.size + 1) 30 [.int .i64 0, .slice none 0 0] := by
    rw [← hw2]
    have h := Blk.new (w.alloc (.cells #[.int .i64 e, .slice av z.length cv] 30)) 30 [.int .i64 0, .slice none 0 0]
    simp only [World.size_alloc] at h
    exact h
  have HC := hide (fun V (hV : Below w.heap.size w V) => implCopiedLg_any e (.slice av z.length cv) z V (hr.below hV (Nat.le_refl _)) (by omega) hall2)
  have HQ := hide (fun V (hV : Below w.heap.size w V) => chainBlocks_any l al cl id V (hrl.below hV (Nat.le_refl _)) hl hf hbd)
  have hcl := chT_len l id
  have HL := hide (fun (vq : Value) (b off base : Nat) V (hV : Below w.heap.size w V) hq ha => ledgerBehind_any e (.slice av z.length cv) vq z l al cl b off base (chT l id) V (hgh.below hV) (hr.below hV (Nat.le_refl _)) (hrl.below hV (Nat.le_refl _)) hq ha (chT_lt l id) (by omega) hz hall hf)
  have HP : Hid (∀ (P : List Ac) (q : Bool), laA e z l id = (P, q) → ∀ v' w', OwnA w.heap.size w' v' P → Below w.heap.size w w' → ∃ v'', (Ending.returned (.tuple #[.agg #[.int .i64 e, v'], .bool q]) = .returned (.tuple #[.agg #[.int .i64 e, v''], .bool (laA e z l id).2])) ∧ OwnA w.heap.size w' v'' (laA e z l id).1 ∧ Below w.heap.size w w') := hide (fun P q h v' w' ho hb => ⟨v', by rw [h], by rw [h]; exact ho, hb⟩)
  simp only [lgV] at HC HL ⊢
  have KR := hide kR
  have KA := hide kA
  have Hb2 := hide hb2
  have c0 := kA.cell 0
  have c1 := kA.cell 1
  simp only [List.getElem?_cons_zero, List.getElem?_cons_succ] at c0 c1
  clear hr hrl hall hall2 hf hbd hb2 kA kR hgh
  by_cases hid : id = -1
  · subst hid
    go_enter Tryz.func9, Tryz.ntmps9
    go_wp2_with fail
    refine (HC.out w2 Hb2.out).mono ?_
    rintro en w3 ⟨v3, rfl, o3, hb3⟩
    have hB3 := Hb2.out.trans (hb3.mono Hb2.out.size)
    have kR3 := KR.out.below hb3 KR.out.lt
    clear c0 c1
    have r0 := kR3.cell 0
    have r1 := kR3.cell 1
    have g0 := kR3.frozen 0
    have g1 := kR3.frozen 1
    simp only [List.getElem?_cons_zero, List.getElem?_cons_succ] at r0 r1
    obtain ⟨aN, cN, hvN⟩ := o3.rd.shape
    subst hvN
    have HBx := hide ((hB3.setCell (p := ⟨w.heap.size + 1, 0, none⟩) (show w.heap.size ≤ w.heap.size + 1 by omega) (.int .i64 e)).setCell (p := ⟨w.heap.size + 1, 1, none⟩) (show w.heap.size ≤ w.heap.size + 1 by omega) (.slice aN z.length cN))
    have HOx := hide (((o3.older (g := w.heap.size + 1) (by omega) 0 (.int .i64 e)).older (g := w.heap.size + 1) (by omega) 1 (.slice aN z.length cN)).mono (show w.heap.size ≤ _ by omega))
    have HE := hide (show laA e z l (-1) = (z, true) from by unfold laA; rw [if_pos rfl])
    clear o3
    go_wp2
    refine bodyPost_ret (v := .tuple #[.agg #[.int .i64 e, .slice aN z.length cN], .bool (true)]) (by simp [results, Tryz.f9, go_sem, r0, r1]) rfl ?_
    exact HP.out z (true) HE.out _ _ HOx.out HBx.out
  · have hq : (id == -1) = false := by rw [beq_eq_false_iff_ne]; exact hid
    have Hid1 := hide hid
    clear hid
    go_enter Tryz.func9, Tryz.ntmps9
    go_wp2_with fail
    refine (HQ.out w2 Hb2.out).mono ?_
    rintro en w3 ⟨v3, b, off, rfl, hoq, haq, hb3⟩
    have hB3 := Hb2.out.trans (hb3.mono Hb2.out.size)
    have kR3 := KR.out.below hb3 KR.out.lt
    have kA3 := KA.out.below hb3 KA.out.lt
    have s3 := hb3.size
    have HLq := hide (HL.out v3 b off _ w3 hB3 hoq haq)
    have HF := hide (laA_ch (e := e) (z := z) (l := l) Hid1.out)
    obtain ⟨oa, oc, rfl⟩ := hoq.shape
    clear c0 c1 hoq haq HL
    have c0 := kA3.cell 0
    have c1 := kA3.cell 1
    simp only [List.getElem?_cons_zero, List.getElem?_cons_succ] at c0 c1
    generalize chT l id = C at HLq HF hcl ⊢
    go_wp2_with fail
    refine HLq.out.mono ?_
    rintro en w5 ⟨v5, rfl, o5, hb5⟩
    have hB5 := hB3.trans (hb5.mono hB3.size)
    have kR5 := kR3.below hb5 kR3.lt
    clear c0 c1 HLq
    have HF2 : Hid (laA e z l id = (foL e z l C, decide (0 < (C.length : Int)))) := hide (by
      rw [HF.out]
      by_cases h : 0 < C.length
      · rw [decide_eq_true h, decide_eq_true (by omega)]
      · rw [decide_eq_false h, decide_eq_false (by omega)])
    have r0 := kR5.cell 0
    have r1 := kR5.cell 1
    have g0 := kR5.frozen 0
    have g1 := kR5.frozen 1
    simp only [List.getElem?_cons_zero, List.getElem?_cons_succ] at r0 r1
    obtain ⟨aN, cN, hvN⟩ := o5.rd.shape
    subst hvN
    have HBx := hide ((hB5.setCell (p := ⟨w.heap.size + 1, 0, none⟩) (show w.heap.size ≤ w.heap.size + 1 by omega) (.int .i64 e)).setCell (p := ⟨w.heap.size + 1, 1, none⟩) (show w.heap.size ≤ w.heap.size + 1 by omega) (.slice aN (foL e z l C).length cN))
    have HOx := hide (((o5.older (g := w.heap.size + 1) (by omega) 0 (.int .i64 e)).older (g := w.heap.size + 1) (by omega) 1 (.slice aN (foL e z l C).length cN)).mono (show w.heap.size ≤ _ by omega))
    have HE := hide (show laA e z l id = ((foL e z l C), decide (0 < (C.length : Int))) from HF2.out)
    clear o5
    generalize (foL e z l C) = PP at HBx HOx HE ⊢
    go_wp2
    refine bodyPost_ret (v := .tuple #[.agg #[.int .i64 e, .slice aN PP.length cN], .bool (decide (0 < (C.length : Int)))]) (by simp [results, Tryz.f9, go_sem, r0, r1]) rfl ?_
    exact HP.out PP (decide (0 < (C.length : Int))) HE.out _ _ HOx.out HBx.out
end Go.Proofs.YtggkonpboahdeaaGreatDoor

namespace Go.Proofs.YtggkonpboahdeaaGreatDoor
open Go.ChangeShapes Go.WideShapes Go.RowKit
set_option linter.unusedVariables false

theorem Tryz.et : Tryz.prog.globalNamed "errors.errorType" = some 0 := by kernel_rfl
theorem Tryz.rt : (Tryz.prog.cutTypes.find? (·.1 == "internal/reflectlite.rtype")).map (·.2) = some 203 := by kernel_rfl
theorem Tryz.oneRow : ((List.range 282).filter fun t => Tryz.prog.rowNamed t [101, 114, 114, 111, 114]) = [156] := by kernel_rfl
theorem Tryz.nTypes : Tryz.prog.types.size = 282 := by kernel_rfl

theorem gh_of_handles {W : World} (h : handlesMet Tryz.prog [("errors.errorType", Rows.laid_errors_errorType)] W) : Gh W := by
  obtain ⟨name, u, ty, e1, e2, e3, e4, e5⟩ := h _ (List.mem_singleton.2 rfl)
  have en : name = [101, 114, 114, 111, 114] := (Option.some.inj e1).symm
  subst en
  obtain rfl := Option.some.inj (Tryz.rt.symm.trans e2)
  have hm : ty ∈ (List.range 282).filter fun t => Tryz.prog.rowNamed t [101, 114, 114, 111, 114] := List.mem_filter.2 ⟨List.mem_range.2 (by rw [← Tryz.nTypes]; exact e3), e4⟩
  rw [Tryz.oneRow] at hm
  obtain rfl := List.mem_singleton.1 hm
  have hh : typeHandle Tryz.prog 156 = .pointer (some ⟨1, 156, none⟩) := by kernel_rfl
  rw [hh] at e5
  unfold Gh
  simpa using World.var?_cell Tryz.et e5 0
/-- The variable's cell laid anew. -/
def handPut : Obj → Obj
  | .cells _ t frozen => .cells #[.iface 203 (.agg #[.pointer (some ⟨1, 156, none⟩)])] t frozen
  | o => o
/-- A world that meets the condition: w0, the variable's cell laid. -/
def laidOn (w0 : World) : World := { w0 with heap := w0.heap.modify 0 handPut }
end Go.Proofs.YtggkonpboahdeaaGreatDoor

namespace Go.Proofs.YtggkonpboahdeaaGreatDoor
open Go.ChangeShapes Go.WideShapes Go.ChangeAt Go.RowKit
open Go.ChangeMaps (open_string shut_string)
set_option linter.unusedVariables false

theorem fnExactLedgerAt_own : ownKnob Tryz.prog.godebug = none := by kernel_rfl
theorem fnExactLedgerAt_laidOut : laidOutB Tryz.prog = true := by kernel_rfl

theorem totM_sumL (l : List Bk) : totM l ≤ 9 * l.length + 5 * totK l := by
  induction l with
  | nil => simp [totM]
  | cons b l ih =>
    have e1 : totM (b :: l) = mkN b + totM l := by simp [totM]
    have e2 : totK (b :: l) = wgK b + totK l := by simp [totK]
    rw [e1, e2, List.length_cons]
    unfold mkN wgK
    omega
theorem fewN_ofL {l : List Bk} (h : ∀ q ∈ l, FitK q) (hm : totK l ≤ 1048576) : ∀ b ∈ l, FewK b := fun b hb => by
  have f := h b hb
  have m := totK_at l b hb
  unfold wgK at m
  exact ⟨by omega, by omega, by omega, by omega, by omega, f.qs, f.ws, f.ts, f.ns, f.ms, f.rs⟩
theorem OwnK.othL {S : Nat → Prop} {base : Nat} {w w' : World} {b : Bk} {v : Bv} (h : OwnK base w b v) (hO : Oth S w w') (hn : ∀ g, v.has g → ¬ S g) : OwnK base w' b v :=
  ⟨row_oth h.q hO (fun g e => hn g (.inl e)), row_oth h.p hO (fun g e => hn g (.inr (.inl e))), row_oth h.h hO (fun g e => hn g (.inr (.inr (.inl e)))), row_oth h.t hO (fun g e => hn g (.inr (.inr (.inr (.inl e))))), row_oth h.n hO (fun g e => hn g (.inr (.inr (.inr (.inr e)))))⟩
theorem OwnKs.othL {S : Nat → Prop} {base : Nat} {w w' : World} {v : Value} {l : List Bk} (h : OwnKs base w v l) (hO : Oth S w w') (hn : ∀ g, base ≤ g → g < w.heap.size → ¬ S g) : OwnKs base w' v l := by
  obtain ⟨g, cap, Z, hZ, rfl, hr, hk⟩ := h
  refine ⟨g, cap, Z, hZ, rfl, row_oth hr hO (fun x hx => ?_), ?_⟩
  · have := World.ownsRow.lt hr x hx
    exact hn x this.1 this.2
  · exact ⟨fun i hi => (hk.own i hi).othL hO (fun x hx => by have := (hk.own i hi).in9 x hx; exact hn x this.1 this.2), hk.far, hk.inner, hk.apart⟩
/-- The first n blocks of a world. -/
def cutW (w : World) (n : Nat) : World := { w with heap := w.heap.extract 0 n }
theorem cutW_size {w : World} {n : Nat} (h : n ≤ w.heap.size) : (cutW w n).heap.size = n := by
  show (w.heap.extract 0 n).size = n
  rw [Array.size_extract]
  omega
theorem cutW_below {w : World} {n : Nat} (h : n ≤ w.heap.size) : Below (cutW w n).heap.size (cutW w n) w := by
  refine ⟨rfl, rfl, rfl, by rw [cutW_size h]; exact h, fun k hk => ?_⟩
  rw [cutW_size h] at hk
  show w.heap[k]? = (w.heap.extract 0 n)[k]?
  rw [Array.getElem?_extract]
  simp
  intro h9
  omega
/-- Marks into blocks that were made while the world had no more than w8's, where since then only older ones have changed. -/
theorem markKs_any (v : Value) (l : List Bk) (k base : Nat) (hl : l.length ≤ 10000000) (hl1 : ∀ b ∈ l, b.qw.length ≤ 4000000 ∧ b.tw.length ≤ 4000000 ∧ b.th.length ≤ 4000000 ∧ b.ts.length ≤ 4000000 ∧ b.nx.length ≤ 4000000) (hk : k + totM l ≤ 80000000) (hk0 : 0 < k)
    (w8 w : World) (ho : OwnKs base w8 v l) (hO : Oth (fun x => x < base) w8 w) :
    Calls Tryz.prog 13 #[v, .int .i64 (k : Int)] w fun e w' => e = .returned (.int .i64 ((k + totM l : Nat) : Int)) ∧ Btw base w8.heap.size w w' := by
  have hs := hO.size
  have hc := cutW_size hs
  have hOc : Oth (fun x => x < base) w8 (cutW w w8.heap.size) := by
    refine ⟨hO.os, hO.tape, hO.output, by rw [hc]; exact Nat.le_refl _, fun i hi hn => ?_⟩
    rw [← hO.block i hi hn]
    exact ((cutW_below hs).block i (by rw [hc]; exact hi)).symm
  refine (markBlockS_any v l k base (cutW w w8.heap.size) w (ho.othL hOc (fun g h _ h2 => by omega)) (cutW_below hs) hl hl1 hk hk0).mono ?_
  rintro e w' ⟨h1, -, h3⟩
  refine ⟨h1, h3.os, h3.tape, h3.output, h3.size, fun i hi ho => h3.block i hi (fun h => ?_)⟩
  rw [hc] at h
  omega
open Classical in
set_option maxRecDepth 20000 in
set_option maxHeartbeats 4000000 in
theorem fnExactLedgerAt_walk (a0 : Int) (y0 : Value) (z0 : List Ac) (a1 : Option Addr) (len1 cap1 : Nat) (z1 : List Bk) (a2 : Int) (w : World) (hgh : Gh w) (w0 : RdA w y0 z0 ∧ z0.length ≤ maxLen ∧ ∀ q ∈ z0, q.1.size ≤ maxLen ∧ q.2.2.2.2.length ≤ maxLen) (w1x : len1 = z1.length ∧ RdKs w (.slice a1 len1 cap1) z1 ∧ z1.length ≤ maxLen ∧ ∀ q ∈ z1, FitK q) (w2x : (Lit.int .i64 a2).wf = true) :
    Calls Tryz.prog 3 #[lgV a0 y0, .slice a1 len1 cap1, .int .i64 a2] w fun e w' => e = .returned (.bool true) ∧ Below w.heap.size w w' := by
  obtain ⟨hr, hlm, hsm⟩ := w0
  obtain ⟨rfl, hrt, hlt, hst⟩ := w1x
  obtain ⟨av, cv, rfl⟩ := hr.shape
  have hlm' : z0.length ≤ 9223372036854775807 := by unfold maxLen at hlm; omega
  have hsm' : ∀ a ∈ z0, a.1.size ≤ 9223372036854775807 ∧ a.2.2.2.2.length ≤ 9223372036854775807 := fun a ha => by have := hsm a ha; unfold maxLen at this; omega
  obtain ⟨w1, hw1⟩ : ∃ w1, w.alloc (.cells #[.int .i64 a0, .slice av z0.length cv] 24) = w1 := ⟨_, rfl⟩
  have hb1 : Below w.heap.size w w1 := by rw [← hw1]; exact (Below.refl _ w).alloc (Nat.le_refl _) _
  have k1 : Blk w1 w.heap.size 24 [.int .i64 a0, .slice av z0.length cv] := by rw [← hw1]; exact Blk.new w _ _
  have Hz := hide (szLedger_any a0 _ z0 1048576 w1 (hr.below hb1 (Nat.le_refl _)) (by omega) hlm' hsm')
  have Hr := hide hr
  have Hrt := hide hrt
  have Hsm := hide hsm
  have Hst := hide hst
  have Hgh := hide hgh
  have l1 : w1.heap.size = w.heap.size + 1 := by rw [← hw1]; simp
  have c0 := k1.cell 0
  have c1 := k1.cell 1
  simp only [List.getElem?_cons_zero, List.getElem?_cons_succ] at c0 c1
  simp only [lgV] at *
  have Hlt := hide hlt
  clear hr hsm hsm' hlm hgh hrt hst hlt w2x
  go_enter Tryz.func3, Tryz.ntmps3
  go_wp2_with fail
  refine Hz.out.mono ?_
  rintro e w2a ⟨r, rfl, hfit, hb2a⟩
  have hB2a : Below w.heap.size w w2a := hb1.trans (hb2a.mono hb1.size)
  have k2 := k1.below hb2a k1.lt
  clear c0 c1 k1
  by_cases hneg : r < 0
  · clear hfit
    go_wp2
    go_ret
    exact ⟨rfl, hB2a⟩
  have hrm := hfit (by omega)
  obtain ⟨rn, hrn⟩ : ∃ n : Nat, r = (n : Int) := ⟨r.toNat, by omega⟩
  subst hrn
  have Hzt := hide (szBlockSN_any _ z1 rn w2a (Hrt.out.below hB2a (Nat.le_refl _)) (by omega) Hlt.out Hst.out)
  clear hfit
  go_wp2_with fail
  refine Hzt.out.mono ?_
  rintro e w2 ⟨r2, rfl, hfit, hb2⟩
  have hB2 : Below w.heap.size w w2 := hB2a.trans (hb2.mono hB2a.size)
  replace k2 := k2.below hb2 k2.lt
  clear Hzt
  by_cases hneg2 : r2 < 0
  · clear hfit
    go_wp2
    go_ret
    exact ⟨rfl, hB2⟩
  · have hl := hrm
    have hfk := hfit (by omega)
    have hl1 : z1.length ≤ 1048576 := by omega
    have hlk : totK z1 ≤ 1048576 := by omega
    have hfew := fewN_ofL Hst.out hlk
    have htr := trS_of Hst.out
    have htm := totM_sumL z1
    have hl4 : z0.length ≤ 4000000 := by omega
    have hlv : ∀ a ∈ z0, a.2.2.2.2.length ≤ 4000000 := fun a ha => by have h1 := totA_at z0 a ha; unfold wgA at h1; omega
    have hnl3 : ∀ a ∈ z0, a.1.size ≤ maxLen ∧ a.2.2.2.2.length ≤ 3999999 := fun a ha => ⟨(Hsm.out a ha).1, by have h1 := totA_at z0 a ha; unfold wgA at h1; omega⟩
    have hnz : nxs 1 z0 + totM z1 ≤ 80000000 := by have := nxs_tot 1 z0; omega
    have HS := hide (fun v vt w hr hrt => specLedgerAt_any a0 v vt z0 z1 a2 w hr hrt (by omega) hnl3 (by omega) hfew htr)
    have HI := hide (fun v vt w (hgw : Gh w) hr hrt => implLedgerAt_any a0 v vt z0 z1 a2 w hgw hr hrt (by omega) hnl3 (by omega) hfew htr)
    have HT := hide (fun v w hr => toLedger_any a0 v z0 w hr hl4 hlv)
    have HE := hide (fun v1 v2 w h1 h2 => eqLedger_any a0 a0 v1 v2 z0 z0 w h1 h2 hl4 hl4 hlv hlv)
    have HX := hide (fun v w hr => toBlockS_any v z1 w hr (by omega) hfew)
    have HEX := hide (fun v1 v2 w h1 h2 => eqBlockS_any v1 v2 z1 w h1 h2 (by omega) hfew)
    have hP : (laA a0 z0 z1 a2).1.length ≤ 4000000 ∧ (∀ a ∈ (laA a0 z0 z1 a2).1, a.2.2.2.2.length ≤ 4000000) ∧ nxs 1 (laA a0 z0 z1 a2).1 ≤ 90000000 := by
      rcases laA_is a0 z0 z1 a2 with h | h
      · have h' : (laA a0 z0 z1 a2).1 = z0 := h
        rw [h']; exact ⟨hl4, hlv, by omega⟩
      · have h' : acsB (laA a0 z0 z1 a2).1 = true := h
        have h1 := acs_len' h'
        have h2 := acs_four h'
        have h3 := nxs_four 1 _ h2
        exact ⟨by omega, fun a ha => by have := h2 a ha; omega, by omega⟩
    generalize (laA a0 z0 z1 a2).1 = P at HS HI hP
    generalize (laA a0 z0 z1 a2).2 = C at HS HI
    obtain ⟨hP4, hPlv, hPn⟩ := hP
    have HEP := hide (fun v1 v2 w h1 h2 => eqLedger_any a0 a0 v1 v2 P P w h1 h2 hP4 hP4 hPlv hPlv)
    rw [decide_eq_true rfl, decide_eq_true rfl, Bool.true_and] at HE HEP
    have HM := hide (fun v base hi w ho => markLedger_any a0 v z0 1 base hi w ho (by omega) (fun a ha => by have := hlv a ha; omega) (by omega) (by omega))
    have hkz0 : 0 < nxs 1 z0 := nxs_ge 1 z0
    have HMX := hide (fun v base V0 w ho hh => markKs_any v z1 (nxs 1 z0) base (by omega) (fun b hb => ⟨(hfew b hb).q, (hfew b hb).w, (hfew b hb).h, (hfew b hb).t, (hfew b hb).n⟩) hnz hkz0 V0 w ho hh)
    have HMP := hide (fun v base hi w ho => markLedger_any a0 v P 1 base hi w ho (by omega) (fun a ha => by have := hPlv a ha; omega) hPn (by omega))
    have HH := hide (fun v w hr => heldLedger_any a0 v P 1 w hr (by omega) (fun a ha => by have := hPlv a ha; omega) hPn (by omega))
    have hkx : ¬ ((nxs 1 z0 + totM z1 : Nat) : Int) < 0 := by omega
    have hkP : ¬ ((nxs 1 P : Nat) : Int) < 0 := by omega
    generalize nxs 1 z0 + totM z1 = kx at HMX hkx
    generalize nxs 1 z0 = kz at HM HMX
    generalize nxs 1 P = kP at HMP HH hkP
    simp only [lgV] at HS HI HT HE HEP HM HMP HH
    have HL := hide (fun w v (h : RdA w v P) => h.shape)
    have HLT := hide (fun w v (h : RdKs w v z1) => h.shape)
    generalize P.length = pn at HL
    clear hfit hfk hlk hfew htr htm hl hl4 hlv hnl3 Hsm Hz hnz hP4 hPlv hPn Hst hkz0 hrm
    have c0 := k2.cell 0
    have c1 := k2.cell 1
    simp only [List.getElem?_cons_zero, List.getElem?_cons_succ] at c0 c1
    go_wp2_with fail
    refine (HT.out _ _ (Hr.out.below hB2 (Nat.le_refl _))).mono ?_
    rintro e wT5 ⟨vT5, rfl, oT5, hbT5⟩
    have hBT5 : Below w.heap.size w wT5 := hB2.trans (hbT5.mono hB2.size)
    obtain ⟨aT5, cT5, rfl⟩ := oT5.rd.shape
    clear c0 c1
    go_wp2_with fail
    refine (HX.out _ _ (Hrt.out.below hBT5 (Nat.le_refl _))).mono ?_
    rintro e wX5 ⟨vX5, rfl, oX5, hbX5⟩
    have hBX5 : Below w.heap.size w wX5 := hBT5.trans (hbX5.mono hBT5.size)
    have oT5 := oT5.below hbX5 (Nat.le_refl _)
    obtain ⟨aX5, cX5, rfl⟩ := oX5.rd.shape
    have hbWX5 : Below w2.heap.size w2 wX5 := hbT5.trans (hbX5.mono hbT5.size)
    go_wp2_with fail
    refine (HS.out _ _ _ oT5.rd oX5.rd).mono ?_
    rintro e wA5 ⟨vA5, rfl, oA5, hbA5⟩
    have x5 := oA5.ox
    obtain ⟨a5, c5, hv5⟩ := HL.out _ _ x5.rd
    subst hv5
    obtain ⟨w5, hw5⟩ : ∃ x, wA5.alloc (.cells #[.int .i64 a0, .slice a5 pn c5] 30) = x := ⟨_, rfl⟩
    have hbz5 : Below wA5.heap.size wA5 w5 := by rw [← hw5]; exact (Below.refl _ wA5).alloc (Nat.le_refl _) _
    have b5 : Blk w5 wA5.heap.size 30 [.int .i64 a0, .slice a5 pn c5] := by rw [← hw5]; exact Blk.new wA5 _ _
    replace x5 := x5.below hbz5 (Nat.le_refl _)
    have hba5 := hbA5.trans (hbz5.mono hbA5.size)
    have hzA5 := hbA5.size
    have hb5 : Below w2.heap.size w2 w5 := hbWX5.trans (hba5.mono hbWX5.size)
    clear oA5
    clear oT5 oX5
    have hB5 : Below w.heap.size w w5 := hB2.trans (hb5.mono hB2.size)
    have hb5lt := b5.lt
    replace k2 := k2.below hb5 k2.lt
    have c0 := k2.cell 0
    have c1 := k2.cell 1
    simp only [List.getElem?_cons_zero, List.getElem?_cons_succ] at c0 c1
    go_wp2_with fail
    refine (HT.out _ _ (Hr.out.below hB5 (Nat.le_refl _))).mono ?_
    rintro e w6 ⟨v6, rfl, o6, hb6⟩
    have hB6 : Below w.heap.size w w6 := hB5.trans (hb6.mono hB5.size)
    replace k2 := k2.below hb6 k2.lt
    replace b5 := b5.below hb6 b5.lt
    replace x5 := x5.below hb6 (Nat.le_refl _)
    have x6 := o6.ox
    clear o6 c0 c1
    obtain ⟨a6, cv6, rfl⟩ := x6.rd.shape
    obtain ⟨w7, hw7⟩ : ∃ w7, w6.alloc (.cells #[.int .i64 a0, .slice a6 z0.length cv6] 30) = w7 := ⟨_, rfl⟩
    have hb7 : Below w6.heap.size w6 w7 := by rw [← hw7]; exact (Below.refl _ w6).alloc (Nat.le_refl _) _
    have b7 : Blk w7 w6.heap.size 30 [.int .i64 a0, .slice a6 z0.length cv6] := by rw [← hw7]; exact Blk.new w6 _ _
    have l7 : w7.heap.size = w6.heap.size + 1 := by rw [← hw7]; simp
    have hB7 : Below w.heap.size w w7 := hB6.trans (hb7.mono hB6.size)
    replace k2 := k2.below hb7 k2.lt
    replace b5 := b5.below hb7 b5.lt
    replace x5 := x5.below hb7 (Nat.le_refl _)
    replace x6 := x6.below hb7 (Nat.le_refl _)
    have L7 := hide l7
    clear l7
    go_wp2_with fail
    refine (HX.out _ _ (Hrt.out.below hB7 (Nat.le_refl _))).mono ?_
    rintro e w8 ⟨v8, rfl, o8, hb8⟩
    have hB8 : Below w.heap.size w w8 := hB7.trans (hb8.mono hB7.size)
    replace k2 := k2.below hb8 k2.lt
    replace b5 := b5.below hb8 b5.lt
    replace b7 := b7.below hb8 b7.lt
    replace x5 := x5.below hb8 (Nat.le_refl _)
    replace x6 := x6.below hb8 (Nat.le_refl _)
    obtain ⟨a8, cv8, rfl⟩ := o8.rd.shape
    have O8 := hide o8
    have c0 := b7.cell 0
    have c1 := b7.cell 1
    simp only [List.getElem?_cons_zero, List.getElem?_cons_succ] at c0 c1
    go_wp2_with fail
    refine (HI.out _ _ _ (Hgh.out.below hB8) x6.rd o8.rd).mono ?_
    rintro e wA9 ⟨vA9, rfl, oA9, hbA9⟩
    have x9 := oA9.ox
    obtain ⟨a9, c9, hv9⟩ := HL.out _ _ x9.rd
    subst hv9
    obtain ⟨w9, hw9⟩ : ∃ x, wA9.alloc (.cells #[.int .i64 a0, .slice a9 pn c9] 30) = x := ⟨_, rfl⟩
    have hbz9 : Below wA9.heap.size wA9 w9 := by rw [← hw9]; exact (Below.refl _ wA9).alloc (Nat.le_refl _) _
    have b9 : Blk w9 wA9.heap.size 30 [.int .i64 a0, .slice a9 pn c9] := by rw [← hw9]; exact Blk.new wA9 _ _
    replace x9 := x9.below hbz9 (Nat.le_refl _)
    have hba9 := hbA9.trans (hbz9.mono hbA9.size)
    have hzA9 := hbA9.size
    have hb9 : Below w8.heap.size w8 w9 := hba9
    clear oA9
    clear c0 c1
    have l7 := L7.out
    have O89 := hide hb9
    have hB9 : Below w.heap.size w w9 := hB8.trans (hb9.mono hB8.size)
    replace k2 := k2.below hb9 k2.lt
    replace b5 := b5.below hb9 b5.lt
    replace b7 := b7.below hb9 b7.lt
    replace x5 := x5.below hb9 (Nat.le_refl _)
    replace x6 := x6.below hb9 (Nat.le_refl _)
    replace o8 := o8.below hb9 (Nat.le_refl _)
    have c0 := b9.cell 0
    have c1 := b9.cell 1
    simp only [List.getElem?_cons_zero, List.getElem?_cons_succ] at c0 c1
    have d0 := b5.cell 0
    have d1 := b5.cell 1
    simp only [List.getElem?_cons_zero, List.getElem?_cons_succ] at d0 d1
    go_wp2_with fail
    refine (HEP.out _ _ _ x9.rd x5.rd).mono ?_
    rintro e w10 ⟨rfl, hb10⟩
    have hB10 : Below w.heap.size w w10 := hB9.trans (hb10.mono hB9.size)
    replace k2 := k2.below hb10 k2.lt
    replace b5 := b5.below hb10 b5.lt
    replace b7 := b7.below hb10 b7.lt
    replace b9 := b9.below hb10 b9.lt
    replace x5 := x5.below hb10 (Nat.le_refl _)
    replace x6 := x6.below hb10 (Nat.le_refl _)
    replace o8 := o8.below hb10 (Nat.le_refl _)
    replace x9 := x9.below hb10 (Nat.le_refl _)
    clear c0 c1 d0 d1
    have hd10 : Below w10.heap.size w10 w10.drew := (Below.refl _ w10).drew
    have hB10d : Below w.heap.size w w10.drew := hB10.drew
    replace k2 := k2.below hd10 k2.lt
    replace b5 := b5.below hd10 b5.lt
    replace b7 := b7.below hd10 b7.lt
    replace b9 := b9.below hd10 b9.lt
    replace x5 := x5.below hd10 (Nat.le_refl _)
    replace x6 := x6.below hd10 (Nat.le_refl _)
    replace o8 := o8.below hd10 (Nat.le_refl _)
    replace x9 := x9.below hd10 (Nat.le_refl _)
    have HSx : Hid (∀ W, Blk W w.heap.size 24 [.int .i64 a0, .slice av z0.length cv] → Blk W w6.heap.size 30 [.int .i64 a0, .slice a6 z0.length cv6] → (W.cell? ⟨w.heap.size, 0, none⟩ = some (.int .i64 a0) ∧ W.cell? ⟨w.heap.size, 1, none⟩ = some (.slice av z0.length cv) ∧ W.cell? ⟨w6.heap.size, 0, none⟩ = some (.int .i64 a0) ∧ W.cell? ⟨w6.heap.size, 1, none⟩ = some (.slice a6 z0.length cv6))) := hide (fun W h1 h2 => ⟨h1.cell 0, h1.cell 1, h2.cell 0, h2.cell 1⟩)
    have hS10 := HSx.out _ k2 b7
    have Kk := hide k2
    have Kb := hide b7
    have Kx := hide x6
    clear k2 b7 x6
    go_wp2
    go_region_held_law (fun w' => w'.cell? ⟨w.heap.size, 0, none⟩ = some (.int .i64 a0) ∧ w'.cell? ⟨w.heap.size, 1, none⟩ = some (.slice av z0.length cv) ∧ w'.cell? ⟨w6.heap.size, 0, none⟩ = some (.int .i64 a0) ∧ w'.cell? ⟨w6.heap.size, 1, none⟩ = some (.slice a6 z0.length cv6)) (first | with_reducible exact hS10 | with_reducible exact hS11 | with_reducible exact hS12) ((first
      | (go_at_call 10; refine (HE.out _ _ _ (Kx.out.below hb11 (Nat.le_refl _)).rd o11.rd).mono ?_; rintro e w12 ⟨rfl, hb12⟩; have hS12 := HSx.out _ ((Kk.out.below hb11 Kk.out.lt).below hb12 (Kk.out.below hb11 Kk.out.lt).lt) ((Kb.out.below hb11 Kb.out.lt).below hb12 (Kb.out.below hb11 Kb.out.lt).lt))
      | (go_at_call 7; refine (HT.out _ _ (Hr.out.below hB10d (Nat.le_refl _))).mono ?_; rintro e w11 ⟨v11, rfl, o11, hb11⟩; have hsh := o11.rd.shape; obtain ⟨a11, cv11, hv11⟩ := hsh; subst hv11; have hS11 := HSx.out _ (Kk.out.below hb11 Kk.out.lt) (Kb.out.below hb11 Kb.out.lt))))
    have k2 := Kk.out
    have b7 := Kb.out
    have x6 := Kx.out
    have hB11 : Below w.heap.size w w11 := hB10d.trans (hb11.mono hB10.size)
    replace k2 := k2.below hb11 k2.lt
    replace b5 := b5.below hb11 b5.lt
    replace b7 := b7.below hb11 b7.lt
    replace b9 := b9.below hb11 b9.lt
    replace x5 := x5.below hb11 (Nat.le_refl _)
    replace x6 := x6.below hb11 (Nat.le_refl _)
    replace o8 := o8.below hb11 (Nat.le_refl _)
    replace x9 := x9.below hb11 (Nat.le_refl _)
    have hB12 : Below w.heap.size w w12 := hB11.trans (hb12.mono hB11.size)
    replace k2 := k2.below hb12 k2.lt
    replace b5 := b5.below hb12 b5.lt
    replace b7 := b7.below hb12 b7.lt
    replace b9 := b9.below hb12 b9.lt
    replace x5 := x5.below hb12 (Nat.le_refl _)
    replace x6 := x6.below hb12 (Nat.le_refl _)
    replace o8 := o8.below hb12 (Nat.le_refl _)
    replace x9 := x9.below hb12 (Nat.le_refl _)
    clear hS10 hS11 hS12 o11 HSx Kk Kb Kx
    go_wp2_with fail
    refine (HX.out _ _ (Hrt.out.below hB12 (Nat.le_refl _))).mono ?_
    rintro e w12a ⟨v12a, rfl, o12a, hb12a⟩
    have hB12a : Below w.heap.size w w12a := hB12.trans (hb12a.mono hB12.size)
    replace k2 := k2.below hb12a k2.lt
    replace b5 := b5.below hb12a b5.lt
    replace b7 := b7.below hb12a b7.lt
    replace b9 := b9.below hb12a b9.lt
    replace x5 := x5.below hb12a (Nat.le_refl _)
    replace x6 := x6.below hb12a (Nat.le_refl _)
    replace o8 := o8.below hb12a (Nat.le_refl _)
    replace x9 := x9.below hb12a (Nat.le_refl _)
    obtain ⟨a12a, cv12a, rfl⟩ := o12a.rd.shape
    go_wp2_with fail
    refine (HEX.out _ _ _ o8.rd o12a.rd).mono ?_
    rintro e w12b ⟨rfl, hb12b⟩
    have hB12b : Below w.heap.size w w12b := hB12a.trans (hb12b.mono hB12a.size)
    replace k2 := k2.below hb12b k2.lt
    replace b5 := b5.below hb12b b5.lt
    replace b7 := b7.below hb12b b7.lt
    replace b9 := b9.below hb12b b9.lt
    replace x5 := x5.below hb12b (Nat.le_refl _)
    replace x6 := x6.below hb12b (Nat.le_refl _)
    replace o8 := o8.below hb12b (Nat.le_refl _)
    replace x9 := x9.below hb12b (Nat.le_refl _)
    clear o12a
    have c0 := b7.cell 0
    have c1 := b7.cell 1
    simp only [List.getElem?_cons_zero, List.getElem?_cons_succ] at c0 c1
    have hz2 := hB2.size
    have hz5 := hB5.size
    have hz6 := hb6.size
    have hz8 := hb8.size
    have hk2 : w.heap.size < w2.heap.size := by have := hb2.size; have := hb2a.size; omega
    have hz25 := hb5.size
    go_wp2_with fail
    refine (HM.out _ _ _ _ x6).mono ?_
    rintro e w13 ⟨rfl, -, ht13⟩
    have hB13 : Below w.heap.size w w13 := hB12b.trans (ht13.below (by omega) hB12b.size)
    clear c0 c1 x6
    replace k2 := k2.btw ht13 (.inl (by omega))
    replace b5 := b5.btw ht13 (.inl (by omega))
    replace b9 := b9.btw ht13 (.inr (by omega))
    replace x5 := x5.btw ht13 (.inl (by omega))
    replace x9 := x9.btw ht13 (.inr (by omega))
    clear b7
    have B10 := O89.out.trans (hb10.mono O89.out.size)
    have B10d := B10.trans (hd10.mono B10.size)
    have B11 := B10d.trans (hb11.mono B10d.size)
    have B12 := B11.trans (hb12.mono B11.size)
    have B12a := B12.trans (hb12a.mono B12.size)
    have B12b := B12a.trans (hb12b.mono B12a.size)
    have OT : Hid (Oth (fun x => x < w7.heap.size) w8 w13) := hide ⟨ht13.os.trans B12b.os, ht13.tape.trans B12b.tape, ht13.output.trans B12b.output, Nat.le_trans B12b.size ht13.size, fun i hi hn => (ht13.block i (by have := B12b.size; omega) (.inr (by omega))).trans (B12b.block i hi)⟩
    clear B10 B10d B11 B12 B12a B12b o8
    go_wp2_with fail
    refine (HMX.out _ w7.heap.size w8 _ O8.out OT.out).mono ?_
    rintro e w13a ⟨rfl, ht13a⟩
    have hB13a : Below w.heap.size w w13a := hB13.trans (ht13a.below (by omega) hB13.size)
    replace k2 := k2.btw ht13a (.inl (by omega))
    replace b5 := b5.btw ht13a (.inl (by omega))
    replace b9 := b9.btw ht13a (.inr (by omega))
    replace x5 := x5.btw ht13a (.inl (by omega))
    replace x9 := x9.btw ht13a (.inr (by omega))
    have c0 := b9.cell 0
    have c1 := b9.cell 1
    simp only [List.getElem?_cons_zero, List.getElem?_cons_succ] at c0 c1
    have d0 := b5.cell 0
    have d1 := b5.cell 1
    simp only [List.getElem?_cons_zero, List.getElem?_cons_succ] at d0 d1
    go_wp2_with fail
    refine (HEP.out _ _ _ x9.rd x5.rd).mono ?_
    rintro e w14 ⟨rfl, hb14⟩
    have hB14 : Below w.heap.size w w14 := hB13a.trans (hb14.mono hB13a.size)
    replace k2 := k2.below hb14 k2.lt
    replace b5 := b5.below hb14 b5.lt
    replace b9 := b9.below hb14 b9.lt
    replace x5 := x5.below hb14 (Nat.le_refl _)
    replace x9 := x9.below hb14 (Nat.le_refl _)
    clear c0 c1 d0 d1
    have c0 := b9.cell 0
    have c1 := b9.cell 1
    simp only [List.getElem?_cons_zero, List.getElem?_cons_succ] at c0 c1
    go_wp2_with fail
    refine (HMP.out _ _ _ _ x9).mono ?_
    rintro e w15 ⟨rfl, y9, ht15⟩
    have hB15 : Below w.heap.size w w15 := hB14.trans (ht15.below (by omega) hB14.size)
    clear c0 c1 x9
    replace k2 := k2.btw ht15 (.inl (by omega))
    replace b5 := b5.btw ht15 (.inl (by omega))
    replace b9 := b9.btw ht15 (.inr (Nat.le_refl _))
    replace x5 := x5.btw ht15 (.inl (by omega))
    have c0 := b9.cell 0
    have c1 := b9.cell 1
    simp only [List.getElem?_cons_zero, List.getElem?_cons_succ] at c0 c1
    go_wp2_with fail
    refine (HH.out _ _ y9.rd).mono ?_
    rintro e w16 ⟨rfl, hb16⟩
    have hB16 : Below w.heap.size w w16 := hB15.trans (hb16.mono hB15.size)
    replace k2 := k2.below hb16 k2.lt
    replace b5 := b5.below hb16 b5.lt
    replace b9 := b9.below hb16 b9.lt
    replace x5 := x5.below hb16 (Nat.le_refl _)
    replace y9 := y9.below hb16 (Nat.le_refl _)
    clear c0 c1
    have c0 := k2.cell 0
    have c1 := k2.cell 1
    simp only [List.getElem?_cons_zero, List.getElem?_cons_succ] at c0 c1
    go_wp2_with fail
    refine (HT.out _ _ (Hr.out.below hB16 (Nat.le_refl _))).mono ?_
    rintro e wT19 ⟨vT19, rfl, oT19, hbT19⟩
    have hBT19 : Below w.heap.size w wT19 := hB16.trans (hbT19.mono hB16.size)
    obtain ⟨aT19, cT19, rfl⟩ := oT19.rd.shape
    clear c0 c1
    go_wp2_with fail
    refine (HX.out _ _ (Hrt.out.below hBT19 (Nat.le_refl _))).mono ?_
    rintro e wX19 ⟨vX19, rfl, oX19, hbX19⟩
    have hBX19 : Below w.heap.size w wX19 := hBT19.trans (hbX19.mono hBT19.size)
    have oT19 := oT19.below hbX19 (Nat.le_refl _)
    obtain ⟨aX19, cX19, rfl⟩ := oX19.rd.shape
    have hbWX19 : Below w16.heap.size w16 wX19 := hbT19.trans (hbX19.mono hbT19.size)
    go_wp2_with fail
    refine (HI.out _ _ _ (Hgh.out.below hBX19) oT19.rd oX19.rd).mono ?_
    rintro e wA19 ⟨vA19, rfl, oA19, hbA19⟩
    have x19 := oA19.ox
    obtain ⟨a19, c19, hv19⟩ := HL.out _ _ x19.rd
    subst hv19
    obtain ⟨w19, hw19⟩ : ∃ x, wA19.alloc (.cells #[.int .i64 a0, .slice a19 pn c19] 30) = x := ⟨_, rfl⟩
    have hbz19 : Below wA19.heap.size wA19 w19 := by rw [← hw19]; exact (Below.refl _ wA19).alloc (Nat.le_refl _) _
    have b19 : Blk w19 wA19.heap.size 30 [.int .i64 a0, .slice a19 pn c19] := by rw [← hw19]; exact Blk.new wA19 _ _
    replace x19 := x19.below hbz19 (Nat.le_refl _)
    have hba19 := hbA19.trans (hbz19.mono hbA19.size)
    have hzA19 := hbA19.size
    have hb19 : Below w16.heap.size w16 w19 := hbWX19.trans (hba19.mono hbWX19.size)
    clear oA19
    clear oT19 oX19
    have hB19 : Below w.heap.size w w19 := hB16.trans (hb19.mono hB16.size)
    replace b5 := b5.below hb19 b5.lt
    replace b9 := b9.below hb19 b9.lt
    replace x5 := x5.below hb19 (Nat.le_refl _)
    replace y9 := y9.below hb19 (Nat.le_refl _)
    have c0 := b19.cell 0
    have c1 := b19.cell 1
    simp only [List.getElem?_cons_zero, List.getElem?_cons_succ] at c0 c1
    have d0 := b5.cell 0
    have d1 := b5.cell 1
    simp only [List.getElem?_cons_zero, List.getElem?_cons_succ] at d0 d1
    go_wp2_with fail
    refine (HEP.out _ _ _ x19.rd x5.rd).mono ?_
    rintro e w20 ⟨rfl, hb20⟩
    have hB20 : Below w.heap.size w w20 := hB19.trans (hb20.mono hB19.size)
    replace b5 := b5.below hb20 b5.lt
    replace b9 := b9.below hb20 b9.lt
    replace x5 := x5.below hb20 (Nat.le_refl _)
    replace y9 := y9.below hb20 (Nat.le_refl _)
    clear c0 c1 d0 d1
    have c0 := b9.cell 0
    have c1 := b9.cell 1
    simp only [List.getElem?_cons_zero, List.getElem?_cons_succ] at c0 c1
    go_wp2_with fail
    refine (HH.out _ _ y9.rd).mono ?_
    rintro e w21 ⟨rfl, hb21⟩
    have hB21 : Below w.heap.size w w21 := hB20.trans (hb21.mono hB20.size)
    go_wp2
    go_ret
    exact ⟨rfl, hB21⟩

theorem fnExactLedgerAt_met (os : Os) (args : Array Value) : laidMetH Tryz.prog Rows.fnExactLedgerAtRow.laid ((laidOn (World.holding Tryz.prog os ⟨#[], #[], []⟩)).forCall (fun _ _ => 0) ⟨#[], args, []⟩).memory :=
  laidMetH_of_parts (laidMet_nil _ _) (by kernel_rfl)
theorem fnExactLedgerAt_gh {W : World} (h : laidMetH Tryz.prog Rows.fnExactLedgerAtRow.laid W) : Gh W := by
  have h' : laidMet Tryz.prog [] W ∧ handlesMet Tryz.prog Rows.fnExactLedgerAtRow.laid W := h
  exact gh_of_handles h'.2

set_option maxRecDepth 100000 in
theorem fnExactLedgerAt_lifted (os : Os) (started : os.Started) (H : Type) (enc : TypeId × Value → H) :
    ReturnsInHanded {} Tryz.checked os 3 .any (fun w args => (Rows.fnExactLedgerAtSpec.pre enc Tryz.prog Tryz.f3 [] false w args ∧ laidMetH Tryz.prog Rows.fnExactLedgerAtRow.laid w) ∧ sizedMet enc Tryz.prog Tryz.f3 (OpenSpec.ofChange Rows.fnExactLedgerAtSpec) false w args)
      (Rows.fnExactLedgerAtSpec.post enc Tryz.prog Tryz.f3 false true false false) := by
  refine returnsInHanded_of_change_and (C := Tryz.checked) (X := fun w _ => laidMetH Tryz.prog Rows.fnExactLedgerAtRow.laid w) (fun _ _ _ hh h => h.of_heap hh) fnExactLedgerAt_own started (by kernel_rfl) Tryz.func3
    (ChangeSpec.witness_at (enc := enc) (C := Tryz.checked) (os := os) (X := fun w _ => laidMetH Tryz.prog Rows.fnExactLedgerAtRow.laid w) false (laidOn (World.holding Tryz.prog os ⟨#[], #[], []⟩)) #[.agg #[.int .i64 0, .slice none 0 0], .slice none 0 0, .int .i64 0] 8 rfl (by kernel_rfl) (by kernel_rfl) (by kernel_rfl) (by kernel_rfl) (by kernel_rfl) (fnExactLedgerAt_met os _)) ?_
  intro W base args ds gs before hval0 hW _ _ hL _
  have hval : ∀ (j : Nat) t v, Tryz.f3.params[j]? = some t → args[j]? = some v → Value.okWide Tryz.prog W .any base t v := hval0
  have hW' := hW
  obtain ⟨p, q, hA0, hV0, rfl, hfz, hnd⟩ := hW
  have hV : DataW.TrodVars enc Tryz.prog W (fun _ => true) [] gs q := hV0
  obtain ⟨rfl, rfl⟩ : gs = [] ∧ q = [] := by
    cases gs with
    | nil => exact ⟨rfl, hV⟩
    | cons g r => exact absurd hV (by intro h; cases h)
  have hA : DataW.TrodAll enc Tryz.prog W 0 (fun _ => true) true Tryz.f3.params.toList args.toList ds p := hA0
  rw [Tryz.params3] at hA hval
  obtain ⟨v0, vs0, d0, ds0, p0, q0, hargs, rfl, rfl, h0, r0⟩ := trodAll_cons hA
  obtain ⟨v1, vs1, d1, ds1, p1, q1, rfl, rfl, rfl, h1, r1⟩ := trodAll_cons r0
  obtain ⟨v2, vs2, d2, ds2, p2, q2, rfl, rfl, rfl, h2, r2⟩ := trodAll_cons r1
  obtain ⟨rfl, rfl, rfl⟩ := trodAll_nil r2
  obtain rfl : args = #[v0, v1, v2] := by cases args; simp_all
  have k0 := h0
  have lt0 : ∀ x ∈ p0, x.block < W.heap.size := by obtain ⟨m, hm⟩ := k0; exact DataW.trod_lt m _ _ _ hm
  obtain ⟨a0, y0, z0, rfl, w0⟩ : ∃ (e : Int) (v : Value) (l : List Ac), v0 = lgV e v ∧ RdA W v l ∧ l.length ≤ maxLen ∧ ∀ q ∈ l, q.1.size ≤ maxLen ∧ q.2.2.2.2.length ≤ maxLen := by
    obtain ⟨cs, rfl, hsz⟩ := okWide_struct Tryz.underlying24 (hval 0 24 _ rfl rfl)
    obtain ⟨fuel, hf⟩ := h0
    obtain ⟨e, v, l, q, r⟩ := open_ledger (by simpa [Value.cells] using hf)
    exact ⟨e, v, l, by cases cs; simp at q; subst q; rfl, r⟩
  have k1 := h1
  have lt1 : ∀ x ∈ p1, x.block < W.heap.size := by obtain ⟨m, hm⟩ := k1; exact DataW.trod_lt m _ _ _ hm
  obtain ⟨a1, len1, cap1, rfl⟩ := okWide_slice Tryz.underlying25 (hval 1 25 v1 rfl rfl)
  obtain ⟨z1, w1⟩ : ∃ l : List Bk, len1 = l.length ∧ RdKs W (.slice a1 len1 cap1) l ∧ l.length ≤ maxLen ∧ ∀ q ∈ l, FitK q := by
    obtain ⟨fuel, hf⟩ := h1
    exact open_blockS (by simpa [Value.cells] using hf)
  obtain ⟨a2, rfl, rfl, rfl, w2⟩ := open_int Tryz.underlying3 (hval 2 3 v2 rfl rfl) h2
  clear hA0 hval0
  refine (fnExactLedgerAt_walk a0 y0 z0 a1 len1 cap1 z1 a2 W (fnExactLedgerAt_gh hL) w0 w1 w2).mono fun e W' ⟨he, bel⟩ => ?_
  subst he
  exact ⟨_, rfl, _, _, _, [], _, [], hW', trodAll_mk1 (shut_bool Tryz.underlying4 _), (trodAll_cons_mk (Below.trod fnExactLedgerAt_laidOut (by kernel_rfl) (of_decide_eq_true (by kernel_rfl)) k0 bel lt0) (trodAll_cons_mk (Below.trod fnExactLedgerAt_laidOut (by kernel_rfl) (of_decide_eq_true (by kernel_rfl)) k1 bel lt1) (trodAll_cons_mk (shut_int Tryz.underlying3 w2) trodAll_mk0))), rfl, bel.frame _, fun h => by cases h⟩

theorem fnExactLedgerAt_holds : Rows.FnExactLedgerAtSaid :=
  OpenClaim.holds_of_wide 3 Tryz.f3 rfl rfl rfl rfl rfl rfl rfl ⟨rfl, rfl, rfl, rfl, rfl⟩ rfl rfl rfl rfl rfl (by kernel_rfl) Tryz.func3 (by kernel_rfl)
    (of_decide_eq_true (by kernel_rfl)) (by unfold Func.isWrapper; first | (rw [if_pos (by decide +kernel)]; kernel_rfl) | (rw [if_neg (by decide +kernel)]; exact ⟨rfl, rfl⟩))
    (fun os started H enc _ => fnExactLedgerAt_lifted os started H enc)

/-- The card: the variable is tied to the program's text by the given tie. -/
theorem fnExactLedgerAt_card : Rows.FnExactLedgerAtCardSaid :=
  Claim7.holds_tied_plain_at .later [] [.handle] true Rows.fnExactLedgerAtCard.stood.harness true
    fnExactLedgerAt_holds (fun _ h => by cases h) (by kernel_rfl) (fun _ h => by cases h) fnExactLedgerAt_row_tie rfl ⟨rfl, rfl⟩ (by kernel_rfl) rfl
    (fun f fn hf hfn => by
      obtain rfl : f = 3 := Option.some.inj ((show Tryz.prog.funcNamed Rows.fnExactLedgerAtRow.func = some 3 by kernel_rfl).symm.trans hf) |>.symm
      obtain rfl : fn = Tryz.f3 := (Option.some.inj (Tryz.func3.symm.trans hfn)).symm
      exact ⟨by kernel_rfl, fun j t ht => by
        rw [Tryz.params3] at ht
        have hm : t ∈ [24, 25, 3] := by simpa using Array.mem_of_getElem? ht
        have hall : ([24, 25, 3].all fun u => !Tryz.prog.wantsStandIn u) = true := by kernel_rfl
        exact (show Tryz.prog.wantsStandIn t = false by simpa using List.all_eq_true.1 hall t hm)⟩)
    (by kernel_rfl)

end Go.Proofs.YtggkonpboahdeaaGreatDoor
