/- A list of blocks held against its marks. -/
import Derived.Test.YtbjeonnaannofaaZdKsMark
import Derived.Lib.QuietBelow
import Derived.BigQuiet
namespace Go.Proofs.Ytbjeonnaannofaa
open Go.RowKit Go.Sort
set_option linter.unusedVariables false

theorem rdKs_parts {w : World} {a : Option Addr} {n cap : Nat} {M : List Bk} (h : RdKs w (.slice a n cap) M) (hp : 0 < M.length) : ∃ b off, a = some ⟨b, off, none⟩ ∧ b < w.heap.size ∧ ∀ i (hi : i < M.length), ∃ lv, BkAt w b (off + i * 14) M[i] lv ∧ RdK w M[i] lv := by
  rcases h with ⟨a', cap', hv, rfl, -⟩ | ⟨b, off, cap', h0, hv, h1, h2, h3, h4⟩
  · simp at hp
  · simp only [Value.slice.injEq] at hv
    exact ⟨b, off, hv.1, h3, h4⟩
theorem totM_snocH (l : List Bk) (k : Nat) (h : k < l.length) : totM (l.take (k + 1)) = totM (l.take k) + mkN l[k] := by
  unfold totM
  rw [List.take_succ_eq_append_getElem h, List.map_append, List.sum_append]
  simp
theorem totM_leH (l : List Bk) (k : Nat) (h : k < l.length) : totM (l.take k) + mkN l[k] ≤ totM l := by
  rw [← totM_snocH l k h]
  unfold totM
  have : (l.map mkN).sum = ((l.take (k + 1)).map mkN).sum + ((l.drop (k + 1)).map mkN).sum := by
    rw [← List.sum_append, ← List.map_append, List.take_append_drop]
  omega
set_option maxRecDepth 20000 in
set_option maxHeartbeats 4000000 in
theorem heldBlockS_any (v : Value) (l : List Bk) (k : Nat) (w : World) (hr : RdKs w v (mkLk k l)) (hl : l.length ≤ 10000000) (hl1 : ∀ b ∈ l, b.qw.length ≤ 4000000 ∧ b.tw.length ≤ 4000000 ∧ b.th.length ≤ 4000000 ∧ b.ts.length ≤ 4000000 ∧ b.nx.length ≤ 4000000) (hk : k + totM l ≤ 80000000) (hk0 : 0 < k) :
    Calls Try.prog 33 #[v, .int .i64 (k : Int)] w fun e w' => e = .returned (.int .i64 ((k + totM l : Nat) : Int)) ∧ Below w.heap.size w w' := by
  have hML := mkLk_len l k
  obtain ⟨a, cap, hv⟩ := hr.shape
  rw [hML] at hv
  subst hv
  have Hr := hide hr
  have Hl1 := hide hl1
  have HML := hide hML
  clear hr hl1 hML
  go_enter Try.func33, Try.ntmps33
  go_wp2
  go_loopw [1, 5] (fun kv iv wr => ∃ j : Nat, j ≤ l.length ∧ iv = .int .i64 (j : Int) ∧ kv = .int .i64 ((k + totM (l.take j) : Nat) : Int) ∧ Below w.heap.size w wr) (fun _ iv _ => l.length - (intOf iv).toNat)
  case atStart => exact ⟨0, Nat.zero_le _, rfl, rfl, Below.refl _ _⟩
  case round =>
    obtain ⟨j, hj, rfl, rfl, hb⟩ := hrel
    by_cases hlt : j < l.length
    · obtain ⟨b, off, hv, h3, hcell⟩ := rdKs_parts (Hr.out) (by rw [HML.out]; omega)
      subst hv
      obtain ⟨lv, hat, hrl⟩ := hcell j (by rw [HML.out]; exact hlt)
      rw [mkLk_at l k j (by rw [HML.out]; exact hlt) hlt] at hat hrl
      have hl5 := Hl1.out l[j] (List.getElem_mem hlt)
      have hsn := totM_snocH l j hlt
      have htm := totM_leH l j hlt
      have hki : (j : Int) < (l.length : Int) := by omega
      have hk00 : (0 : Int) ≤ (j : Int) := by omega
      obtain ⟨K, hK⟩ : ∃ K : Nat, k + totM (l.take j) = K := ⟨_, rfl⟩
      rw [hK] at hat hrl ⊢
      have Hsn : Hid (k + totM (l.take (j + 1)) = K + mkN l[j]) := hide (by omega)
      have hK2 : K + mkN l[j] ≤ 80000000 := by omega
      have hK0 : 0 < K := by omega
      clear hK hsn htm hcell
      generalize l[j] = x at hat hrl hl5 Hsn hK2
      obtain ⟨aq, cq, aw, cw, ah, ch, at_, ct, an, cn, rfl⟩ := hrl.shapes9
      obtain ⟨id, ep, rd, md, qr, qb, qw, tr, tw, th, ts, en, nx, rt⟩ := x
      obtain ⟨hq, hp, hh, ht, hn⟩ := hrl
      unfold mkN at Hsn hK2
      simp only [mkB, mkS_len, mkI_len, mkT_len, mkV_len] at hat hq hp hh ht hn hl5 Hsn hK2
      obtain ⟨A, hA⟩ : ∃ A : Nat, K + 6 + qw.length = A := ⟨_, rfl⟩
      rw [hA] at hat hp hh ht hn
      obtain ⟨B, hB⟩ : ∃ B : Nat, A + 1 + tw.length = B := ⟨_, rfl⟩
      rw [hB] at hat hh ht hn
      obtain ⟨C, hC⟩ : ∃ C : Nat, B + th.length = C := ⟨_, rfl⟩
      rw [hC] at hat ht hn
      obtain ⟨D, hD⟩ : ∃ D : Nat, C + 5 * ts.length = D := ⟨_, rfl⟩
      rw [hD] at hat hn
      obtain ⟨E, hE⟩ : ∃ E : Nat, D + 1 + 2 * nx.length = E := ⟨_, rfl⟩
      rw [hE] at hat
      have Hsn : Hid (k + totM (l.take (j + 1)) = E + 1) := hide (by have := Hsn.out; omega)
      have hE2 : E + 1 ≤ 80000000 := by omega
      have hD2 : D ≤ 80000000 := by omega
      have hC2 : C ≤ 80000000 := by omega
      have hB2 : B ≤ 80000000 := by omega
      have hA2 : A ≤ 80000000 := by omega
      have hKb : K ≤ 80000000 := by omega
      have HQ := hide (fun V (hV : Below w.heap.size w V) => heldStringS_any _ (K + 6) qw.length V (hq.below hV (Nat.le_refl _)) (by omega) (by omega) (by omega))
      have HP := hide (fun V (hV : Below w.heap.size w V) => heldStringS_any _ (A + 1) tw.length V (hp.below hV (Nat.le_refl _)) (by omega) (by omega) (by omega))
      have HH := hide (fun V (hV : Below w.heap.size w V) => heldIntS_any _ B th.length V (hh.below hV (Nat.le_refl _)) (by omega) (by omega) (by omega))
      have HX := hide (fun V (hV : Below w.heap.size w V) => heldTxS_any _ C ts.length V (ht.below hV (Nat.le_refl _)) (by omega) (by omega) (by omega))
      have HV := hide (fun V (hV : Below w.heap.size w V) => heldValS_any _ (D + 1) nx.length V (hn.below hV (Nat.le_refl _)) (by omega) (by omega) (by omega))
      have HM1 := hide (fun V => markText_any (K + 3) V (by omega) (by omega))
      have HM2 := hide (fun V => markText_any E V (by omega) (by omega))
      rw [hA] at HQ
      rw [hB] at HP
      rw [hC] at HH
      rw [hD] at HX
      rw [hE] at HV
      have e1 : ((K + 1 : Nat) : Int) = (K : Int) + 1 := by omega
      have e2 : ((K + 2 : Nat) : Int) = (K : Int) + 1 + 1 := by omega
      have e3 : ((K + 3 : Nat) : Int) = (K : Int) + 1 + 1 + 1 := by omega
      have e4 : ((K + 4 : Nat) : Int) = (K : Int) + 1 + 1 + 1 + 1 := by omega
      have e5 : ((K + 5 : Nat) : Int) = (K : Int) + 1 + 1 + 1 + 1 + 1 := by omega
      have e6 : ((K + 6 : Nat) : Int) = (K : Int) + 1 + 1 + 1 + 1 + 1 + 1 := by omega
      have eA : ((A + 1 : Nat) : Int) = (A : Int) + 1 := by omega
      have eD : ((D + 1 : Nat) : Int) = (D : Int) + 1 := by omega
      rw [e1, e2, e4, e5] at hat
      rw [e3] at HM1
      rw [e6] at HQ
      rw [eA] at HP
      rw [eD] at HV
      obtain ⟨en2, hen⟩ : ∃ x, decide ((D : Int) % 3 = 0) = x := ⟨_, rfl⟩
      rw [hen] at hat
      have hen2 : ((D : Int) % 3 == 0) = en2 := by rw [← hen, Bool.beq_eq_decide_eq]
      generalize mtx (K + 3) = m1 at hat HM1
      generalize mtx E = m2 at hat HM2
      have HC := hide (fun V (hV : Below w.heap.size w V) => (hat.below hV h3).cells)
      simp only at HC
      have Hb := hide hb
      have hEn : Hid (E + 1 = E + 1) := hide rfl
      clear hq hp hh ht hn hat e1 e2 e3 e4 e5 e6 eA eD hA hB hC hD hE hb hl5 hK2
      obtain ⟨c0, c1, c2, c3, -, -, -, -, -, -, -, -, -, -⟩ := HC.out wr Hb.out
      have g3 := cell_regrown c3
      have HR1 := hide (fun (d : Nat) (os : Array Obj) => Calls.regrown_of (HM1.out (grow (redrawn wr d) os)))
      clear HM1 c3
      go_wp2
      refine wp_region_quiet_below (by kernel_rfl) (by kernel_rfl) ?_
      repeat (go_big_quiet_step ((go_at_call 66; exact HR1.out _ _)))
      refine wpQuiet_nil ?_
      intro _ hw'
      obtain ⟨⟨dq, osq⟩, hw''⟩ := hw'
      subst hw''
      have hb2 := Hb.out.trans ((below_regrown wr dq osq).mono Hb.out.size)
      generalize grow (redrawn wr dq) osq = w2 at hb2 ⊢
      clear g3 HR1 c0 c1 c2 Hb
      obtain ⟨-, -, -, -, c4, c5, c6, -, -, -, -, -, -, -⟩ := HC.out w2 hb2
      have HQ2 := hide (HQ.out w2 hb2)
      have Hb2 := hide hb2
      clear hb2 HQ
      go_wp2_with fail
      refine HQ2.out.mono ?_
      rintro e w3 ⟨rfl, hb3⟩
      have hB3 := Hb2.out.trans (hb3.mono Hb2.out.size)
      clear c4 c5 c6 HQ2 hb3 Hb2
      obtain ⟨-, -, -, -, -, -, -, c7, c8, -, -, -, -, -⟩ := HC.out w3 hB3
      have HP3 := hide (HP.out w3 hB3)
      have Hb3 := hide hB3
      have hnA : ¬ ((A : Int) < 0) := by omega
      clear hB3 HP
      go_wp2_with fail
      refine HP3.out.mono ?_
      rintro e w4 ⟨rfl, hb4⟩
      have hB4 := Hb3.out.trans (hb4.mono Hb3.out.size)
      clear c7 c8 HP3 hb4 Hb3
      obtain ⟨-, -, -, -, -, -, -, -, -, c9, -, -, -, -⟩ := HC.out w4 hB4
      have HH4 := hide (HH.out w4 hB4)
      have Hb4 := hide hB4
      have hnB : ¬ ((B : Int) < 0) := by omega
      clear hB4 HH
      go_wp2_with fail
      refine HH4.out.mono ?_
      rintro e w5 ⟨rfl, hb5⟩
      have hB5 := Hb4.out.trans (hb5.mono Hb4.out.size)
      clear c9 HH4 hb5 Hb4
      obtain ⟨-, -, -, -, -, -, -, -, -, -, c10, -, -, -⟩ := HC.out w5 hB5
      have HX5 := hide (HX.out w5 hB5)
      have Hb5 := hide hB5
      have hnC : ¬ ((C : Int) < 0) := by omega
      clear hB5 HX
      go_wp2_with fail
      refine HX5.out.mono ?_
      rintro e w6 ⟨rfl, hb6⟩
      have hB6 := Hb5.out.trans (hb6.mono Hb5.out.size)
      clear c10 HX5 hb6 Hb5
      obtain ⟨-, -, -, -, -, -, -, -, -, -, -, c11, c12, -⟩ := HC.out w6 hB6
      have HV6 := hide (HV.out w6 hB6)
      have Hb6 := hide hB6
      have hnD : ¬ ((D : Int) < 0) := by omega
      clear hB6 HV
      go_wp2_with fail
      refine HV6.out.mono ?_
      rintro e w7 ⟨rfl, hb7⟩
      have hB7 := Hb6.out.trans (hb7.mono Hb6.out.size)
      clear c11 c12 HV6 hb7 Hb6
      obtain ⟨-, -, -, -, -, -, -, -, -, -, -, -, -, c13⟩ := HC.out w7 hB7
      have g13 := cell_regrown c13
      have HR2 := hide (fun (d : Nat) (os : Array Obj) => Calls.regrown_of (HM2.out (grow (redrawn w7 d) os)))
      have Hb7 := hide hB7
      have hnE : ¬ ((E : Int) < 0) := by omega
      clear hB7 c13 HC HM2
      go_wp2
      refine wp_region_quiet_below (by kernel_rfl) (by kernel_rfl) ?_
      repeat (go_big_quiet_step ((go_at_call 66; exact HR2.out _ _)))
      refine wpQuiet_nil ?_
      intro _ hw'
      obtain ⟨⟨dq2, osq2⟩, hw''⟩ := hw'
      subst hw''
      have hb8 := Hb7.out.trans ((below_regrown w7 dq2 osq2).mono Hb7.out.size)
      generalize grow (redrawn w7 dq2) osq2 = w8 at hb8 ⊢
      clear g13 HR2 Hb7
      go_wp2
      go_roundw
      case rel => exact ⟨j + 1, by omega, by go_num, by rw [Hsn.out]; go_num, hb8⟩
      case measure => simp [intOf]; omega
    · have e : j = l.length := by omega
      have He : Hid (k + totM (l.take j) = k + totM l) := hide (by rw [e, List.take_length])
      clear e
      go_wp2
      go_ret
      exact ⟨ret_int (by rw [He.out]), hb⟩
end Go.Proofs.Ytbjeonnaannofaa
