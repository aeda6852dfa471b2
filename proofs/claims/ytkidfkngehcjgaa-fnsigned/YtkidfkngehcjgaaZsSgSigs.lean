/- The model's SigsOf. -/
import Derived.Test.YtkidfkngehcjgaaZsSgSpec
import Derived.Test.YtkidfkngehcjgaaZsMgMem
import Derived.Deep.Cut
namespace Go.Proofs.Ytkidfkngehcjgaa
open Go.RowKit
set_option linter.unusedVariables false
/-- Of a block: of its Qc and its Tc. -/
def bkS (ep : Int) (b : Bk) : List Sg := qcS ep b.qr b.qb b.qw ++ tcS ep b.tr b.tw b.th
/-- Of the blocks, one behind the other. -/
def bksS (ep : Int) (l : List Bk) : List Sg := (l.map (bkS ep)).flatten
/-- Of the vote and the leaving. -/
def hdS (m : Mg) : List Sg := (if m.vw = { data := #[] } then [] else [(1, m.ep, m.vr, m.vb, m.vw)]) ++ (if m.gw = { data := #[] } then [] else [(2, m.ep, m.gr, m.gh, m.gw)])
theorem no_empty {s : ByteArray} (h : ¬ s = { data := #[] }) : s.toList.isEmpty = false := by
  rw [ByteArray.toList_eq]
  cases hs : s.data.toList with
  | nil => exact absurd (ByteArray.ext (Array.toList_inj.1 (by rw [hs]))) h
  | cons x t => rfl
/-- What is signed in a word. -/
def sgS (m : Mg) : List Sg := hdS m ++ (qcS m.ep m.qr m.qb m.qw ++ tcS m.ep m.tr m.tw m.th) ++ bksS m.ep m.bs
theorem bksS_snoc (ep : Int) (l : List Bk) (i : Nat) (h : i < l.length) : bksS ep (l.take (i + 1)) = bksS ep (l.take i) ++ bkS ep l[i] := by
  unfold bksS
  rw [List.take_succ_eq_append_getElem h, List.map_append, List.flatten_append]
  simp
theorem bkS_len (ep : Int) (b : Bk) : (bkS ep b).length ≤ b.qw.length + b.tw.length := by
  have h1 := qcS_len ep b.qr b.qb b.qw
  have h2 := tcS_len ep b.tr b.tw b.th
  simp only [bkS, List.length_append]
  omega
/-- The blocks' lists are short. -/
theorem bksS_len (ep : Int) : ∀ (l : List Bk) (n : Nat), (∀ b ∈ l, b.qw.length + b.tw.length ≤ n) → (bksS ep l).length ≤ l.length * n
  | [], n, _ => by simp [bksS]
  | b :: l, n, h => by
    have h1 := bksS_len ep l n (fun x hx => h x (List.mem_cons_of_mem _ hx))
    have h2 := bkS_len ep b
    have h3 := h b List.mem_cons_self
    have e : bksS ep (b :: l) = bkS ep b ++ bksS ep l := by simp [bksS]
    rw [e, List.length_append, List.length_cons, Nat.succ_mul]
    omega
theorem hdS_len (m : Mg) : (hdS m).length ≤ 2 := by
  unfold hdS
  split <;> split <;> simp
theorem RdKs.atG {w : World} {a : Option Addr} {cap k : Nat} {l : List Bk} (h : RdKs w (.slice a l.length cap) l) (hk : k < l.length) :
    ∃ b off, a = some ⟨b, off, none⟩ ∧ l.length ≤ cap ∧ cap ≤ maxLen ∧ b < w.heap.size ∧ ∃ bv, BkAt w b (off + k * 14) l[k] bv ∧ RdK w l[k] bv := by
  rcases h with ⟨a', cap', e, rfl, -⟩ | ⟨b, off, cap', h0, e, h1, h2, h3, h4⟩
  · simp at hk
  · simp only [Value.slice.injEq] at e
    obtain ⟨rfl, -, rfl⟩ := e
    exact ⟨b, off, rfl, h1, h2, h3, h4 k hk⟩
theorem OwnSg.monoSg {t : TypeId} {base base' : Nat} {w : World} {v : Value} {l : List Sg} (h : OwnSg t base w v l) (hB : base' ≤ base) : OwnSg t base' w v l := by
  refine ⟨h.1, ?_⟩
  rcases h.2 with h' | ⟨g, cap, cur, hv, hbb, r⟩
  · exact .inl h'
  · exact .inr ⟨g, cap, cur, hv, by omega, r⟩
set_option maxRecDepth 20000 in
theorem specVoteSig_any (ep r k : Int) (s : ByteArray) (w : World) : Calls Try.prog 24 #[.int .i64 ep, .agg #[.int .i64 r, .int .i64 k, .string s]] w fun e w' => e = .returned (.agg #[.int .i64 1, .int .i64 ep, .int .i64 r, .int .i64 k, .string s]) ∧ Below w.heap.size w w' := by
  have hb : Below w.heap.size w (w.alloc (.cells #[.int .i64 r, .int .i64 k, .string s] 28)) := (Below.refl _ w).alloc (Nat.le_refl _) _
  have k1 : Blk (w.alloc (.cells #[.int .i64 r, .int .i64 k, .string s] 28)) w.heap.size 28 [.int .i64 r, .int .i64 k, .string s] := Blk.new w _ _
  go_enter Try.func24, Try.ntmps24
  go_wp2
  refine bodyPost_ret (v := .agg #[.int .i64 1, .int .i64 ep, .int .i64 r, .int .i64 k, .string s]) (by simp [results, Try.f24, go_sem]) rfl ?_
  exact ⟨rfl, hb.alloc (by simp) _⟩
set_option maxRecDepth 20000 in
theorem specGoneSig_any (ep r k : Int) (s : ByteArray) (w : World) : Calls Try.prog 25 #[.int .i64 ep, .agg #[.int .i64 r, .int .i64 k, .string s]] w fun e w' => e = .returned (.agg #[.int .i64 2, .int .i64 ep, .int .i64 r, .int .i64 k, .string s]) ∧ Below w.heap.size w w' := by
  have hb : Below w.heap.size w (w.alloc (.cells #[.int .i64 r, .int .i64 k, .string s] 30)) := (Below.refl _ w).alloc (Nat.le_refl _) _
  have k1 : Blk (w.alloc (.cells #[.int .i64 r, .int .i64 k, .string s] 30)) w.heap.size 30 [.int .i64 r, .int .i64 k, .string s] := Blk.new w _ _
  go_enter Try.func25, Try.ntmps25
  go_wp2
  refine bodyPost_ret (v := .agg #[.int .i64 2, .int .i64 ep, .int .i64 r, .int .i64 k, .string s]) (by simp [results, Try.f25, go_sem]) rfl ?_
  exact ⟨rfl, hb.alloc (by simp) _⟩
set_option maxRecDepth 20000 in
set_option maxHeartbeats 4000000 in
theorem specSigs_any (m : Mg) (v : Mv) (w : World) (hr : RdM w m v) (hb : m.bs.length ≤ 1000) (hq : m.qw.length ≤ 1000 ∧ m.tw.length ≤ 1000) (hf : ∀ b ∈ m.bs, b.qw.length + b.tw.length ≤ 2000) :
    Calls Try.prog 9 #[mgV m v] w fun e w' => ∃ v', e = .returned v' ∧ OwnSg 44 w.heap.size w' v' (sgS m) ∧ Below w.heap.size w w' := by
  obtain ⟨ab, cb, hvb⟩ := hr.b.shape
  obtain ⟨aq, cq, hvq⟩ := hr.q.shape
  obtain ⟨aw, cw, hvw⟩ := hr.p.shape
  obtain ⟨ah, ch, hvh⟩ := hr.h.shape
  obtain ⟨vb, vq, vw, vh⟩ := v
  simp only at hvb hvq hvw hvh
  subst hvb hvq hvw hvh
  obtain ⟨w1, hw1⟩ : ∃ w1, w.alloc (.cells #[.int .i64 m.kd, .string m.tn, .int .i64 m.ep, .slice ab m.bs.length cb, .int .i64 m.vr, .int .i64 m.vb, .string m.vw, .int .i64 m.gr, .int .i64 m.gh, .string m.gw, .int .i64 m.qr, .int .i64 m.qb, .slice aq m.qw.length cq, .int .i64 m.tr, .slice aw m.tw.length cw, .slice ah m.th.length ch] 37) = w1 := ⟨_, rfl⟩
  have hb1 : Below w.heap.size w w1 := by rw [← hw1]; exact (Below.refl _ w).alloc (Nat.le_refl _) _
  have s1 : w1.heap.size = w.heap.size + 1 := by rw [← hw1]; simp
  have hlt1 : w.heap.size < w.heap.size + 1 := by omega
  have k1 : Blk w1 w.heap.size 37 [.int .i64 m.kd, .string m.tn, .int .i64 m.ep, .slice ab m.bs.length cb, .int .i64 m.vr, .int .i64 m.vb, .string m.vw, .int .i64 m.gr, .int .i64 m.gh, .string m.gw, .int .i64 m.qr, .int .i64 m.qb, .slice aq m.qw.length cq, .int .i64 m.tr, .slice aw m.tw.length cw, .slice ah m.th.length ch] := by rw [← hw1]; exact Blk.new w _ _
  have Hrm := hide (fun V (hV : Below (w.heap.size + 1) w1 V) => (hr.below hb1 (Nat.le_refl _)).below hV (Nat.le_of_eq s1))
  have HC : Hid (∀ V, Below (w.heap.size + 1) w1 V → Blk V w.heap.size 37 [.int .i64 m.kd, .string m.tn, .int .i64 m.ep, .slice ab m.bs.length cb, .int .i64 m.vr, .int .i64 m.vb, .string m.vw, .int .i64 m.gr, .int .i64 m.gh, .string m.gw, .int .i64 m.qr, .int .i64 m.qb, .slice aq m.qw.length cq, .int .i64 m.tr, .slice aw m.tw.length cw, .slice ah m.th.length ch]) := hide (fun V hV => k1.below hV hlt1)
  have Hb1 := hide hb1
  obtain ⟨w2, hw2⟩ : ∃ w2, w1.alloc (.cells #[] 44) = w2 := ⟨_, rfl⟩
  have hb2 : Below (w.heap.size + 1) w1 w2 := by rw [← hw2]; exact (Below.refl _ w1).alloc (Nat.le_of_eq s1.symm) _
  have O2 : Hid (OwnSg 44 (w.heap.size + 1) w2 (.slice (some ⟨(w.heap.size + 1), 0, none⟩) 0 0) []) := hide (by rw [← hw2, ← s1]; exact own_nilSg _ w1 _ (Nat.le_refl _))
  have Hsg : Hid (sgS m = ((if m.vw = { data := #[] } then [] else [(1, m.ep, m.vr, m.vb, m.vw)]) ++ (if m.gw = { data := #[] } then [] else [(2, m.ep, m.gr, m.gh, m.gw)]) ++ (qcS m.ep m.qr m.qb m.qw ++ tcS m.ep m.tr m.tw m.th)) ++ bksS m.ep m.bs) := hide rfl
  have hS1 : (if m.vw = { data := #[] } then ([] : List Sg) else [(1, m.ep, m.vr, m.vb, m.vw)]).length ≤ 1 := by split <;> simp
  have hS2 : (if m.gw = { data := #[] } then ([] : List Sg) else [(2, m.ep, m.gr, m.gh, m.gw)]).length ≤ 1 := by split <;> simp
  have x6 := (HC.out w2 hb2).cell 6
  simp only [List.getElem?_cons_zero, List.getElem?_cons_succ] at x6
  have Hb2 := hide hb2
  simp only [mgV]
  clear hr hb1 k1 hb2
  go_enter Try.func9, Try.ntmps9
  go_upto_if 9 with fail
  go_cut [3] from 5 (fun ov wc => OwnSg 44 (w.heap.size + 1) wc ov (if m.vw = { data := #[] } then [] else [(1, m.ep, m.vr, m.vb, m.vw)]) ∧ Below (w.heap.size + 1) w1 wc)
  case first =>
    by_cases hv : m.vw = { data := #[] }
    · have hve : m.vw.toList.isEmpty = true := by rw [hv, ByteArray.toList_eq]; rfl
      rw [hve]
      go_wp2
      go_meet
      case rel => rw [if_pos hv]; exact ⟨O2.out, Hb2.out⟩
    · have hve : m.vw.toList.isEmpty = false := no_empty hv
      rw [hve]
      have kk := HC.out w2 Hb2.out
      have y2 := kk.cell 2
      have y4 := kk.cell 4
      have y5 := kk.cell 5
      have y6 := kk.cell 6
      simp only [List.getElem?_cons_zero, List.getElem?_cons_succ] at y2 y4 y5 y6
      clear kk
      go_wp2_with fail
      refine (specVoteSig_any _ _ _ _ _).mono ?_
      rintro e w3 ⟨rfl, hb3⟩
      have o3 := hide (O2.out.below hb3 (Nat.le_refl _))
      have hz3 := hb3.size
      have hz2 := Hb2.out.size
      have B3 := hide (Hb2.out.trans (hb3.mono (by omega)))
      go_wp2_with (at_builtin; refine app_ownSig _ rfl _ _ rfl (w.heap.size + 1) _ w3.heap.size [] (1, m.ep, m.vr, m.vb, m.vw) rfl rfl (o3.out.alloc _) (Blk.newR w3 _ (sgC (1, m.ep, m.vr, m.vb, m.vw)) _ rfl) (by simp) (by simp; omega) ?_; intro v4 w4 ho4 hg4 _)
      have hb4 : Below (w.heap.size + 1) w3 w4 := ((Below.refl (w.heap.size + 1) w3).alloc (by omega) _).grown hg4 (by simp; omega) (fun g hg => o3.out.ge g hg)
      go_meet
      case rel => rw [if_neg hv]; exact ⟨ho4, B3.out.trans hb4⟩
  case rest =>
    clear O2 Hb2 x6 hw2
    obtain ⟨w5, rfl⟩ : ∃ x, x = wc := ⟨_, rfl⟩
    obtain ⟨o5, b5⟩ := hcut
    generalize (if m.vw = { data := #[] } then ([] : List Sg) else [(1, m.ep, m.vr, m.vb, m.vw)]) = S1 at o5 hS1 Hsg
    have x9 := (HC.out w5 b5).cell 9
    simp only [List.getElem?_cons_zero, List.getElem?_cons_succ] at x9
    have O5 := hide o5
    have B5 := hide b5
    clear o5 b5
    go_upto_if 21 with fail
    go_cut [3] from 5 (fun ov wc => OwnSg 44 (w.heap.size + 1) wc ov (S1 ++ (if m.gw = { data := #[] } then [] else [(2, m.ep, m.gr, m.gh, m.gw)])) ∧ Below (w.heap.size + 1) w1 wc)
    case first =>
      by_cases hv : m.gw = { data := #[] }
      · have hve : m.gw.toList.isEmpty = true := by rw [hv, ByteArray.toList_eq]; rfl
        rw [hve]
        go_wp2
        go_meet
        case rel => rw [if_pos hv, List.append_nil]; exact ⟨O5.out, B5.out⟩
      · have hve : m.gw.toList.isEmpty = false := no_empty hv
        rw [hve]
        have kk := HC.out w5 B5.out
        have y2 := kk.cell 2
        have y7 := kk.cell 7
        have y8 := kk.cell 8
        have y9 := kk.cell 9
        simp only [List.getElem?_cons_zero, List.getElem?_cons_succ] at y2 y7 y8 y9
        clear kk
        go_wp2_with fail
        refine (specGoneSig_any _ _ _ _ _).mono ?_
        rintro e w6 ⟨rfl, hb6⟩
        have o6 := hide (O5.out.below hb6 (Nat.le_refl _))
        have hz6 := hb6.size
        have hz5 := B5.out.size
        have B6 := hide (B5.out.trans (hb6.mono (by omega)))
        go_wp2_with (at_builtin; refine app_ownSig _ rfl _ _ rfl (w.heap.size + 1) _ w6.heap.size S1 (2, m.ep, m.gr, m.gh, m.gw) rfl rfl (o6.out.alloc _) (Blk.newR w6 _ (sgC (2, m.ep, m.gr, m.gh, m.gw)) _ rfl) (by omega) (by simp; omega) ?_; intro v7 w7 ho7 hg7 _)
        have hb7 : Below (w.heap.size + 1) w6 w7 := ((Below.refl (w.heap.size + 1) w6).alloc (by omega) _).grown hg7 (by simp; omega) (fun g hg => o6.out.ge g hg)
        go_meet
        case rel => rw [if_neg hv]; exact ⟨ho7, B6.out.trans hb7⟩
    case rest =>
      clear O5 B5 x9
      obtain ⟨w8, rfl⟩ : ∃ x, x = wc := ⟨_, rfl⟩
      obtain ⟨o8, b8⟩ := hcut
      generalize (if m.gw = { data := #[] } then ([] : List Sg) else [(2, m.ep, m.gr, m.gh, m.gw)]) = S2 at o8 hS2 Hsg
      have O8 := hide o8
      have B8 := hide b8
      have hz8 := b8.size
      have HSx : Hid (∀ V, Below (w.heap.size + 1) w1 V → (V.cell? ⟨w.heap.size, 2, none⟩ = some (.int .i64 m.ep) ∧ V.cell? ⟨w.heap.size, 10, none⟩ = some (.int .i64 m.qr) ∧ V.cell? ⟨w.heap.size, 11, none⟩ = some (.int .i64 m.qb) ∧ V.cell? ⟨w.heap.size, 12, none⟩ = some (.slice aq m.qw.length cq) ∧ V.cell? ⟨w.heap.size, 13, none⟩ = some (.int .i64 m.tr) ∧ V.cell? ⟨w.heap.size, 14, none⟩ = some (.slice aw m.tw.length cw) ∧ V.cell? ⟨w.heap.size, 15, none⟩ = some (.slice ah m.th.length ch))) := hide (fun V hV => ⟨(HC.out V hV).cell 2, (HC.out V hV).cell 10, (HC.out V hV).cell 11, (HC.out V hV).cell 12, (HC.out V hV).cell 13, (HC.out V hV).cell 14, (HC.out V hV).cell 15⟩)
      have Bd := hide (B8.out.drew)
      have hS8 := HSx.out _ Bd.out
      have hlq := qcS_len m.ep m.qr m.qb m.qw
      have hlt := tcS_len m.ep m.tr m.tw m.th
      have hol : (S1 ++ S2).length ≤ 2 := by rw [List.length_append]; omega
      have HQ := hide (fun vo V (ho : OwnSg 44 (w.heap.size + 1) V vo (S1 ++ S2)) (hV : Below (w.heap.size + 1) w1 V) => specQcS_any vo _ (S1 ++ S2) m.ep m.qr m.qb m.qw (w.heap.size + 1) V ho (by have := hV.size; omega) (by omega) (fun U hU => (Hrm.out U (hV.trans hU)).q))
      have HT := hide (fun vo V (ho : OwnSg 44 (w.heap.size + 1) V vo (S1 ++ S2 ++ qcS m.ep m.qr m.qb m.qw)) (hV : Below (w.heap.size + 1) w1 V) => specTcS_any vo _ _ (S1 ++ S2 ++ qcS m.ep m.qr m.qb m.qw) m.ep m.tr m.tw m.th (w.heap.size + 1) V ho (by have := hV.size; omega) (by rw [List.length_append]; omega) (fun U hU => (Hrm.out U (hV.trans hU)).p) (fun U hU => (Hrm.out U (hV.trans hU)).h))
      clear o8 b8
      go_upto_region 6 with fail
      go_cut [3] from 5 (fun ov wc => OwnSg 44 (w.heap.size + 1) wc ov (S1 ++ S2 ++ (qcS m.ep m.qr m.qb m.qw ++ tcS m.ep m.tr m.tw m.th)) ∧ Below (w.heap.size + 1) w1 wc)
      case first =>
        go_region_held_law (fun w' => w'.cell? ⟨w.heap.size, 2, none⟩ = some (.int .i64 m.ep) ∧ w'.cell? ⟨w.heap.size, 10, none⟩ = some (.int .i64 m.qr) ∧ w'.cell? ⟨w.heap.size, 11, none⟩ = some (.int .i64 m.qb) ∧ w'.cell? ⟨w.heap.size, 12, none⟩ = some (.slice aq m.qw.length cq) ∧ w'.cell? ⟨w.heap.size, 13, none⟩ = some (.int .i64 m.tr) ∧ w'.cell? ⟨w.heap.size, 14, none⟩ = some (.slice aw m.tw.length cw) ∧ w'.cell? ⟨w.heap.size, 15, none⟩ = some (.slice ah m.th.length ch)) (first | with_reducible exact hS8 | with_reducible exact hS9 | with_reducible exact hS10) ((first
          | (go_at_call 26; refine (HT.out _ _ o9 B9).mono ?_; rintro e w10 ⟨v10, rfl, o10, hb10⟩; have B10 := B9.trans hb10; have hS10 := HSx.out _ B10)
          | (go_at_call 27; refine (HQ.out _ _ (O8.out.drew) Bd.out).mono ?_; rintro e w9 ⟨v9, rfl, o9, hb9⟩; have B9 := Bd.out.trans hb9; have hS9 := HSx.out _ B9)))
        all_goals
          go_wp2_with fail
          go_meet
          case rel => exact ⟨by rw [← List.append_assoc]; exact o10, B10⟩
      case rest =>
        clear O8 B8 Bd hS8 HSx HQ HT hlq hlt hol
        obtain ⟨wa, rfl⟩ : ∃ x, x = wc := ⟨_, rfl⟩
        obtain ⟨oa, ba⟩ := hcut
        have hlA : (S1 ++ S2 ++ (qcS m.ep m.qr m.qb m.qw ++ tcS m.ep m.tr m.tw m.th)).length ≤ 3000 := by
          have hlq := qcS_len m.ep m.qr m.qb m.qw
          have hlt := tcS_len m.ep m.tr m.tw m.th
          simp only [List.length_append]
          omega
        generalize S1 ++ S2 ++ (qcS m.ep m.qr m.qb m.qw ++ tcS m.ep m.tr m.tw m.th) = SA at oa hlA Hsg
        have OA := hide oa
        have BA := hide ba
        clear oa ba
        go_wp2
        go_loopw [3, 4] (fun ov iv wr => ∃ (i : Nat), i ≤ m.bs.length ∧ iv = .int .i64 (i : Int) ∧ OwnSg 44 (w.heap.size + 1) wr ov (SA ++ bksS m.ep (m.bs.take i)) ∧ Below (w.heap.size + 1) w1 wr) (fun _ iv _ => m.bs.length - (intOf iv).toNat)
        case atStart => exact ⟨0, Nat.zero_le _, rfl, by simpa [bksS] using OA.out, BA.out⟩
        case round =>
          obtain ⟨i, hi, rfl, ho, hbr⟩ := hrel
          clear OA BA
          have x3 := (HC.out wr hbr).cell 3
          simp only [List.getElem?_cons_zero, List.getElem?_cons_succ] at x3
          by_cases hlt : i < m.bs.length
          · have hli : (i : Int) < (m.bs.length : Int) := by omega
            obtain ⟨b, off, rfl, hc1, hc2, hbw, xv, hat, hrd⟩ := (Hrm.out w1 (Below.refl _ w1)).b.atG hlt
            have hlen := bksS_len m.ep (m.bs.take i) 2000 (fun y hy => hf y (List.mem_of_mem_take hy))
            have htk : (m.bs.take i).length ≤ 1000 := by simp; omega
            have hl2 : (bksS m.ep (m.bs.take i)).length ≤ 2000000 := by
              have : (m.bs.take i).length * 2000 ≤ 1000 * 2000 := Nat.mul_le_mul_right _ htk
              omega
            have Hsn := hide (bksS_snoc m.ep m.bs i hlt)
            have hfx := hf m.bs[i] (List.getElem_mem hlt)
            generalize hx : m.bs[i] = x at hat hrd Hsn hfx
            have Hrd := hide (fun V (hV : Below (w.heap.size + 1) w1 V) => hrd.below hV (Nat.le_of_eq s1))
            have hbw' : b < w.heap.size + 1 := by omega
            have Hat := hide (fun V (hV : Below (w.heap.size + 1) w1 V) => hat.below hV hbw')
            have HSx : Hid (∀ V, Below (w.heap.size + 1) w1 V → (V.cell? ⟨w.heap.size, 2, none⟩ = some (.int .i64 m.ep) ∧ V.cell? ⟨w.heap.size, 3, none⟩ = some (.slice (some ⟨b, off, none⟩) m.bs.length cb) ∧ V.cell? ⟨b, off + i * 14 + 4, none⟩ = some (.int .i64 x.qr) ∧ V.cell? ⟨b, off + i * 14 + 5, none⟩ = some (.int .i64 x.qb) ∧ V.cell? ⟨b, off + i * 14 + 6, none⟩ = some (xv.q) ∧ V.cell? ⟨b, off + i * 14 + 7, none⟩ = some (.int .i64 x.tr) ∧ V.cell? ⟨b, off + i * 14 + 8, none⟩ = some (xv.w) ∧ V.cell? ⟨b, off + i * 14 + 9, none⟩ = some (xv.h))) := hide (fun V hV => ⟨(HC.out V hV).cell 2, (HC.out V hV).cell 3, Hat.out V hV 4 (by omega), Hat.out V hV 5 (by omega), Hat.out V hV 6 (by omega), Hat.out V hV 7 (by omega), Hat.out V hV 8 (by omega), Hat.out V hV 9 (by omega)⟩)
            have Bd := hide (hbr.drew)
            have Br := hide hbr
            have Or := hide ho
            have hS8 := HSx.out _ Bd.out
            have hlq := qcS_len m.ep x.qr x.qb x.qw
            have hltt := tcS_len m.ep x.tr x.tw x.th
            generalize bksS m.ep (m.bs.take i) = SI at Or hl2 Hsn ho
            have hol : (SA ++ SI).length ≤ 2003000 := by rw [List.length_append]; omega
            have HQ := hide (fun vo V (ho : OwnSg 44 (w.heap.size + 1) V vo (SA ++ SI)) (hV : Below (w.heap.size + 1) w1 V) => specQcS_any vo _ (SA ++ SI) m.ep x.qr x.qb x.qw (w.heap.size + 1) V ho (by have := hV.size; omega) (by omega) (fun U hU => (Hrd.out U (hV.trans hU)).q))
            have HT := hide (fun vo V (ho : OwnSg 44 (w.heap.size + 1) V vo (SA ++ SI ++ qcS m.ep x.qr x.qb x.qw)) (hV : Below (w.heap.size + 1) w1 V) => specTcS_any vo _ _ (SA ++ SI ++ qcS m.ep x.qr x.qb x.qw) m.ep x.tr x.tw x.th (w.heap.size + 1) V ho (by have := hV.size; omega) (by rw [List.length_append]; omega) (fun U hU => (Hrd.out U (hV.trans hU)).p) (fun U hU => (Hrd.out U (hV.trans hU)).h))
            obtain ⟨vq, vw, vh, vt, vn⟩ := xv
            simp only at HSx hS8 HQ HT
            clear ho hbr hat hrd Hat Hrd hlen
            go_wp2
            go_region_held_law (fun w' => w'.cell? ⟨w.heap.size, 2, none⟩ = some (.int .i64 m.ep) ∧ w'.cell? ⟨w.heap.size, 3, none⟩ = some (.slice (some ⟨b, off, none⟩) m.bs.length cb) ∧ w'.cell? ⟨b, off + i * 14 + 4, none⟩ = some (.int .i64 x.qr) ∧ w'.cell? ⟨b, off + i * 14 + 5, none⟩ = some (.int .i64 x.qb) ∧ w'.cell? ⟨b, off + i * 14 + 6, none⟩ = some (vq) ∧ w'.cell? ⟨b, off + i * 14 + 7, none⟩ = some (.int .i64 x.tr) ∧ w'.cell? ⟨b, off + i * 14 + 8, none⟩ = some (vw) ∧ w'.cell? ⟨b, off + i * 14 + 9, none⟩ = some (vh)) (first | with_reducible exact hS8 | with_reducible exact hS9 | with_reducible exact hS10) ((first
              | (go_at_call 26; refine (HT.out _ _ o9 B9).mono ?_; rintro e w10 ⟨v10, rfl, o10, hb10⟩; have B10 := B9.trans hb10; have hS10 := HSx.out _ B10)
              | (go_at_call 27; refine (HQ.out _ _ (Or.out.drew) Bd.out).mono ?_; rintro e w9 ⟨v9, rfl, o9, hb9⟩; have B9 := Bd.out.trans hb9; have hS9 := HSx.out _ B9)))
            have o11 : OwnSg 44 (w.heap.size + 1) w10 v10 (SA ++ (SI ++ bkS m.ep x)) := by
              have h := o10
              rw [List.append_assoc, List.append_assoc] at h
              exact h
            go_wp2
            go_roundw
            case rel => exact ⟨i + 1, by omega, by go_num, by rw [Hsn.out]; exact o11, B10⟩
            case measure => simp [intOf]; omega
          · have ei : i = m.bs.length := by omega
            subst ei
            rw [List.take_length] at ho
            have Ho := hide ho
            have Hbr := hide hbr
            clear ho hbr
            go_wp2
            go_ret
            exact ⟨_, rfl, by rw [Hsg.out]; exact Ho.out.monoSg (by omega), Hb1.out.trans (Hbr.out.mono (by omega))⟩
end Go.Proofs.Ytkidfkngehcjgaa
