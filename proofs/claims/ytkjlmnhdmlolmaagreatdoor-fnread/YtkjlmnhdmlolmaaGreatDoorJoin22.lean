/- The landed code's PutBlock: the parts joined. The landed code's PutBlock. -/
import Derived.Test.YtkjlmnhdmlolmaaGreatDoorBkPutP
import Derived.Laws.CopyOwn
import Derived.Laws.MakeOwn
import Derived.Test.YtkjlmnhdmlolmaaGreatDoorBkPutE
namespace Go.Proofs.YtkjlmnhdmlolmaaGreatDoor
open Go.RowKit
set_option linter.unusedVariables false

/-- Parts, one behind the other. -/
def flP (ps : List (Value × List UInt8)) : List UInt8 := ps.flatMap (·.2)
theorem flP_snoc (ps : List (Value × List UInt8)) (k : Nat) (h : k < ps.length) : flP (ps.take (k + 1)) = flP (ps.take k) ++ ps[k].2 := by
  unfold flP; rw [List.take_succ_eq_append_getElem h]; simp only [List.flatMap_append, List.flatMap_cons, List.flatMap_nil, List.append_nil]
theorem flP_le (ps : List (Value × List UInt8)) (k : Nat) : (flP (ps.take k)).length ≤ (flP ps).length := by
  have e : flP ps = flP (ps.take k) ++ flP (ps.drop k) := by
    unfold flP; rw [← List.flatMap_append, List.take_append_drop]
  rw [e, List.length_append]; omega
theorem sizeU89 : (Tryz.prog.info? 5).map (·.size) = some 1 := by kernel_rfl
theorem RdB.src9 {w0 w : World} {av : Option Addr} {cv n : Nat} {l : List UInt8} (h : RdB w0 (.slice av n cv) l) (hn : l.length = n) (hb : Below w0.heap.size w0 w) (h0 : 0 < (l.map cb).length) : ∃ ad, av = some ad ∧ ∀ j u, (l.map cb)[j]? = some u → w.cell? (ad.add j) = some u := by
  subst hn
  have h := h.below hb (Nat.le_refl _)
  rcases h with ⟨a, cap, hv, rfl, -⟩ | ⟨b, off, cap, hne, hv, h1, h2, h3, h4⟩
  · simp at h0
  · simp only [Value.slice.injEq, true_and] at hv
    obtain ⟨rfl, rfl⟩ := hv
    refine ⟨_, rfl, ?_⟩
    intro j u hj
    have hj' : j < l.length := by have := (List.getElem?_eq_some_iff.1 hj).1; simpa using this
    have ea : (⟨b, off, none⟩ : Addr).add j = ⟨b, off + j, none⟩ := by
      by_cases hz : j = 0
      · subst hz; simp [Addr.add]
      · simp [Addr.add, hz]
    rw [ea, h4 j hj']
    simp [hj', cb] at hj
    rw [← hj]
/-- What is laid so far, and the room behind it. -/
def roomB (pre : List UInt8) (N : Nat) : List Value := pre.map cb ++ List.replicate (N - pre.length) (Value.int .u8 0)
theorem room_splice (pre l : List UInt8) (N : Nat) (h : pre.length + l.length ≤ N) : splice (roomB pre N) pre.length (l.map cb) = roomB (pre ++ l) N := by
  unfold splice roomB
  have e1 : (pre.map cb ++ List.replicate (N - pre.length) (Value.int .u8 0)).take pre.length = pre.map cb := by
    rw [List.take_append_of_le_length (by simp), List.take_of_length_le (by simp)]
  have e2 : (pre.map cb ++ List.replicate (N - pre.length) (Value.int .u8 0)).drop (pre.length + (l.map cb).length) = List.replicate (N - (pre ++ l).length) (Value.int .u8 0) := by
    rw [List.drop_append, List.drop_eq_nil_of_le (by simp), List.nil_append, List.drop_replicate]
    simp only [List.length_map, List.length_append]
    congr 1; omega
  rw [e1, e2, List.map_append, List.append_assoc]
theorem copy_run (w w0 : World) (g N n cv A : Nat) (av : Option Addr) (l pre : List UInt8) (hn : l.length = n) (hA : pre.length = A) (h0 : 0 < n)
    (hblk : w.heap[g]? = some (.cells (roomB pre N).toArray 5 (0, 0))) (hN : A + n ≤ N) (hr : RdB w0 (.slice av n cv) l) (hb : Below w0.heap.size w0 w) (hBg : w0.heap.size ≤ g) :
    ∃ w', (Builtin.copy_ #[22, 22] 3 #[.slice (some ⟨g, A, none⟩) n n, .slice av n cv]).run Tryz.prog w = .ok (goInt n) w' ∧ w'.heap[g]? = some (.cells (roomB (pre ++ l) N).toArray 5 (0, 0)) ∧ Below w0.heap.size w0 w' := by
  subst hn hA
  obtain ⟨ad, rfl, hsrc⟩ := RdB.src9 hr rfl hb (by simpa using h0)
  have h := run_copy_row (P := Tryz.prog) w 22 22 3 5 g pre.length l.length l.length ad l.length cv (roomB pre N).toArray 5 (l.map cb) Tryz.underlying22 sizeU89 hblk (by rw [List.length_map]; exact (Nat.min_self _).symm) hsrc (by simp [roomB]; omega) (by intro u hu; obtain ⟨c, _, rfl⟩ := List.mem_map.1 hu; rfl)
  have e := room_splice pre l N hN
  unfold splice at e
  rw [List.append_assoc, e, List.length_map] at h
  exact ⟨_, h, setRow_heap w g _ _ 5 _ hblk, below_setRow hb hBg _⟩
theorem ofBlock9 {base : Nat} {w : World} {g n : Nat} {l : List UInt8} (hn : l.length = n) (hb : base ≤ g) (hm : n ≤ maxLen) (h : w.heap[g]? = some (.cells (roomB l n).toArray 5 (0, 0))) : OwnB base w (.slice (some ⟨g, 0, none⟩) n n) l := by
  subst hn
  have e : roomB l l.length = l.map cb := by simp [roomB]
  rw [e] at h
  exact ⟨by simp, .inr ⟨g, l.length, _, rfl, hb, h, Nat.le_refl _, hm, by simp, by rw [Nat.mul_one]; exact List.take_of_length_le (by simp)⟩⟩
theorem made9 {base : Nat} {w : World} {g N : Nat} (h : w.ownsRow base 5 1 (.slice (some ⟨g, 0, none⟩) N N) N (madeCells (Value.int IntKind.u8 0).cells (N * 1)).toList) : w.heap[g]? = some (.cells (roomB [] N).toArray 5 (0, 0)) := by
  have e : (madeCells (Value.int IntKind.u8 0).cells (N * 1)).toList = List.replicate N (Value.int .u8 0) := by
    rw [Nat.mul_one]; exact toList_madeCells_one _ _
  rw [e] at h
  have er : roomB [] N = List.replicate N (Value.int .u8 0) := by simp [roomB]
  rw [er]
  rcases h.2 with ⟨hv, _⟩ | ⟨g', cap, cur, hv, hb, hg, hnc, hcm, hcs, ht⟩
  · simp at hv
  · simp only [Value.slice.injEq, Option.some.injEq, Addr.mk.injEq, and_true, true_and] at hv
    obtain ⟨rfl, rfl⟩ := hv
    rw [hg, ← ht, List.take_of_length_le (by simp [hcs])]
set_option maxRecDepth 20000 in
theorem partLen_any (v : Value) (l : List UInt8) (w : World) (hr : RdB w v l) (hl : l.length ≤ 1000000) :
    Calls Tryz.prog 112 #[v] w fun e w' => e = .returned (.int .i64 (l.length : Int)) ∧ w' = w := by
  obtain ⟨a, c, rfl⟩ := hr.shape
  clear hr
  go_enter Tryz.func112, Tryz.ntmps112
  go_wp2
  go_ret
  exact ⟨rfl, rfl⟩
set_option maxRecDepth 20000 in
set_option maxHeartbeats 1000000 in
theorem sumParts_any (ps : List (Value × List UInt8)) (g off : Nat) (w : World) (hg : g < w.heap.size) (hc : ∀ i (h : i < ps.length), w.cell? ⟨g, off + i, none⟩ = some ps[i].1) (hR : ∀ i (h : i < ps.length), RdB w ps[i].1 ps[i].2) (hz : (flP ps).length ≤ 1000000) (hn : ps.length ≤ 100) :
    Calls Tryz.prog 111 #[.slice (some ⟨g, off, none⟩) ps.length ps.length, .func (.func 112) #[] #[]] w fun e w' => e = .returned (.int .i64 ((flP ps).length : Int)) ∧ w' = w := by
  have Hc := hide hc
  have HR := hide hR
  have Hle := hide (flP_le ps)
  clear hc hR
  go_enter Tryz.func111, Tryz.ntmps111
  go_wp2
  go_loopw [5, 10] (fun nv iv wr => ∃ k : Nat, k ≤ ps.length ∧ iv = .int .i64 k ∧ nv = .int .i64 ((flP (ps.take k)).length : Int) ∧ wr = w) (fun _ iv _ => ps.length - (intOf iv).toNat)
  case atStart => exact ⟨0, Nat.zero_le _, rfl, rfl, rfl⟩
  case round =>
    obtain ⟨k, hkl, rfl, rfl, rfl⟩ := hrel
    by_cases hlt : k < ps.length
    · have c0 := Hc.out k hlt
      have r0 := HR.out k hlt
      have hli : (k : Int) < (ps.length : Int) := by omega
      have hsn := flP_snoc ps k hlt
      have hl1 := Hle.out (k + 1)
      rw [hsn, List.length_append] at hl1
      have HF := hide hsn
      generalize ps[k] = p at c0 r0 hsn hl1 HF
      obtain ⟨v, l⟩ := p
      simp only at c0 r0 hl1 HF
      have HC := hide (partLen_any v l wr r0 (by omega))
      obtain ⟨n1, hn1⟩ : ∃ n, (flP (ps.take k)).length = n := ⟨_, rfl⟩
      rw [hn1] at hl1 ⊢
      have Hn1 := hide hn1
      obtain ⟨n2, hn2⟩ : ∃ n, l.length = n := ⟨_, rfl⟩
      rw [hn2] at hl1 HC
      have Hn2 := hide hn2
      have hwz : IntKind.i64.wrap ((n1 : Int) + (n2 : Int)) = ((n1 + n2 : Nat) : Int) := by rw [IntKind.wrap_i64]; omega
      obtain ⟨a, c, rfl⟩ := r0.shape
      clear r0 hsn hn1 hn2
      go_wp2_with fail
      refine HC.out.mono ?_
      rintro e w2 ⟨rfl, rfl⟩
      go_wp2
      go_roundw
      case rel => exact ⟨k + 1, by omega, by go_num, by rw [HF.out, List.length_append, Hn1.out, Hn2.out]; exact congrArg _ (by omega), by first | rfl | trivial⟩
      case measure => simp [intOf]; omega
    · have e : ps.take k = ps := List.take_of_length_le (by omega)
      rw [e]
      clear e
      go_wp2
      go_ret
      exact ⟨rfl, rfl⟩
set_option maxRecDepth 20000 in
set_option maxHeartbeats 2000000 in
theorem implJoined_any (ps : List (Value × List UInt8)) (g off : Nat) (w : World) (hg : g < w.heap.size) (hc : ∀ i (h : i < ps.length), w.cell? ⟨g, off + i, none⟩ = some ps[i].1) (hR : ∀ i (h : i < ps.length), RdB w ps[i].1 ps[i].2) (hz : (flP ps).length ≤ 1000000) (hn : ps.length ≤ 100) :
    Calls Tryz.prog 42 #[.slice (some ⟨g, off, none⟩) ps.length ps.length] w fun e w' => ∃ v', e = .returned v' ∧ OwnB w.heap.size w' v' (flP ps) ∧ Below w.heap.size w w' := by
  obtain ⟨i0, hi, hz0, hz1, hz2⟩ := info_parts Tryz.infoU8
  have HS := hide (sumParts_any ps g off w hg hc hR hz hn)
  have Hc := hide hc
  have HR := hide hR
  have Hle := hide (flP_le ps)
  obtain ⟨N, hN⟩ : ∃ N, (flP ps).length = N := ⟨_, rfl⟩
  rw [hN] at HS hz Hle
  have HN := hide hN
  clear hc hR hN
  go_enter Tryz.func42, Tryz.ntmps42
  go_wp2_with (first
    | (go_at_call 111; refine HS.out.mono ?_; rintro e w1 ⟨rfl, hw1⟩; subst hw1)
    | (refine wpList_make_full _ rfl _ _ 22 rfl w1.heap.size 5 i0 (.int .u8 0) 1 Tryz.underlying22 hi hz0 hz1 .i64 .i64 _ _ N rfl rfl (by omega) (by omega) (by rw [hz2]; omega) (by unfold maxLen; omega) (Nat.le_refl _) ?_; intro w2 hown hgrow; have Hblk := hide (made9 hown); have Hb2 : Hid (Below w1.heap.size w1 w2) := hide ((Below.refl _ _).grown hgrow (Nat.le_refl _) (by intro k hk; cases hk)); clear hown hgrow))
  go_loopw [4, 13] (fun av iv wr => ∃ k : Nat, k ≤ ps.length ∧ iv = .int .i64 (k : Int) ∧ av = .int .i64 ((flP (ps.take k)).length : Int) ∧ wr.heap[w1.heap.size]? = some (.cells (roomB (flP (ps.take k)) N).toArray 5 (0, 0)) ∧ Below w1.heap.size w1 wr) (fun _ iv _ => ps.length - (intOf iv).toNat)
  case atStart => exact ⟨0, Nat.zero_le _, rfl, rfl, Hblk.out, Hb2.out⟩
  case round =>
    clear Hblk Hb2
    obtain ⟨k, hkl, rfl, rfl, hblk, hb⟩ := hrel
    by_cases hlt : k < ps.length
    · have c0 := (hb.cell (p := ⟨g, off + k, none⟩) hg).trans (Hc.out k hlt)
      have r0 := HR.out k hlt
      have hli : (k : Int) < (ps.length : Int) := by omega
      have HF := hide (flP_snoc ps k hlt)
      have hl1 := Hle.out (k + 1)
      rw [HF.out, List.length_append] at hl1
      generalize ps[k] = p at c0 r0 HF hl1
      obtain ⟨v, l⟩ := p
      simp only at c0 r0 HF hl1
      generalize flP (ps.take k) = pre at hblk HF hl1 ⊢
      obtain ⟨A, hA⟩ : ∃ n, pre.length = n := ⟨_, rfl⟩
      obtain ⟨n, hnl⟩ : ∃ n, l.length = n := ⟨_, rfl⟩
      obtain ⟨a, c, hv⟩ := r0.shape
      subst hv
      rw [hA, hnl] at hl1
      rw [hA]
      rw [hnl] at c0 r0
      have hwz : IntKind.i64.wrap ((A : Int) + (n : Int)) = ((A + n : Nat) : Int) := by rw [IntKind.wrap_i64]; omega
      have hl2 : ((A + n : Nat) : Int) ≤ (N : Int) := by omega
      have HA := hide hA
      have Hnl := hide hnl
      have Hblk := hide hblk
      have Hb := hide hb
      have Hr0 := hide r0
      have hAn : (A : Int) ≤ ((A + n : Nat) : Int) := by omega
      clear hblk hb r0 hA hnl
      by_cases hn0 : n = 0
      · subst hn0
        have hrun := run_copy_none (P := Tryz.prog) wr 22 22 3 5 (some ⟨w1.heap.size, 0, none⟩) a 0 0 0 c Tryz.underlying22 sizeU89 rfl
        have hl0 : Hid (l = []) := hide (List.eq_nil_of_length_eq_zero Hnl.out)
        clear hwz hl2 hAn
        have hAN : (A : Int) ≤ (N : Int) := by omega
        go_wp2
        go_roundw
        case rel => exact ⟨k + 1, by omega, by go_num, by rw [HF.out, List.length_append, HA.out, Hnl.out]; first | rfl | exact congrArg _ (by omega), by rw [HF.out]; exact by rw [hl0.out, List.append_nil]; exact Hblk.out, Hb.out⟩
        case measure => simp [intOf]; omega
      · obtain ⟨w3, hrun, hg3, hb3⟩ := copy_run wr w1 w1.heap.size N n c A a l pre Hnl.out HA.out (by omega) Hblk.out (by omega) Hr0.out Hb.out (Nat.le_refl _)
        have hpos : ¬ (((A + n : Nat) : Int) = (A : Int)) := by omega
        have hltA : (A : Int) < (N : Int) := by omega
        have Hg3 := hide hg3
        have Hb3 := hide hb3
        clear hg3 hb3
        go_wp2
        go_roundw
        case rel => exact ⟨k + 1, by omega, by go_num, by rw [HF.out, List.length_append, HA.out, Hnl.out]; first | rfl | exact congrArg _ (by omega), by rw [HF.out]; exact Hg3.out, Hb3.out⟩
        case measure => simp [intOf]; omega
    · have e : ps.take k = ps := List.take_of_length_le (by omega)
      rw [e] at hblk
      have Ho := hide (ofBlock9 (base := w1.heap.size) HN.out (Nat.le_refl _) (by unfold maxLen; omega) hblk)
      have Hb := hide hb
      clear e hblk hb
      go_wp2
      go_ret
      exact ⟨_, rfl, Ho.out, Hb.out⟩
end Go.Proofs.YtkjlmnhdmlolmaaGreatDoor

namespace Go.Proofs.YtkjlmnhdmlolmaaGreatDoor
open Go.RowKit
set_option linter.unusedVariables false

theorem five_c {w : World} {T : TypeId} {x0 x1 x2 x3 x4 : Value × List UInt8} {G : Nat} (hG : G = w.heap.size) : ∀ i (h : i < [x0, x1, x2, x3, x4].length), (w.alloc (.cells #[x0.1, x1.1, x2.1, x3.1, x4.1] T)).cell? ⟨G, 0 + i, none⟩ = some [x0, x1, x2, x3, x4][i].1 := by
  subst hG
  intro i hi
  simp only [List.length_cons, List.length_nil] at hi
  rw [World.cell?_alloc_at _ _ _ _ rfl]
  rcases (show i = 0 ∨ i = 1 ∨ i = 2 ∨ i = 3 ∨ i = 4 from by omega) with rfl | rfl | rfl | rfl | rfl <;> rfl
theorem five_r {w : World} {x0 x1 x2 x3 x4 : Value × List UInt8} (h0 : RdB w x0.1 x0.2) (h1 : RdB w x1.1 x1.2) (h2 : RdB w x2.1 x2.2) (h3 : RdB w x3.1 x3.2) (h4 : RdB w x4.1 x4.2) : ∀ i (h : i < [x0, x1, x2, x3, x4].length), RdB w [x0, x1, x2, x3, x4][i].1 [x0, x1, x2, x3, x4][i].2 := by
  intro i hi
  simp only [List.length_cons, List.length_nil] at hi
  rcases (show i = 0 ∨ i = 1 ∨ i = 2 ∨ i = 3 ∨ i = 4 from by omega) with rfl | rfl | rfl | rfl | rfl
  · exact h0
  · exact h1
  · exact h2
  · exact h3
  · exact h4
theorem parts_len {b : Bk} (hk : PutK b) : (hB9 b).length ≤ 1000 ∧ (qB9 b.qr b.qb b.qw).length ≤ 1000 ∧ (tB9 b.tr b.tw b.th).length ≤ 1000 ∧ (xB9 b.ts b.ts.length).length ≤ 1000 ∧ (eB9 b).length ≤ 2000 := by
  have h1 := numsB_len [b.id, b.ep, b.rd]
  have h2 := textB_len b.md
  have h3 := numsB_len [b.qr, b.qb]
  have h4 := namesB_len b.qw
  have h5 := numsB_len [b.tr]
  have h6 := namesB_len b.tw
  have h7 := numsB_len b.th
  have h8 := xB9_len b.ts b.ts.length hk.ts (fun t ht => ⟨(hk.tb t ht).1, (hk.tb t ht).2.1⟩)
  have h9 := nB9_len b b.nx.length hk.nx (fun p hp => (hk.nb p hp).1)
  have h10 := textB_len b.rt
  have a1 := hk.md
  have a2 := hk.qw
  have a3 := hk.tw
  have a4 := hk.th
  have a5 := hk.rt
  have e1 : textsB [b.md] = textB b.md := by simp [textsB]
  have e2 : textsB [b.rt] = textB b.rt := by simp [textsB]
  simp only [List.length_cons, List.length_nil] at h1 h3 h5
  refine ⟨?_, ?_, ?_, h8, ?_⟩
  · unfold hB9; rw [List.length_append, e1]; omega
  · unfold qB9; rw [List.length_append]; omega
  · unfold tB9; rw [List.length_append, List.length_append]; omega
  · unfold eB9; rw [List.length_append, e2]; omega
set_option maxRecDepth 20000 in
set_option maxHeartbeats 4000000 in
theorem implPutBlock_any (b : Bk) (v : Bv) (w : World) (hr : RdK w b v) (hf : FewK b) (hbd : -9223372036854775808 ≤ b.tr ∧ b.tr ≤ 9223372036854775807) :
    Calls Tryz.prog 16 #[bkV b v] w fun e w' => ∃ v', e = .returned v' ∧ OwnB w.heap.size w' v' (blP b) ∧ Below w.heap.size w w' := by
  have HK := hide (fun V (hV : Below w.heap.size w V) => implBlockOk_any b v V (hr.below hV (Nat.le_refl _)) hf hbd)
  have HX : Hid (blP b = if blB b = true then n9P b b.nx.length ++ textB b.rt else []) := hide rfl
  have HPut := hide (bl_put (b := b))
  have HPi := hide (blP_is b)
  have Htx : Hid (blB b = true → ∀ t ∈ b.ts, txB t = true) := hide (fun h => by
    unfold blB at h
    simp only [Bool.and_eq_true, decide_eq_true_eq] at h
    have h8 := h.2.2.2.2.2.2.2.1
    rwa [List.all_eq_true] at h8)
  have HH := hide (fun (hk : PutK b) V (hV : Below w.heap.size w V) => implHeadB_any b v V (hr.below hV (Nat.le_refl _)) hk)
  have HQ := hide (fun (hk : PutK b) V (hV : Below w.heap.size w V) => implQcB_any b.qr b.qb v.q b.qw V (hr.q.below hV (Nat.le_refl _)) (by have := hk.qr; omega) hk.qb hk.qw.1 hk.qw.2)
  have HT := hide (fun (hk : PutK b) V (hV : Below w.heap.size w V) => implTcB_any b.tr v.w v.h b.tw b.th V (hr.p.below hV (Nat.le_refl _)) (hr.h.below hV (Nat.le_refl _)) (by have := hk.tr; omega) hk.tw.1 hk.tw.2 hk.th hk.hb)
  have HO := hide (fun (hk : PutK b) (hx : ∀ t ∈ b.ts, txB t = true) V (hV : Below w.heap.size w V) => implTxsB_any v.t b.ts V (hr.t.below hV (Nat.le_refl _)) hk.ts hx)
  have HE := hide (fun (hk : PutK b) V (hV : Below w.heap.size w V) => implEndB_any b v V (hr.below hV (Nat.le_refl _)) hk)
  have HL := hide (parts_len (b := b))
  generalize blP b = XX at HX HPi ⊢
  generalize blB b = Z0 at HX HK HPut HPi Htx
  generalize hB9 b = B1 at HPi HH HL
  generalize qB9 b.qr b.qb b.qw = B2 at HPi HQ HL
  generalize tB9 b.tr b.tw b.th = B3 at HPi HT HL
  generalize xB9 b.ts b.ts.length = B4 at HPi HO HL
  generalize eB9 b = B5 at HPi HE HL
  clear hf hbd
  cases Z0
  · rw [if_neg (by simp)] at HX
    clear HPut HPi Htx HH HQ HT HO HE HL
    obtain ⟨id, ep, rd, mk, qr, qb, qw, tr, tw, th, ts, en, nx, rt⟩ := b
    obtain ⟨vq, vw, vh, vt, vn⟩ := v
    obtain ⟨hq, hw, hh, ht, hn⟩ := hr
    simp only [bkV] at *
    obtain ⟨aq, cq, rfl⟩ := hq.shape
    obtain ⟨aw, cw, rfl⟩ := hw.shape
    obtain ⟨ah, ch, rfl⟩ := hh.shape
    obtain ⟨at_, ct, rfl⟩ := ht.shape
    obtain ⟨an, cn, rfl⟩ := hn.shape
    obtain ⟨w1, hw1⟩ : ∃ x, w.alloc (.cells #[.int .i64 id, .int .i64 ep, .int .i64 rd, .string mk, .int .i64 qr, .int .i64 qb, .slice aq qw.length cq, .int .i64 tr, .slice aw tw.length cw, .slice ah th.length ch, .slice at_ ts.length ct, .bool en, .slice an nx.length cn, .string rt] 47) = x := ⟨_, rfl⟩
    have b1 : Below w.heap.size w w1 := by rw [← hw1]; exact (Below.refl _ w).alloc (Nat.le_refl _) _
    have k1 : Blk w1 w.heap.size 47 [.int .i64 id, .int .i64 ep, .int .i64 rd, .string mk, .int .i64 qr, .int .i64 qb, .slice aq qw.length cq, .int .i64 tr, .slice aw tw.length cw, .slice ah th.length ch, .slice at_ ts.length ct, .bool en, .slice an nx.length cn, .string rt] := by rw [← hw1]; exact Blk.new w _ _
    have K1 := hide k1
    have HB1 := hide b1
    have HK1 := hide (HK.out w1 b1)
    have x0 := k1.cell 0
    have x1 := k1.cell 1
    have x2 := k1.cell 2
    have x3 := k1.cell 3
    have x4 := k1.cell 4
    have x5 := k1.cell 5
    have x6 := k1.cell 6
    have x7 := k1.cell 7
    have x8 := k1.cell 8
    have x9 := k1.cell 9
    have x10 := k1.cell 10
    have x11 := k1.cell 11
    have x12 := k1.cell 12
    have x13 := k1.cell 13
    simp only [List.getElem?_cons_zero, List.getElem?_cons_succ] at x0 x1 x2 x3 x4 x5 x6 x7 x8 x9 x10 x11 x12 x13
    clear hq hw hh ht hn k1 b1 HK
    go_enter Tryz.func16, Tryz.ntmps16
    go_wp2_with fail
    refine HK1.out.mono ?_
    rintro e w2 ⟨rfl, hb2⟩
    have HB2 := hide (HB1.out.trans (hb2.mono HB1.out.size))
    have Ho := hide (own_nil w2 w.heap.size HB2.out.size)
    clear x0 x1 x2 x3 x4 x5 x6 x7 x8 x9 x10 x11 x12 x13 hw1 hb2
    go_wp2
    go_ret
    exact ⟨_, rfl, by rw [HX.out]; exact Ho.out, HB2.out.alloc HB2.out.size _⟩
  · rw [if_pos rfl] at HX
    have hk := HPut.out rfl
    have GH := hide (HH.out hk)
    have GQ := hide (HQ.out hk)
    have GT := hide (HT.out hk)
    have GO := hide (HO.out hk (Htx.out rfl))
    have GE := hide (HE.out hk)
    obtain ⟨g1, g2, g3, g4, g5⟩ := HL.out hk
    have GP := hide (HPi.out rfl)
    clear HPut Htx HL hk HX HH HQ HT HO HE HPi
    obtain ⟨id, ep, rd, mk, qr, qb, qw, tr, tw, th, ts, en, nx, rt⟩ := b
    obtain ⟨vq, vw, vh, vt, vn⟩ := v
    obtain ⟨hq, hw, hh, ht, hn⟩ := hr
    simp only [bkV] at *
    obtain ⟨aq, cq, rfl⟩ := hq.shape
    obtain ⟨aw, cw, rfl⟩ := hw.shape
    obtain ⟨ah, ch, rfl⟩ := hh.shape
    obtain ⟨at_, ct, rfl⟩ := ht.shape
    obtain ⟨an, cn, rfl⟩ := hn.shape
    obtain ⟨w1, hw1⟩ : ∃ x, w.alloc (.cells #[.int .i64 id, .int .i64 ep, .int .i64 rd, .string mk, .int .i64 qr, .int .i64 qb, .slice aq qw.length cq, .int .i64 tr, .slice aw tw.length cw, .slice ah th.length ch, .slice at_ ts.length ct, .bool en, .slice an nx.length cn, .string rt] 47) = x := ⟨_, rfl⟩
    have b1 : Below w.heap.size w w1 := by rw [← hw1]; exact (Below.refl _ w).alloc (Nat.le_refl _) _
    have k1 : Blk w1 w.heap.size 47 [.int .i64 id, .int .i64 ep, .int .i64 rd, .string mk, .int .i64 qr, .int .i64 qb, .slice aq qw.length cq, .int .i64 tr, .slice aw tw.length cw, .slice ah th.length ch, .slice at_ ts.length ct, .bool en, .slice an nx.length cn, .string rt] := by rw [← hw1]; exact Blk.new w _ _
    have K1 := hide k1
    have HB1 := hide b1
    have HK1 := hide (HK.out w1 b1)
    have x0 := k1.cell 0
    have x1 := k1.cell 1
    have x2 := k1.cell 2
    have x3 := k1.cell 3
    have x4 := k1.cell 4
    have x5 := k1.cell 5
    have x6 := k1.cell 6
    have x7 := k1.cell 7
    have x8 := k1.cell 8
    have x9 := k1.cell 9
    have x10 := k1.cell 10
    have x11 := k1.cell 11
    have x12 := k1.cell 12
    have x13 := k1.cell 13
    simp only [List.getElem?_cons_zero, List.getElem?_cons_succ] at x0 x1 x2 x3 x4 x5 x6 x7 x8 x9 x10 x11 x12 x13
    clear hq hw hh ht hn k1 b1 HK
    simp only [qcV, tcV] at GQ GT
    go_enter Tryz.func16, Tryz.ntmps16
    go_wp2_with fail
    refine HK1.out.mono ?_
    rintro e w2 ⟨rfl, hb2⟩
    have hB2 := HB1.out.trans (hb2.mono HB1.out.size)
    have k2 := K1.out.below hb2 K1.out.lt
    have HSS : Hid (∀ V, Below w2.heap.size w2 V → (V.cell? ⟨w.heap.size, 0, none⟩ = some (.int .i64 id) ∧ V.cell? ⟨w.heap.size, 1, none⟩ = some (.int .i64 ep) ∧ V.cell? ⟨w.heap.size, 2, none⟩ = some (.int .i64 rd) ∧ V.cell? ⟨w.heap.size, 3, none⟩ = some (.string mk) ∧ V.cell? ⟨w.heap.size, 4, none⟩ = some (.int .i64 qr) ∧ V.cell? ⟨w.heap.size, 5, none⟩ = some (.int .i64 qb) ∧ V.cell? ⟨w.heap.size, 6, none⟩ = some (.slice aq qw.length cq) ∧ V.cell? ⟨w.heap.size, 7, none⟩ = some (.int .i64 tr) ∧ V.cell? ⟨w.heap.size, 8, none⟩ = some (.slice aw tw.length cw) ∧ V.cell? ⟨w.heap.size, 9, none⟩ = some (.slice ah th.length ch) ∧ V.cell? ⟨w.heap.size, 10, none⟩ = some (.slice at_ ts.length ct) ∧ V.cell? ⟨w.heap.size, 11, none⟩ = some (.bool en) ∧ V.cell? ⟨w.heap.size, 12, none⟩ = some (.slice an nx.length cn) ∧ V.cell? ⟨w.heap.size, 13, none⟩ = some (.string rt))) := hide (fun V hv => by have kv := k2.below hv k2.lt; exact ⟨kv.cell 0, kv.cell 1, kv.cell 2, kv.cell 3, kv.cell 4, kv.cell 5, kv.cell 6, kv.cell 7, kv.cell 8, kv.cell 9, kv.cell 10, kv.cell 11, kv.cell 12, kv.cell 13⟩)
    have bD : Below w2.heap.size w2 w2.drew := (Below.refl _ w2).drew
    have HB2 := hide hB2
    clear x0 x1 x2 x3 x4 x5 x6 x7 x8 x9 x10 x11 x12 x13 hw1 hb2 k2 hB2
    go_wp2
    go_region_held_law (fun w' => w'.cell? ⟨w.heap.size, 0, none⟩ = some (.int .i64 id) ∧ w'.cell? ⟨w.heap.size, 1, none⟩ = some (.int .i64 ep) ∧ w'.cell? ⟨w.heap.size, 2, none⟩ = some (.int .i64 rd) ∧ w'.cell? ⟨w.heap.size, 3, none⟩ = some (.string mk) ∧ w'.cell? ⟨w.heap.size, 4, none⟩ = some (.int .i64 qr) ∧ w'.cell? ⟨w.heap.size, 5, none⟩ = some (.int .i64 qb) ∧ w'.cell? ⟨w.heap.size, 6, none⟩ = some (.slice aq qw.length cq) ∧ w'.cell? ⟨w.heap.size, 7, none⟩ = some (.int .i64 tr) ∧ w'.cell? ⟨w.heap.size, 8, none⟩ = some (.slice aw tw.length cw) ∧ w'.cell? ⟨w.heap.size, 9, none⟩ = some (.slice ah th.length ch) ∧ w'.cell? ⟨w.heap.size, 10, none⟩ = some (.slice at_ ts.length ct) ∧ w'.cell? ⟨w.heap.size, 11, none⟩ = some (.bool en) ∧ w'.cell? ⟨w.heap.size, 12, none⟩ = some (.slice an nx.length cn) ∧ w'.cell? ⟨w.heap.size, 13, none⟩ = some (.string rt)) ((refine HSS.out _ ?_; repeat (first | with_reducible exact c8 | with_reducible exact c9 | with_reducible exact c7 | with_reducible exact c6 | with_reducible exact c5 | with_reducible exact c4 | with_reducible exact c3 | with_reducible exact bD | with_reducible exact Below.refl _ _ | refine Below.drew ?_))) ((first
      | (go_at_call 42; refine (implJoined_any [(_, B1), (_, B2), (_, B3), (_, B4), (_, B5)] _ 0 _ (by simp) (five_c rfl) (five_r (((((ho3.rd.below hb4 (Nat.le_refl _)).below hb5 (Nat.le_refl _)).below hb6 (Nat.le_refl _)).below hb7 (Nat.le_refl _)).below ((Below.refl _ _).alloc (Nat.le_refl _) _) (Nat.le_refl _)) ((((ho4.rd.below hb5 (Nat.le_refl _)).below hb6 (Nat.le_refl _)).below hb7 (Nat.le_refl _)).below ((Below.refl _ _).alloc (Nat.le_refl _) _) (Nat.le_refl _)) (((ho5.rd.below hb6 (Nat.le_refl _)).below hb7 (Nat.le_refl _)).below ((Below.refl _ _).alloc (Nat.le_refl _) _) (Nat.le_refl _)) ((ho6.rd.below hb7 (Nat.le_refl _)).below ((Below.refl _ _).alloc (Nat.le_refl _) _) (Nat.le_refl _)) ((ho7.rd).below ((Below.refl _ _).alloc (Nat.le_refl _) _) (Nat.le_refl _))) (by simp only [flP, List.flatMap_cons, List.flatMap_nil, List.length_append, List.length_nil]; omega) (by simp)).mono ?_; rintro e w9 ⟨v9, rfl, ho9, hb9⟩; have c9 := c8.trans (hb9.mono c8.size))
      | (go_at_call 47; (with_reducible refine (GE.out _ (HB2.out.trans (c6.mono HB2.out.size))).mono ?_); rintro e w7 ⟨v7, rfl, ho7, hb7⟩; obtain ⟨a7, d7, rfl⟩ := ho7.rd.shape; have c7 := c6.trans (hb7.mono c6.size); have c8 := c7.alloc c7.size (.cells #[.slice a3 B1.length d3, .slice a4 B2.length d4, .slice a5 B3.length d5, .slice a6 B4.length d6, .slice a7 B5.length d7] 22))
      | (go_at_call 46; (with_reducible refine (GO.out _ (HB2.out.trans (c5.mono HB2.out.size))).mono ?_); rintro e w6 ⟨v6, rfl, ho6, hb6⟩; obtain ⟨a6, d6, rfl⟩ := ho6.rd.shape; have c6 := c5.trans (hb6.mono c5.size))
      | (go_at_call 45; (with_reducible refine (GT.out _ (HB2.out.trans (c4.mono HB2.out.size))).mono ?_); rintro e w5 ⟨v5, rfl, ho5, hb5⟩; obtain ⟨a5, d5, rfl⟩ := ho5.rd.shape; have c5 := c4.trans (hb5.mono c4.size))
      | (go_at_call 44; (with_reducible refine (GQ.out _ (HB2.out.trans (c3.mono HB2.out.size))).mono ?_); rintro e w4 ⟨v4, rfl, ho4, hb4⟩; obtain ⟨a4, d4, rfl⟩ := ho4.rd.shape; have c4 := c3.trans (hb4.mono c3.size))
      | (go_at_call 43; (with_reducible refine (GH.out _ (HB2.out.trans (bD.mono HB2.out.size))).mono ?_); rintro e w3 ⟨v3, rfl, ho3, hb3⟩; obtain ⟨a3, d3, rfl⟩ := ho3.rd.shape; have c3 := bD.trans (hb3.mono bD.size))))
    have e9 : flP [(Value.slice a3 B1.length d3, B1), (Value.slice a4 B2.length d4, B2), (Value.slice a5 B3.length d5, B3), (Value.slice a6 B4.length d6, B4), (Value.slice a7 B5.length d7, B5)] = XX := by
      rw [← GP.out]
      simp only [flP, List.flatMap_cons, List.flatMap_nil, List.append_nil]
    rw [e9] at ho9
    have hB9' := HB2.out.trans (c9.mono HB2.out.size)
    have Ho := hide (OwnB.mono ho9 (Nat.le_trans HB2.out.size c8.size))
    clear ho9 e9
    go_wp2
    go_ret
    exact ⟨_, rfl, Ho.out, hB9'⟩
end Go.Proofs.YtkjlmnhdmlolmaaGreatDoor
