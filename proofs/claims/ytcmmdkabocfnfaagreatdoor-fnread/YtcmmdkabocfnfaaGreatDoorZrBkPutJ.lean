/- The landed code's PutBlock: the parts joined. -/
import Derived.Test.YtcmmdkabocfnfaaGreatDoorZrBkPutP
import Derived.Laws.CopyOwn
import Derived.Laws.MakeOwn
namespace Go.Proofs.YtcmmdkabocfnfaaGreatDoor
open Go.RowKit
set_option linter.unusedVariables false

/-- Parts, one behind the other. -/
def flP (ps : List (Value × List UInt8)) : List UInt8 := ps.flatMap (·.2)
theorem flP_snoc (ps : List (Value × List UInt8)) (k : Nat) (h : k < ps.length) : flP (ps.take (k + 1)) = flP (ps.take k) ++ ps[k].2 := by
  unfold flP; rw [List.take_succ_eq_append_getElem h]; simp only [List.flatMap_append, List.flatMap_cons, List.flatMap_nil, List.append_nil]
theorem flP_le (ps : List (Value × List UInt8)) (k : Nat) : (flP (ps.take k)).length ≤ (flP ps).length := by
  have e : flP ps = flP (ps.take k) ++ flP (ps.drop k) := by
    unfold flP; rw [← List.flatMap_append, List.take_append_drop]
  rw [e, List.length_append]; omega
theorem sizeU89 : (Tryz.prog.info? 5).map (·.size) = some 1 := by kernel_rfl
theorem RdB.src9 {w0 w : World} {av : Option Addr} {cv n : Nat} {l : List UInt8} (h : RdB w0 (.slice av n cv) l) (hn : l.length = n) (hb : Below w0.heap.size w0 w) (h0 : 0 < (l.map cb).length) : ∃ ad, av = some ad ∧ ∀ j u, (l.map cb)[j]? = some u → w.cell? (ad.add j) = some u := by
  subst hn
  have h := h.below hb (Nat.le_refl _)
  rcases h with ⟨a, cap, hv, rfl, -⟩ | ⟨b, off, cap, hne, hv, h1, h2, h3, h4⟩
  · simp at h0
  · simp only [Value.slice.injEq, true_and] at hv
    obtain ⟨rfl, rfl⟩ := hv
    refine ⟨_, rfl, ?_⟩
    intro j u hj
    have hj' : j < l.length := by have := (List.getElem?_eq_some_iff.1 hj).1; simpa using this
    have ea : (⟨b, off, none⟩ : Addr).add j = ⟨b, off + j, none⟩ := by
      by_cases hz : j = 0
      · subst hz; simp [Addr.add]
      · simp [Addr.add, hz]
    rw [ea, h4 j hj']
    simp [hj', cb] at hj
    rw [← hj]
/-- What is laid so far, and the room behind it. -/
def roomB (pre : List UInt8) (N : Nat) : List Value := pre.map cb ++ List.replicate (N - pre.length) (Value.int .u8 0)
theorem room_splice (pre l : List UInt8) (N : Nat) (h : pre.length + l.length ≤ N) : splice (roomB pre N) pre.length (l.map cb) = roomB (pre ++ l) N := by
  unfold splice roomB
  have e1 : (pre.map cb ++ List.replicate (N - pre.length) (Value.int .u8 0)).take pre.length = pre.map cb := by
    rw [List.take_append_of_le_length (by simp), List.take_of_length_le (by simp)]
  have e2 : (pre.map cb ++ List.replicate (N - pre.length) (Value.int .u8 0)).drop (pre.length + (l.map cb).length) = List.replicate (N - (pre ++ l).length) (Value.int .u8 0) := by
    rw [List.drop_append, List.drop_eq_nil_of_le (by simp), List.nil_append, List.drop_replicate]
    simp only [List.length_map, List.length_append]
    congr 1; omega
  rw [e1, e2, List.map_append, List.append_assoc]
theorem copy_run (w w0 : World) (g N n cv A : Nat) (av : Option Addr) (l pre : List UInt8) (hn : l.length = n) (hA : pre.length = A) (h0 : 0 < n)
    (hblk : w.heap[g]? = some (.cells (roomB pre N).toArray 5 (0, 0))) (hN : A + n ≤ N) (hr : RdB w0 (.slice av n cv) l) (hb : Below w0.heap.size w0 w) (hBg : w0.heap.size ≤ g) :
    ∃ w', (Builtin.copy_ #[22, 22] 3 #[.slice (some ⟨g, A, none⟩) n n, .slice av n cv]).run Tryz.prog w = .ok (goInt n) w' ∧ w'.heap[g]? = some (.cells (roomB (pre ++ l) N).toArray 5 (0, 0)) ∧ Below w0.heap.size w0 w' := by
  subst hn hA
  obtain ⟨ad, rfl, hsrc⟩ := RdB.src9 hr rfl hb (by simpa using h0)
  have h := run_copy_row (P := Tryz.prog) w 22 22 3 5 g pre.length l.length l.length ad l.length cv (roomB pre N).toArray 5 (l.map cb) Tryz.underlying22 sizeU89 hblk (by rw [List.length_map]; exact (Nat.min_self _).symm) hsrc (by simp [roomB]; omega) (by intro u hu; obtain ⟨c, _, rfl⟩ := List.mem_map.1 hu; rfl)
  have e := room_splice pre l N hN
  unfold splice at e
  rw [List.append_assoc, e, List.length_map] at h
  exact ⟨_, h, setRow_heap w g _ _ 5 _ hblk, below_setRow hb hBg _⟩
theorem ofBlock9 {base : Nat} {w : World} {g n : Nat} {l : List UInt8} (hn : l.length = n) (hb : base ≤ g) (hm : n ≤ maxLen) (h : w.heap[g]? = some (.cells (roomB l n).toArray 5 (0, 0))) : OwnB base w (.slice (some ⟨g, 0, none⟩) n n) l := by
  subst hn
  have e : roomB l l.length = l.map cb := by simp [roomB]
  rw [e] at h
  exact ⟨by simp, .inr ⟨g, l.length, _, rfl, hb, h, Nat.le_refl _, hm, by simp, by rw [Nat.mul_one]; exact List.take_of_length_le (by simp)⟩⟩
theorem made9 {base : Nat} {w : World} {g N : Nat} (h : w.ownsRow base 5 1 (.slice (some ⟨g, 0, none⟩) N N) N (madeCells (Value.int IntKind.u8 0).cells (N * 1)).toList) : w.heap[g]? = some (.cells (roomB [] N).toArray 5 (0, 0)) := by
  have e : (madeCells (Value.int IntKind.u8 0).cells (N * 1)).toList = List.replicate N (Value.int .u8 0) := by
    rw [Nat.mul_one]; exact toList_madeCells_one _ _
  rw [e] at h
  have er : roomB [] N = List.replicate N (Value.int .u8 0) := by simp [roomB]
  rw [er]
  rcases h.2 with ⟨hv, _⟩ | ⟨g', cap, cur, hv, hb, hg, hnc, hcm, hcs, ht⟩
  · simp at hv
  · simp only [Value.slice.injEq, Option.some.injEq, Addr.mk.injEq, and_true, true_and] at hv
    obtain ⟨rfl, rfl⟩ := hv
    rw [hg, ← ht, List.take_of_length_le (by simp [hcs])]
set_option maxRecDepth 20000 in
theorem partLen_any (v : Value) (l : List UInt8) (w : World) (hr : RdB w v l) (hl : l.length ≤ 1000000) :
    Calls Tryz.prog 101 #[v] w fun e w' => e = .returned (.int .i64 (l.length : Int)) ∧ w' = w := by
  obtain ⟨a, c, rfl⟩ := hr.shape
  clear hr
  go_enter Tryz.func101, Tryz.ntmps101
  go_wp2
  go_ret
  exact ⟨rfl, rfl⟩
set_option maxRecDepth 20000 in
set_option maxHeartbeats 1000000 in
theorem sumParts_any (ps : List (Value × List UInt8)) (g off : Nat) (w : World) (hg : g < w.heap.size) (hc : ∀ i (h : i < ps.length), w.cell? ⟨g, off + i, none⟩ = some ps[i].1) (hR : ∀ i (h : i < ps.length), RdB w ps[i].1 ps[i].2) (hz : (flP ps).length ≤ 1000000) (hn : ps.length ≤ 100) :
    Calls Tryz.prog 100 #[.slice (some ⟨g, off, none⟩) ps.length ps.length, .func (.func 101) #[] #[]] w fun e w' => e = .returned (.int .i64 ((flP ps).length : Int)) ∧ w' = w := by
  have Hc := hide hc
  have HR := hide hR
  have Hle := hide (flP_le ps)
  clear hc hR
  go_enter Tryz.func100, Tryz.ntmps100
  go_wp2
  go_loopw [5, 10] (fun nv iv wr => ∃ k : Nat, k ≤ ps.length ∧ iv = .int .i64 k ∧ nv = .int .i64 ((flP (ps.take k)).length : Int) ∧ wr = w) (fun _ iv _ => ps.length - (intOf iv).toNat)
  case atStart => exact ⟨0, Nat.zero_le _, rfl, rfl, rfl⟩
  case round =>
    obtain ⟨k, hkl, rfl, rfl, rfl⟩ := hrel
    by_cases hlt : k < ps.length
    · have c0 := Hc.out k hlt
      have r0 := HR.out k hlt
      have hli : (k : Int) < (ps.length : Int) := by omega
      have hsn := flP_snoc ps k hlt
      have hl1 := Hle.out (k + 1)
      rw [hsn, List.length_append] at hl1
      have HF := hide hsn
      generalize ps[k] = p at c0 r0 hsn hl1 HF
      obtain ⟨v, l⟩ := p
      simp only at c0 r0 hl1 HF
      have HC := hide (partLen_any v l wr r0 (by omega))
      obtain ⟨n1, hn1⟩ : ∃ n, (flP (ps.take k)).length = n := ⟨_, rfl⟩
      rw [hn1] at hl1 ⊢
      have Hn1 := hide hn1
      obtain ⟨n2, hn2⟩ : ∃ n, l.length = n := ⟨_, rfl⟩
      rw [hn2] at hl1 HC
      have Hn2 := hide hn2
      have hwz : IntKind.i64.wrap ((n1 : Int) + (n2 : Int)) = ((n1 + n2 : Nat) : Int) := by rw [IntKind.wrap_i64]; omega
      obtain ⟨a, c, rfl⟩ := r0.shape
      clear r0 hsn hn1 hn2
      go_wp2_with fail
      refine HC.out.mono ?_
      rintro e w2 ⟨rfl, rfl⟩
      go_wp2
      go_roundw
      case rel => exact ⟨k + 1, by omega, by go_num, by rw [HF.out, List.length_append, Hn1.out, Hn2.out]; exact congrArg _ (by omega), by first | rfl | trivial⟩
      case measure => simp [intOf]; omega
    · have e : ps.take k = ps := List.take_of_length_le (by omega)
      rw [e]
      clear e
      go_wp2
      go_ret
      exact ⟨rfl, rfl⟩
set_option maxRecDepth 20000 in
set_option maxHeartbeats 2000000 in
theorem implJoined_any (ps : List (Value × List UInt8)) (g off : Nat) (w : World) (hg : g < w.heap.size) (hc : ∀ i (h : i < ps.length), w.cell? ⟨g, off + i, none⟩ = some ps[i].1) (hR : ∀ i (h : i < ps.length), RdB w ps[i].1 ps[i].2) (hz : (flP ps).length ≤ 1000000) (hn : ps.length ≤ 100) :
    Calls Tryz.prog 46 #[.slice (some ⟨g, off, none⟩) ps.length ps.length] w fun e w' => ∃ v', e = .returned v' ∧ OwnB w.heap.size w' v' (flP ps) ∧ Below w.heap.size w w' := by
  obtain ⟨i0, hi, hz0, hz1, hz2⟩ := info_parts Tryz.infoU8
  have HS := hide (sumParts_any ps g off w hg hc hR hz hn)
  have Hc := hide hc
  have HR := hide hR
  have Hle := hide (flP_le ps)
  obtain ⟨N, hN⟩ : ∃ N, (flP ps).length = N := ⟨_, rfl⟩
  rw [hN] at HS hz Hle
  have HN := hide hN
  clear hc hR hN
  go_enter Tryz.func46, Tryz.ntmps46
  go_wp2_with (first
    | (go_at_call 100; refine HS.out.mono ?_; rintro e w1 ⟨rfl, hw1⟩; subst hw1)
    | (refine wpList_make_full _ rfl _ _ 22 rfl w1.heap.size 5 i0 (.int .u8 0) 1 Tryz.underlying22 hi hz0 hz1 .i64 .i64 _ _ N rfl rfl (by omega) (by omega) (by rw [hz2]; omega) (by unfold maxLen; omega) (Nat.le_refl _) ?_; intro w2 hown hgrow; have Hblk := hide (made9 hown); have Hb2 : Hid (Below w1.heap.size w1 w2) := hide ((Below.refl _ _).grown hgrow (Nat.le_refl _) (by intro k hk; cases hk)); clear hown hgrow))
  go_loopw [4, 13] (fun av iv wr => ∃ k : Nat, k ≤ ps.length ∧ iv = .int .i64 (k : Int) ∧ av = .int .i64 ((flP (ps.take k)).length : Int) ∧ wr.heap[w1.heap.size]? = some (.cells (roomB (flP (ps.take k)) N).toArray 5 (0, 0)) ∧ Below w1.heap.size w1 wr) (fun _ iv _ => ps.length - (intOf iv).toNat)
  case atStart => exact ⟨0, Nat.zero_le _, rfl, rfl, Hblk.out, Hb2.out⟩
  case round =>
    clear Hblk Hb2
    obtain ⟨k, hkl, rfl, rfl, hblk, hb⟩ := hrel
    by_cases hlt : k < ps.length
    · have c0 := (hb.cell (p := ⟨g, off + k, none⟩) hg).trans (Hc.out k hlt)
      have r0 := HR.out k hlt
      have hli : (k : Int) < (ps.length : Int) := by omega
      have HF := hide (flP_snoc ps k hlt)
      have hl1 := Hle.out (k + 1)
      rw [HF.out, List.length_append] at hl1
      generalize ps[k] = p at c0 r0 HF hl1
      obtain ⟨v, l⟩ := p
      simp only at c0 r0 HF hl1
      generalize flP (ps.take k) = pre at hblk HF hl1 ⊢
      obtain ⟨A, hA⟩ : ∃ n, pre.length = n := ⟨_, rfl⟩
      obtain ⟨n, hnl⟩ : ∃ n, l.length = n := ⟨_, rfl⟩
      obtain ⟨a, c, hv⟩ := r0.shape
      subst hv
      rw [hA, hnl] at hl1
      rw [hA]
      rw [hnl] at c0 r0
      have hwz : IntKind.i64.wrap ((A : Int) + (n : Int)) = ((A + n : Nat) : Int) := by rw [IntKind.wrap_i64]; omega
      have hl2 : ((A + n : Nat) : Int) ≤ (N : Int) := by omega
      have HA := hide hA
      have Hnl := hide hnl
      have Hblk := hide hblk
      have Hb := hide hb
      have Hr0 := hide r0
      have hAn : (A : Int) ≤ ((A + n : Nat) : Int) := by omega
      clear hblk hb r0 hA hnl
      by_cases hn0 : n = 0
      · subst hn0
        have hrun := run_copy_none (P := Tryz.prog) wr 22 22 3 5 (some ⟨w1.heap.size, 0, none⟩) a 0 0 0 c Tryz.underlying22 sizeU89 rfl
        have hl0 : Hid (l = []) := hide (List.eq_nil_of_length_eq_zero Hnl.out)
        clear hwz hl2 hAn
        have hAN : (A : Int) ≤ (N : Int) := by omega
        go_wp2
        go_roundw
        case rel => exact ⟨k + 1, by omega, by go_num, by rw [HF.out, List.length_append, HA.out, Hnl.out]; first | rfl | exact congrArg _ (by omega), by rw [HF.out]; exact by rw [hl0.out, List.append_nil]; exact Hblk.out, Hb.out⟩
        case measure => simp [intOf]; omega
      · obtain ⟨w3, hrun, hg3, hb3⟩ := copy_run wr w1 w1.heap.size N n c A a l pre Hnl.out HA.out (by omega) Hblk.out (by omega) Hr0.out Hb.out (Nat.le_refl _)
        have hpos : ¬ (((A + n : Nat) : Int) = (A : Int)) := by omega
        have hltA : (A : Int) < (N : Int) := by omega
        have Hg3 := hide hg3
        have Hb3 := hide hb3
        clear hg3 hb3
        go_wp2
        go_roundw
        case rel => exact ⟨k + 1, by omega, by go_num, by rw [HF.out, List.length_append, HA.out, Hnl.out]; first | rfl | exact congrArg _ (by omega), by rw [HF.out]; exact Hg3.out, Hb3.out⟩
        case measure => simp [intOf]; omega
    · have e : ps.take k = ps := List.take_of_length_le (by omega)
      rw [e] at hblk
      have Ho := hide (ofBlock9 (base := w1.heap.size) HN.out (Nat.le_refl _) (by unfold maxLen; omega) hblk)
      have Hb := hide hb
      clear e hblk hb
      go_wp2
      go_ret
      exact ⟨_, rfl, Ho.out, Hb.out⟩
end Go.Proofs.YtcmmdkabocfnfaaGreatDoor
