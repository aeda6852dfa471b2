/- The model's draws: a cursor over the bytes of a code; whatever is drawn, it is of its kind, and nothing but the cursor turns. -/
import Derived.Test.YtbjeonnaannofaaZcBig
import Derived.Test.YtbjeonnaannofaaZcPutPure
namespace Go.Proofs.Ytbjeonnaannofaa
open Go.RowKit
set_option linter.unusedVariables false

/-- A cursor at block g over the bytes 'code', which lie in the world w0 and have not turned since. -/
structure Cur (w0 w : World) (g : Nat) (cv : Value) (code : List UInt8) : Prop where
  rd : RdB w0 cv code
  bel : Below w0.heap.size w0 w
  le : w0.heap.size ≤ g
  blk : ∃ i h : Int, w.heap[g]? = some (.cells #[cv, .int .i64 i, .int .i64 h] 116 (0, 0)) ∧ 0 ≤ i ∧ i ≤ code.length ∧ -9223372036854775808 ≤ h ∧ h ≤ 9223372036854775807

def mulK (h : Int) : Int := wrap64 (h * 6364136223846793005)

theorem wrap64_bd (x : Int) : -9223372036854775808 ≤ wrap64 x ∧ wrap64 x ≤ 9223372036854775807 := by unfold wrap64; omega

theorem and255_bd (x : Int) : 0 ≤ bits .and .i64 x 255 ∧ bits .and .i64 x 255 ≤ 255 := by
  show 0 ≤ IntKind.i64.wrap ((BitVec.ofInt 64 x &&& BitVec.ofInt 64 255).toNat : Int) ∧ IntKind.i64.wrap ((BitVec.ofInt 64 x &&& BitVec.ofInt 64 255).toNat : Int) ≤ 255
  have h : (BitVec.ofInt 64 x &&& BitVec.ofInt 64 255).toNat ≤ 255 := by
    rw [BitVec.toNat_and]
    exact Nat.le_trans Nat.and_le_right (by decide)
  rw [IntKind.wrap_i64]
  omega

theorem cur_cells {w : World} {g : Nat} {a b c : Value} {t : TypeId} (h : w.heap[g]? = some (.cells #[a, b, c] t (0, 0))) :
    w.cell? ⟨g, 0, none⟩ = some a ∧ w.cell? ⟨g, 1, none⟩ = some b ∧ w.cell? ⟨g, 2, none⟩ = some c ∧ w.frozen? ⟨g, 0, none⟩ = false ∧ w.frozen? ⟨g, 1, none⟩ = false ∧ w.frozen? ⟨g, 2, none⟩ = false :=
  ⟨cell_of_row w g 0 _ t (0, 0) h, cell_of_row w g 1 _ t (0, 0) h, cell_of_row w g 2 _ t (0, 0) h, frozen_of_row w g 0 _ t h, frozen_of_row w g 1 _ t h, frozen_of_row w g 2 _ t h⟩

theorem cur_set {w : World} {g : Nat} {a b c : Value} {t : TypeId} (h : w.heap[g]? = some (.cells #[a, b, c] t (0, 0))) (u : Value) :
    ((w.setCell ⟨g, 2, none⟩ u).heap[g]? = some (.cells #[a, b, u] t (0, 0)) ∧ w.grownBy (w.setCell ⟨g, 2, none⟩ u) (some g)) ∧
    ((w.setCell ⟨g, 1, none⟩ u).heap[g]? = some (.cells #[a, u, c] t (0, 0)) ∧ w.grownBy (w.setCell ⟨g, 1, none⟩ u) (some g)) :=
  ⟨⟨heap_setCell_same w g 2 #[a, b, c] t u h, ⟨rfl, rfl, rfl, by simp, fun k _ hk => heap_setCell_other w ⟨g, 2, none⟩ k u (fun e => hk (by simp [e]))⟩⟩,
   ⟨heap_setCell_same w g 1 #[a, b, c] t u h, ⟨rfl, rfl, rfl, by simp, fun k _ hk => heap_setCell_other w ⟨g, 1, none⟩ k u (fun e => hk (by simp [e]))⟩⟩⟩

theorem grw_trans {a b c : World} {row : Option Nat} (h : a.grownBy b row) (k : b.grownBy c row) : a.grownBy c row :=
  ⟨k.os.trans h.os, k.tape.trans h.tape, k.output.trans h.output, Nat.le_trans h.size k.size, fun i hi hr => (k.block i (Nat.lt_of_lt_of_le hi h.size) hr).trans (h.block i hi hr)⟩
theorem grw_drewN {a b : World} {row : Option Nat} (h : a.grownBy b row) (n : Nat) : a.grownBy (b.drewN n) row := ⟨h.os, h.tape, h.output, h.size, h.block⟩

theorem Cur.step {w0 w w' : World} {g : Nat} {cv : Value} {code : List UInt8} (hc : Cur w0 w g cv code) (hg : w.grownBy w' (some g)) (i h : Int)
    (hb : w'.heap[g]? = some (.cells #[cv, .int .i64 i, .int .i64 h] 116 (0, 0))) (h1 : 0 ≤ i) (h2 : i ≤ code.length) (h3 : -9223372036854775808 ≤ h) (h4 : h ≤ 9223372036854775807) : Cur w0 w' g cv code :=
  ⟨hc.rd, hc.bel.grown hg hc.bel.size (fun k hk => by cases hk; exact hc.le), hc.le, ⟨i, h, hb, h1, h2, h3, h4⟩⟩

theorem Cur.byte {w0 w : World} {g b off cap : Nat} {code : List UInt8} (hbel : Below w0.heap.size w0 w) (hb : b < w0.heap.size) (j : Nat) {v : Value} (hc : w0.cell? ⟨b, off + j, none⟩ = some v) : w.cell? ⟨b, off + j, none⟩ = some v := (hbel.cell (p := ⟨b, off + j, none⟩) hb).trans hc

set_option maxRecDepth 20000 in
set_option maxHeartbeats 1000000 in
theorem l1Byte_any (w0 w : World) (g : Nat) (cv : Value) (code : List UInt8) (hc : Cur w0 w g cv code) (hl : code.length ≤ 1048576) :
    Calls Try.prog 101 #[.pointer (some ⟨g, 0, none⟩)] w fun e w' => ∃ x : Nat, e = .returned (.int .i64 (x : Int)) ∧ x ≤ 255 ∧ Cur w0 w' g cv code ∧ w.grownBy w' (some g) := by
  obtain ⟨i, h, hb, hi0, hi1, hh0, hh1⟩ := hc.blk
  obtain ⟨c0, c1, c2, f0, f1, f2⟩ := cur_cells hb
  have Hc := hide hc
  have Hb := hide hb
  clear hb
  have km : ∀ h : Int, wrap64 (h * 6364136223846793005) = mulK h := fun _ => rfl
  obtain ⟨I, rfl⟩ := Int.eq_ofNat_of_zero_le hi0
  obtain ⟨av, capv, hcv⟩ := hc.rd.shape
  have Hrd := hide hc.rd
  subst hcv
  clear hc
  go_enter Try.func101, Try.ntmps101
  go_wp2
  clear km
  generalize wrap64 (h * 6364136223846793005) = Y
  have hHb := wrap64_bd (mulK h + 1442695040888963407)
  generalize wrap64 (mulK h + 1442695040888963407) = H at hHb
  obtain ⟨hH0, hH1⟩ := hHb
  have hs := (cur_set Hb.out (.int .i64 H)).1
  generalize w.setCell ⟨g, 2, none⟩ (.int .i64 H) = w1 at hs
  obtain ⟨hb1, hg1⟩ := hs
  clear c0 c1 c2 f0 f1 f2
  obtain ⟨c0, c1, c2, f0, f1, f2⟩ := cur_cells hb1
  have Hb1 := hide hb1
  have Hg1 := hide hg1
  clear hb1 hg1
  go_quiet (fail)
  go_wp2
  have hX := and255_bd (bits BinOp.xor IntKind.i64 (H / 8589934592) (H / 140737488355328))
  generalize bits BinOp.and IntKind.i64 (bits BinOp.xor IntKind.i64 (H / 8589934592) (H / 140737488355328)) 255 = X at hX
  obtain ⟨hX0, hX1⟩ := hX
  obtain ⟨x, rfl⟩ := Int.eq_ofNat_of_zero_le hX0
  have hx : x ≤ 255 := by omega
  clear hX0 hX1
  by_cases hI : I < code.length
  · rcases Hrd.out with ⟨_, _, _, e, _⟩ | ⟨b, off, cap, h0, hv, h1, h2, h3, h4⟩
    · rw [e] at hI; simp at hI
    · cases hv
      have hc4 : w1.cell? ⟨b, off + I, none⟩ = some (.int .u8 (code[I].toNat : Int)) := Cur.byte (g := g) (cap := capv) (code := code) (Hc.out.step Hg1.out _ _ Hb1.out (by omega) (by omega) hH0 hH1).bel h3 I (h4 I hI)
      have hcb : (code[I].toNat : Int) < 256 := by have := code[I].toNat_lt; omega
      generalize code[I].toNat = C at hc4 hcb
      have hlt : (I : Int) < (code.length : Int) := by omega
      clear h4 h0 h1 h2 h3
      go_quiet (fail)
      go_wp2
      go_quiet (fail)
      go_wp2
      have hY := and255_bd ((x : Int) + (C : Int))
      obtain ⟨y, hy⟩ := Int.eq_ofNat_of_zero_le hY.1
      have hs2 := (cur_set Hb1.out (.int .i64 ((I : Int) + 1))).2
      go_ret
      refine ⟨y, ret_int hy, by omega, Hc.out.step (grw_trans Hg1.out (grw_drewN hs2.2 _)) ((I : Int) + 1) H hs2.1 (by omega) (by omega) hH0 hH1, grw_trans Hg1.out (grw_drewN hs2.2 _)⟩
  · have hd : ¬ (I : Int) < (code.length : Int) := by omega
    go_quiet (fail)
    go_wp2
    go_ret
    exact ⟨x, rfl, hx, Hc.out.step (grw_drewN Hg1.out _) _ _ Hb1.out (by omega) (by omega) hH0 hH1, grw_drewN Hg1.out _⟩

theorem Cur.below {B : Nat} {w0 w w' : World} {g : Nat} {cv : Value} {code : List UInt8} (hc : Cur w0 w g cv code) (hb : Below B w w') (hg : g < B) : Cur w0 w' g cv code := by
  obtain ⟨i, h, hbk, r⟩ := hc.blk
  exact ⟨hc.rd, hc.bel.trans (hb.mono (by have := hc.le; omega)), hc.le, ⟨i, h, by rw [hb.block g hg]; exact hbk, r⟩⟩
theorem Cur.lt {w0 w : World} {g : Nat} {cv : Value} {code : List UInt8} (hc : Cur w0 w g cv code) : g < w.heap.size := by
  obtain ⟨i, h, hbk, r⟩ := hc.blk
  exact (Array.getElem?_eq_some_iff.1 hbk).1
theorem Cur.drewN {w0 w : World} {g : Nat} {cv : Value} {code : List UInt8} (hc : Cur w0 w g cv code) (n : Nat) : Cur w0 (w.drewN n) g cv code :=
  hc.below (B := g + 1) (below_drewN (Below.refl _ _) n) (by omega)

theorem grw_below {B : Nat} {a b c : World} {row : Option Nat} (h : a.grownBy b row) (k : Below B b c) (hB : a.heap.size ≤ B) : a.grownBy c row :=
  ⟨k.os.trans h.os, k.tape.trans h.tape, k.output.trans h.output, Nat.le_trans h.size k.size, fun i hi hr => (k.block i (by omega)).trans (h.block i hi hr)⟩
theorem grw_of_below {B : Nat} {a b : World} (row : Option Nat) (k : Below B a b) (hB : a.heap.size ≤ B) : a.grownBy b row :=
  ⟨k.os, k.tape, k.output, k.size, fun i hi _ => k.block i (by omega)⟩
theorem below_grw {B g : Nat} {a b : World} (h : a.grownBy b (some g)) (hB : B ≤ g) (hs : B ≤ a.heap.size) : Below B a b :=
  (Below.refl _ _).grown h hs (fun k hk => by cases hk; exact hB)

set_option maxRecDepth 20000 in
set_option maxHeartbeats 1000000 in
theorem l1Below_any (w0 w : World) (g : Nat) (cv : Value) (code : List UInt8) (n : Int) (hc : Cur w0 w g cv code) (hl : code.length ≤ 1048576) (h1 : -9223372036854775808 ≤ n) (h2 : n ≤ 9223372036854775807) :
    Calls Try.prog 46 #[.pointer (some ⟨g, 0, none⟩), .int .i64 n] w fun e w' => ∃ x : Nat, e = .returned (.int .i64 (x : Int)) ∧ (0 < n → (x : Int) < n) ∧ (n ≤ 0 → x = 0) ∧ Cur w0 w' g cv code ∧ w.grownBy w' (some g) := by
  have Hc := hide hc
  clear hc
  by_cases hn : n ≤ 0
  · go_enter Try.func46, Try.ntmps46
    go_wp2
    go_ret
    exact ⟨0, rfl, fun h => by omega, fun _ => rfl, Hc.out, World.grownBy.refl _ _⟩
  · by_cases hn2 : n ≤ 256
    · have hn0 : (n == 0) = false := by rw [beq_eq_false_iff_ne]; omega
      go_enter Try.func46, Try.ntmps46
      go_wp2_with fail
      refine (l1Byte_any _ _ _ _ _ Hc.out hl).mono ?_
      rintro e w1 ⟨x, rfl, hx, hc1, hg1⟩
      have hm := Int.emod_nonneg (x : Int) (show n ≠ 0 from by omega)
      have hm2 := Int.emod_lt_of_pos (x : Int) (show 0 < n from by omega)
      go_wp2
      go_ret
      obtain ⟨y, hy⟩ := Int.eq_ofNat_of_zero_le hm
      exact ⟨y, ret_int hy, fun _ => by omega, fun h => by omega, hc1, hg1⟩
    · have hn0 : (n == 0) = false := by rw [beq_eq_false_iff_ne]; omega
      go_enter Try.func46, Try.ntmps46
      go_wp2_with fail
      refine (l1Byte_any _ _ _ _ _ Hc.out hl).mono ?_
      rintro e w1 ⟨x, rfl, hx, hc1, hg1⟩
      go_wp2_with fail
      refine (l1Byte_any _ _ _ _ _ hc1 hl).mono ?_
      rintro e w2 ⟨y, rfl, hy, hc2, hg2⟩
      go_wp2_with fail
      refine (l1Byte_any _ _ _ _ _ hc2 hl).mono ?_
      rintro e w3 ⟨z, rfl, hz, hc3, hg3⟩
      have hs0 : 0 ≤ (x : Int) * 65536 + (y : Int) * 256 + (z : Int) := by omega
      have hm := Int.emod_nonneg ((x : Int) * 65536 + (y : Int) * 256 + (z : Int)) (show n ≠ 0 from by omega)
      have hm2 := Int.emod_lt_of_pos ((x : Int) * 65536 + (y : Int) * 256 + (z : Int)) (show 0 < n from by omega)
      go_wp2
      go_ret
      obtain ⟨r, hr⟩ := Int.eq_ofNat_of_zero_le hm
      exact ⟨r, ret_int hr, fun _ => by omega, fun h => by omega, hc3, grw_trans (grw_trans hg1 hg2) hg3⟩

/-- The numbers ns lie at the head of block b. -/
def IntsAt (w : World) (b : Nat) (ns : List Int) : Prop := b < w.heap.size ∧ ∀ j (h : j < ns.length), w.cell? ⟨b, j, none⟩ = some (.int .i64 ns[j])
theorem ints_new (w : World) (ns : List Int) (t : TypeId) : IntsAt (w.alloc (.cells (ns.map (Value.int .i64)).toArray t)) w.heap.size ns := by
  refine ⟨by simp, fun j hj => ?_⟩
  rw [World.cell?_alloc_at _ _ _ _ rfl]
  simp [hj]
theorem IntsAt.grw {w w' : World} {b g : Nat} {ns : List Int} (h : IntsAt w b ns) (hg : w.grownBy w' (some g)) (hne : b ≠ g) : IntsAt w' b ns :=
  ⟨by have := hg.size; have := h.1; omega, fun j hj => hg.cell (a := ⟨b, j, none⟩) (h.2 j hj) (by simp [hne])⟩

set_option maxRecDepth 20000 in
theorem l1Int_any (w0 w : World) (g b : Nat) (cv : Value) (code : List UInt8) (ns : List Int) (hc : Cur w0 w g cv code) (hl : code.length ≤ 1048576) (hi : IntsAt w b ns) (hne : b ≠ g) (hn : 0 < ns.length) (hn2 : ns.length ≤ 1000) (cap : Nat) :
    Calls Try.prog 88 #[.pointer (some ⟨g, 0, none⟩), .slice (some ⟨b, 0, none⟩) ns.length cap] w fun e w' => ∃ n : Int, e = .returned (.int .i64 n) ∧ n ∈ ns ∧ Cur w0 w' g cv code ∧ w.grownBy w' (some g) := by
  have Hc := hide hc
  have Hi := hide hi
  clear hc hi
  go_enter Try.func88, Try.ntmps88
  go_wp2_with fail
  refine (l1Below_any _ _ _ _ _ _ Hc.out hl (by omega) (by omega)).mono ?_
  rintro e w1 ⟨x, rfl, hx1, hx2, hc1, hg1⟩
  have hxl : x < ns.length := by have := hx1 (by omega); omega
  have hcell := (Hi.out.grw hg1 hne).2 x hxl
  have hmem := hide (List.getElem_mem hxl)
  generalize ns[x] = n at hcell hmem
  clear hx1 hx2
  go_wp2
  go_ret
  exact ⟨n, rfl, hmem.out, hc1, hg1⟩


end Go.Proofs.Ytbjeonnaannofaa
