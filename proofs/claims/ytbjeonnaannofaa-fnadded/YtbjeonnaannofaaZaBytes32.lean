/- The model's Padded: the bytes, a byte 128, noughts up to 56 of 64, and how many bits in eight bytes. A digest: the blocks of what is padded, one behind the other. What a call owns as bytes, made a text; appends of two and of four bytes. Arrays of words in memory. Eight words as 32 bytes; blocks of bytes that can be read. -/
import Derived.Test.YtbjeonnaannofaaZaDraw
import Derived.Test.YtbjeonnaannofaaZaBig
import Derived.Test.YtbjeonnaannofaaZaIntKeep
import Derived.Deep.RegionLaw
import Derived.Laws.IdiomStrings
import Derived.Deep.MidRow
import Derived.Laws.PanicsMore
namespace Go.Proofs.Ytbjeonnaannofaa
open Go.RowKit
set_option linter.unusedVariables false

def padZ (n : Nat) : Nat := (119 - n % 64) % 64
def be8 (m : Nat) : List UInt8 := (List.range 8).map (fun j => UInt8.ofNat (m / 2 ^ (56 - 8 * j) % 256))
def padB (l : List UInt8) : List UInt8 := l ++ 128 :: List.replicate (padZ l.length) 0 ++ be8 (8 * l.length)

theorem padZ_is (n z : Nat) (h : z ≤ padZ n) : ((n + 1 + z) % 64 = 56 ↔ z = padZ n) := by
  unfold padZ at *; omega
theorem padZ_lt (n : Nat) : padZ n < 64 := by unfold padZ; omega
theorem be8_at (m j : Nat) (h : j < 8) : (be8 m)[j]'(by simpa [be8] using h) = UInt8.ofNat (m / 2 ^ (56 - 8 * j) % 256) := by simp [be8]
theorem be8_len (m : Nat) : (be8 m).length = 8 := by simp [be8]

theorem byte_div (M d : Nat) : (M : Int) / (d : Int) % 256 = ((UInt8.ofNat (M / d % 256)).toNat : Int) := by
  rw [UInt8.toNat_ofNat', Nat.mod_eq_of_lt (by omega)]
  simp
theorem be8_take (m j : Nat) (h : j < 8) : (be8 m).take (j + 1) = (be8 m).take j ++ [UInt8.ofNat (m / 2 ^ (56 - 8 * j) % 256)] := by
  rw [List.take_succ_eq_append_getElem (by rw [be8_len]; exact h), be8_at m j h]

def sliceLen (v : Value) : Nat := match v with | .slice _ n _ => n | _ => 0

set_option maxRecDepth 20000 in
set_option maxHeartbeats 1000000 in
theorem specPadded_any (v : Value) (l : List UInt8) (w : World) (hr : RdB w v l) (hl : l.length ≤ 4000000) :
    Calls Try.prog 151 #[v] w fun e w' => ∃ v', e = .returned v' ∧ OwnB w.heap.size w' v' (padB l) ∧ Below w.heap.size w w' := by
  have hb0 : Below w.heap.size w (w.alloc (.cells #[] 5)) := (Below.refl _ _).alloc (Nat.le_refl _) _
  have Hr := hide (hr.below hb0 (Nat.le_refl _))
  have Ho := hide (own_nil w w.heap.size (Nat.le_refl _))
  have Hb := hide hb0
  obtain ⟨av, cv, hv⟩ := hr.shape
  subst hv
  clear hr hb0
  go_enter Try.func151, Try.ntmps151
  go_wp2_with (first | (at_builtin; refine app_own _ rfl _ _ rfl w.heap.size _ _ l [128] rfl rfl (ho1.alloc _) (rd_one _ _ _ (by rfl)) (by simp; omega) (by simp; omega) ?_; intro v2 w2 ho2 hb2) | (at_builtin; refine app_own _ rfl _ _ rfl w.heap.size _ _ [] l rfl rfl Ho.out Hr.out (by simp; omega) (by simp) ?_; intro v1 w1 ho1 hb1; have hs1 := hb1.size; simp only [World.size_alloc] at hs1; rw [List.nil_append] at ho1))
  have hB2 : Below w.heap.size w w2 := ((Hb.out.trans hb1).alloc (by omega) _).trans hb2
  have hZ := padZ_lt l.length
  have HZ := hide (padZ_is l.length)
  have HP : Hid (padB l = l ++ 128 :: List.replicate (padZ l.length) 0 ++ be8 (8 * l.length)) := hide rfl
  generalize padZ l.length = Z at hZ HZ HP
  obtain ⟨g2, c2, hv2, _⟩ := ho2.shape (by simp)
  rw [hv2] at ho2 ⊢
  clear hv2 ho1 hb1 hb2
  rw [show (l ++ [(128 : UInt8)]).length = l.length + 1 from by simp] at ho2 ⊢
  go_loopw [3] (fun ov wr => ∃ (z g c : Nat), ov = .slice (some ⟨g, 0, none⟩) (l.length + 1 + z) c ∧ OwnB w.heap.size wr ov (l ++ 128 :: List.replicate z 0) ∧ z ≤ Z ∧ Below w.heap.size w wr) (fun ov _ => l.length + 1 + Z - sliceLen ov)
  case atStart => exact ⟨0, g2, c2, rfl, ho2, Nat.zero_le _, hB2⟩
  case round =>
    obtain ⟨z, g, c, rfl, ho, hz, hb⟩ := hrel
    have hsz := hb.size
    have Hoz := hide ho
    have Hbz := hide hb
    clear ho hb ho2 hB2
    by_cases hlt : z < Z
    · have hne : ¬ (l.length + 1 + z) % 64 = 56 := fun h => by have := (HZ.out z hz).1 h; omega
      have hq : (((l.length + 1 + z : Nat) : Int) % 64 != 56) = true := by rw [bne_iff_ne]; omega
      have hq2 : (((l.length : Int) + 1 + (z : Int)) % 64 != 56) = true := by rw [bne_iff_ne]; omega
      have Hnx : Hid (l ++ 128 :: List.replicate z 0 ++ [0] = l ++ 128 :: List.replicate (z + 1) 0) := hide (by
        rw [List.append_assoc, List.cons_append, ← List.replicate_succ'])
      clear hne
      go_wp2_with (at_builtin; refine app_own _ rfl _ _ rfl w.heap.size _ _ (l ++ 128 :: List.replicate z 0) [0] rfl rfl (Hoz.out.alloc _) (rd_one _ _ _ (by rfl)) (by simp; omega) (by simp; omega) ?_; intro v3 w3 ho3 hb3)
      rw [Hnx.out] at ho3
      obtain ⟨g3, c3, hv3, _⟩ := ho3.shape (by simp)
      rw [hv3] at ho3 ⊢
      have e3 : (l ++ 128 :: List.replicate (z + 1) (0 : UInt8)).length = l.length + 1 + (z + 1) := by simp; omega
      rw [e3] at ho3 ⊢
      clear hv3
      go_roundw
      case rel => exact ⟨z + 1, g3, c3, rfl, ho3, by omega, (Hbz.out.alloc hsz _).trans hb3⟩
      case measure => simp [sliceLen]; omega
    · have hzZ : z = Z := by omega
      subst hzZ
      have he := (HZ.out z hz).2 rfl
      have hq : (((l.length + 1 + z : Nat) : Int) % 64 != 56) = false := by rw [bne_eq_false_iff_eq]; omega
      have hq2 : (((l.length : Int) + 1 + (z : Int)) % 64 != 56) = false := by rw [bne_eq_false_iff_eq]; omega
      clear he hlt
      generalize hA : l ++ 128 :: List.replicate z (0 : UInt8) = A at Hoz HP
      have hAl : A.length ≤ 4000100 := by rw [← hA]; simp; omega
      clear hA
      go_wp2
      have hMe : (l.length : Int) * 8 = ((8 * l.length : Nat) : Int) := by omega
      have hM : 8 * l.length ≤ 32000000 := by omega
      rw [hMe]
      clear hMe
      generalize 8 * l.length = M at hM HP
      go_loopw [3, 5] (fun ov kv wr2 => ∃ j : Nat, j ≤ 8 ∧ kv = .int .i64 (56 - 8 * (j : Int)) ∧ OwnB w.heap.size wr2 ov (A ++ (be8 M).take j) ∧ Below w.heap.size w wr2) (fun _ kv _ => (intOf kv + 8).toNat)
      case atStart => exact ⟨0, by omega, rfl, by simpa using Hoz.out, Hbz.out⟩
      case round =>
        obtain ⟨j, hj, rfl, ho, hb⟩ := hrel
        have hs2 := hb.size
        have Ho2 := hide ho
        have Hb2 := hide hb
        clear ho hb
        by_cases hj8 : j < 8
        · have Htk := hide (be8_take M j hj8)
          have hTl : ((be8 M).take j).length ≤ 8 := by simp [be8_len]; omega
          have Hbd := hide (byte_div M (2 ^ (56 - 8 * j)))
          generalize UInt8.ofNat (M / 2 ^ (56 - 8 * j) % 256) = C at Htk Hbd
          generalize hT : (be8 M).take j = T at Ho2 Htk hTl
          have HT := hide hT
          clear hT
          rcases (show j = 0 ∨ j = 1 ∨ j = 2 ∨ j = 3 ∨ j = 4 ∨ j = 5 ∨ j = 6 ∨ j = 7 from by omega) with rfl | rfl | rfl | rfl | rfl | rfl | rfl | rfl
          · have hbd := Hbd.out
            simp at hbd
            have Hbd2 := hide hbd
            clear hbd Hbd
            go_wp2_with (at_builtin; refine app_own _ rfl _ _ rfl w.heap.size _ _ (A ++ T) [C] rfl rfl (Ho2.out.alloc _) (rd_one _ _ _ (by have h := Hbd2.out; omega)) (by simp; omega) (by simp; omega) ?_; intro v3 w3 ho3 hb3)
            go_roundw
            case rel => exact ⟨0 + 1, by omega, by go_num, by rw [Htk.out, ← List.append_assoc]; exact ho3, (Hb2.out.alloc hs2 _).trans hb3⟩
            case measure => simp [intOf]
          · have hbd := Hbd.out
            simp at hbd
            have Hbd2 := hide hbd
            clear hbd Hbd
            go_wp2_with (at_builtin; refine app_own _ rfl _ _ rfl w.heap.size _ _ (A ++ T) [C] rfl rfl (Ho2.out.alloc _) (rd_one _ _ _ (by have h := Hbd2.out; omega)) (by simp; omega) (by simp; omega) ?_; intro v3 w3 ho3 hb3)
            go_roundw
            case rel => exact ⟨1 + 1, by omega, by go_num, by rw [Htk.out, ← List.append_assoc]; exact ho3, (Hb2.out.alloc hs2 _).trans hb3⟩
            case measure => simp [intOf]
          · have hbd := Hbd.out
            simp at hbd
            have Hbd2 := hide hbd
            clear hbd Hbd
            go_wp2_with (at_builtin; refine app_own _ rfl _ _ rfl w.heap.size _ _ (A ++ T) [C] rfl rfl (Ho2.out.alloc _) (rd_one _ _ _ (by have h := Hbd2.out; omega)) (by simp; omega) (by simp; omega) ?_; intro v3 w3 ho3 hb3)
            go_roundw
            case rel => exact ⟨2 + 1, by omega, by go_num, by rw [Htk.out, ← List.append_assoc]; exact ho3, (Hb2.out.alloc hs2 _).trans hb3⟩
            case measure => simp [intOf]
          · have hbd := Hbd.out
            simp at hbd
            have Hbd2 := hide hbd
            clear hbd Hbd
            go_wp2_with (at_builtin; refine app_own _ rfl _ _ rfl w.heap.size _ _ (A ++ T) [C] rfl rfl (Ho2.out.alloc _) (rd_one _ _ _ (by have h := Hbd2.out; omega)) (by simp; omega) (by simp; omega) ?_; intro v3 w3 ho3 hb3)
            go_roundw
            case rel => exact ⟨3 + 1, by omega, by go_num, by rw [Htk.out, ← List.append_assoc]; exact ho3, (Hb2.out.alloc hs2 _).trans hb3⟩
            case measure => simp [intOf]
          · have hbd := Hbd.out
            simp at hbd
            have Hbd2 := hide hbd
            clear hbd Hbd
            go_wp2_with (at_builtin; refine app_own _ rfl _ _ rfl w.heap.size _ _ (A ++ T) [C] rfl rfl (Ho2.out.alloc _) (rd_one _ _ _ (by have h := Hbd2.out; omega)) (by simp; omega) (by simp; omega) ?_; intro v3 w3 ho3 hb3)
            go_roundw
            case rel => exact ⟨4 + 1, by omega, by go_num, by rw [Htk.out, ← List.append_assoc]; exact ho3, (Hb2.out.alloc hs2 _).trans hb3⟩
            case measure => simp [intOf]
          · have hbd := Hbd.out
            simp at hbd
            have Hbd2 := hide hbd
            clear hbd Hbd
            go_wp2_with (at_builtin; refine app_own _ rfl _ _ rfl w.heap.size _ _ (A ++ T) [C] rfl rfl (Ho2.out.alloc _) (rd_one _ _ _ (by have h := Hbd2.out; omega)) (by simp; omega) (by simp; omega) ?_; intro v3 w3 ho3 hb3)
            go_roundw
            case rel => exact ⟨5 + 1, by omega, by go_num, by rw [Htk.out, ← List.append_assoc]; exact ho3, (Hb2.out.alloc hs2 _).trans hb3⟩
            case measure => simp [intOf]
          · have hbd := Hbd.out
            simp at hbd
            have Hbd2 := hide hbd
            clear hbd Hbd
            go_wp2_with (at_builtin; refine app_own _ rfl _ _ rfl w.heap.size _ _ (A ++ T) [C] rfl rfl (Ho2.out.alloc _) (rd_one _ _ _ (by have h := Hbd2.out; omega)) (by simp; omega) (by simp; omega) ?_; intro v3 w3 ho3 hb3)
            go_roundw
            case rel => exact ⟨6 + 1, by omega, by go_num, by rw [Htk.out, ← List.append_assoc]; exact ho3, (Hb2.out.alloc hs2 _).trans hb3⟩
            case measure => simp [intOf]
          · have hbd := Hbd.out
            simp at hbd
            have Hbd2 := hide hbd
            clear hbd Hbd
            go_wp2_with (at_builtin; refine app_own _ rfl _ _ rfl w.heap.size _ _ (A ++ T) [C] rfl rfl (Ho2.out.alloc _) (rd_one _ _ _ (by have h := Hbd2.out; omega)) (by simp; omega) (by simp; omega) ?_; intro v3 w3 ho3 hb3)
            go_roundw
            case rel => exact ⟨7 + 1, by omega, by go_num, by rw [Htk.out, ← List.append_assoc]; exact ho3, (Hb2.out.alloc hs2 _).trans hb3⟩
            case measure => simp [intOf]
        · have e8 : (be8 M).take j = be8 M := List.take_of_length_le (by rw [be8_len]; omega)
          have hj9 : j = 8 := by omega
          have ho8 := Ho2.out
          rw [e8, ← HP.out] at ho8
          have Ho8 := hide ho8
          clear ho8 e8
          subst hj9
          go_wp2
          go_ret
          exact ⟨_, rfl, Ho8.out, Hb2.out⟩
end Go.Proofs.Ytbjeonnaannofaa

namespace Go.Proofs.Ytbjeonnaannofaa
open Go.RowKit
set_option linter.unusedVariables false

def blk (P : List UInt8) (t : Nat) : List UInt8 := (P.drop (64 * t)).take 64
def shaFold (P : List UInt8) : Nat → S8
  | 0 => hC
  | t + 1 => blockS (shaFold P t) (wordsB (blk P t))
theorem shaFold_lt (P : List UInt8) : ∀ t, (shaFold P t).Lt
  | 0 => hC_lt
  | t + 1 => blockS_lt _ _
theorem blk_len (P : List UInt8) (t : Nat) (h : 64 * t + 64 ≤ P.length) : (blk P t).length = 64 := by simp [blk]; omega
theorem blk_at (P : List UInt8) (t i : Nat) (h : 64 * t + 64 ≤ P.length) (hi : i < (blk P t).length) : (blk P t)[i] = P[64 * t + i]'(by rw [blk_len P t h] at hi; omega) := by
  simp [blk]
def padQ (n : Nat) : Nat := (n + 72) / 64
theorem padB_q (l : List UInt8) : (padB l).length = 64 * padQ l.length := by
  have : (padB l).length = l.length + 1 + padZ l.length + 8 := by simp [padB, be8_len]; omega
  rw [this]; unfold padZ padQ; omega
end Go.Proofs.Ytbjeonnaannofaa

namespace Go.Proofs.Ytbjeonnaannofaa
open Go.RowKit
set_option linter.unusedVariables false

theorem step_app_own {ops : Array Oper} {o : Oper} {a : Act} {w : World} {K : Act → World → Prop} {Q : Exit → Act → World → Prop} {E : Prop} (hgd : o.guard = none) (s x : Operand)
    (ho : o.op = .call { callee := .builtin .append, args := #[s, x], argTypes := #[22, 22] })
    (base : Nat) (v vx : Value) (l k : List UInt8) (hs : a.eval s = v) (hx : a.eval x = vx) (hown : OwnB base w v l) (hrd : RdB w vx k) (hk : k ≠ [])
    (hlen : l.length + k.length ≤ 100000000) (hbase : base ≤ w.heap.size)
    (h : ∀ v' w', OwnB base w' v' (l ++ k) → Below base w w' → K (a.put o.dst v') w') : if Region.wanted o (yielded ops a.tmps) = true then Oper.wp Try.prog o a w K Q else E := by
  have hw : Region.wanted o (yielded ops a.tmps) = true := by simp [Region.wanted, hgd]
  rw [if_pos hw]
  obtain ⟨i0, hi, hz0, hz1, hz2⟩ := info_parts Try.infoU8
  have hbel : ∀ w', w.grownBy w' v.ownBlock → Below base w w' := fun w' hg => (Below.refl _ _).grown hg hbase (fun k hk => (World.ownsRow.lt hown k hk).1)
  rcases hrd with ⟨ax, cap, rfl, rfl, hnil⟩ | ⟨b, off, cap, h0, rfl, h1, h2, h3, h4⟩
  · exact absurd rfl hk
  · refine wp_append_own w s x 22 ho base 5 i0 (.int .u8 0) 1 1 Try.underlying22 hi hz0 hz1 hz2 rfl (by decide) v l.length (l.map cb) hs hown ⟨b, off, none⟩ k.length cap (k.map cb) hx (by simp) ?_ ?_ (by unfold maxLen; omega) (by omega) hbase ?_
    · intro j u hj
      have hj' : j < k.length := by have := (List.getElem?_eq_some_iff.1 hj).1; simpa using this
      have ea : (⟨b, off, none⟩ : Addr).add j = ⟨b, off + j, none⟩ := by
        by_cases hz : j = 0
        · subst hz; simp [Addr.add]
        · simp [Addr.add, hz]
      rw [ea, h4 j hj']
      simp [hj', cb] at hj
      rw [← hj]
    · intro u hu
      obtain ⟨c, _, rfl⟩ := List.mem_map.1 hu
      rfl
    · intro v' w' ho' hg _
      exact h v' w' (by simpa [OwnB] using ho') (hbel w' hg)

theorem OwnB.drew {base : Nat} {w : World} {v : Value} {l : List UInt8} (h : OwnB base w v l) : OwnB base w.drew v l := h

theorem rd_two (w : World) (x y : Int) (a b : UInt8) (n : Nat) (h1 : x = (a.toNat : Int)) (h2 : y = (b.toNat : Int)) (hn : n = w.heap.size) : RdB (w.alloc (.cells #[.int .u8 x, .int .u8 y] 5)) (.slice (some ⟨n, 0, none⟩) 2 2) [a, b] := by
  subst hn
  refine .inr ⟨w.heap.size, 0, 2, by simp, rfl, by simp, by unfold maxLen; omega, by simp, ?_⟩
  intro i hi
  simp only [List.length_cons, List.length_nil] at hi
  rcases (show i = 0 ∨ i = 1 from by omega) with rfl | rfl
  · simp [World.cell?_alloc_at, h1]
  · simp [World.cell?_alloc_at, h2]

theorem rd_four (w : World) (x y z u : Int) (a b c d : UInt8) (n : Nat) (h1 : x = (a.toNat : Int)) (h2 : y = (b.toNat : Int)) (h3 : z = (c.toNat : Int)) (h4 : u = (d.toNat : Int)) (hn : n = w.heap.size) : RdB (w.alloc (.cells #[.int .u8 x, .int .u8 y, .int .u8 z, .int .u8 u] 5)) (.slice (some ⟨n, 0, none⟩) 4 4) [a, b, c, d] := by
  subst hn
  refine .inr ⟨w.heap.size, 0, 4, by simp, rfl, by simp, by unfold maxLen; omega, by simp, ?_⟩
  intro i hi
  simp only [List.length_cons, List.length_nil] at hi
  rcases (show i = 0 ∨ i = 1 ∨ i = 2 ∨ i = 3 from by omega) with rfl | rfl | rfl | rfl
  · simp [World.cell?_alloc_at, h1]
  · simp [World.cell?_alloc_at, h2]
  · simp [World.cell?_alloc_at, h3]
  · simp [World.cell?_alloc_at, h4]

theorem own_some {base : Nat} {w : World} {v : Value} {l : List UInt8} (h : OwnB base w v l) (hl : 0 < l.length) : ∃ a n c, v = .slice (some a) n c := by
  obtain ⟨g, cap, hv, _⟩ := h.shape (by intro e; rw [e] at hl; simp at hl)
  exact ⟨_, _, _, hv⟩

theorem str_own (w : World) (v : Value) (l : List UInt8) (h : RdB w v l) (hv : ∃ a n c, v = .slice (some a) n c) : (convert 22 9 v).run Try.prog w = .ok (.string ⟨l.toArray⟩) w := by
  rcases h with ⟨a, cap, rfl, rfl, hn⟩ | ⟨b, off, cap, h0, rfl, h1, h2, h3, h4⟩
  · obtain ⟨a', n', c', hv'⟩ := hv
    simp only [Value.slice.injEq] at hv'
    obtain ⟨rfl, _, rfl⟩ := hv'
    have := run_convert_bytes_back (P := Try.prog) w 22 9 5 a' cap [] Try.underlying22 Try.underlying5 Try.underlying9 (by intro j hj; simp at hj)
    simpa using this
  · exact run_convert_bytes_back (P := Try.prog) w 22 9 5 ⟨b, off, none⟩ cap l Try.underlying22 Try.underlying5 Try.underlying9 (by
      intro j hj
      have ea : (⟨b, off, none⟩ : Addr).add j = ⟨b, off + j, none⟩ := by
        by_cases hz : j = 0
        · subst hz; simp [Addr.add]
        · simp [Addr.add, hz]
      rw [ea, h4 j hj])
end Go.Proofs.Ytbjeonnaannofaa

namespace Go.Proofs.Ytbjeonnaannofaa
open Go.RowKit
set_option linter.unusedVariables false

def uv (n : Nat) : Value := .int .u32 (n : Int)

/-- The block g holds the words l from its head on, and may be written. -/
def Ar (w : World) (g : Nat) (l : List Nat) : Prop := ∀ j (h : j < l.length), w.cell? ⟨g, j, none⟩ = some (.int .u32 (l[j] : Int)) ∧ w.frozen? ⟨g, j, none⟩ = false

theorem Ar.range {w : World} {g : Nat} {l : List Nat} (h : Ar w g l) : w.rangeAt g 0 (l.map uv) := by
  intro j v hv
  rw [List.getElem?_map] at hv
  have hj : j < l.length := by
    rcases Nat.lt_or_ge j l.length with h | h
    · exact h
    · rw [List.getElem?_eq_none h] at hv; simp at hv
  rw [List.getElem?_eq_getElem hj] at hv
  simp only [Option.map_some, Option.some.injEq] at hv
  rw [show 0 + j = j from by omega, (h j hj).1, ← hv]
  rfl
theorem Ar.there {w : World} {g : Nat} {l : List Nat} (h : Ar w g l) : w.there g 0 l.length := by
  intro j hj
  rw [show 0 + j = j from by omega, (h j hj).1]
  exact ⟨rfl, (h j hj).2⟩
theorem Ar.below {B : Nat} {w w' : World} {g : Nat} {l : List Nat} (h : Ar w g l) (hb : Below B w w') (hg : g < B) : Ar w' g l := by
  intro j hj
  exact ⟨(hb.cell (p := ⟨g, j, none⟩) hg).trans (h j hj).1, (hb.frozen (p := ⟨g, j, none⟩) hg).trans (h j hj).2⟩
theorem Ar.sm {w w' : World} {g : Nat} {l : List Nat} (h : Ar w g l) (hb : Sm w w') : Ar w' g l := h.below (hb (g + 1)) (Nat.lt_succ_self _)
theorem Ar.alloc {w : World} {g : Nat} {l : List Nat} (h : Ar w g l) (hg : g < w.heap.size) (o : Obj) : Ar (w.alloc o) g l := h.below ((Below.refl _ _).alloc (Nat.le_refl _) o) hg
theorem Ar.new (w : World) (g : Nat) (l : List Nat) (t : TypeId) (a : Array Value) (ha : a = (l.map uv).toArray) (hg : g = w.heap.size) : Ar (w.alloc (.cells a t)) g l := by
  subst ha; subst hg
  intro j hj
  constructor
  · rw [World.cell?_alloc_at _ _ _ _ rfl]
    simp [hj, uv]
  · simp [World.frozen?_alloc_new]
theorem Ar.set {w : World} {g : Nat} {l : List Nat} (h : Ar w g l) (k x : Nat) (hk : k < l.length) : Ar (w.setCell ⟨g, k, none⟩ (.int .u32 (x : Int))) g (l.set k x) := by
  intro j hj
  rw [List.length_set] at hj
  refine ⟨?_, by rw [World.frozen?_setCell]; exact (h j hj).2⟩
  by_cases e : k = j
  · subst e
    rw [World.cell?_setCell_same _ _ _ (h k hj).1]
    simp
  · rw [World.cell?_setCell_other _ _ _ _ (by intro q; injection q with _ q2; exact e q2), (h j hj).1]
    simp [e]
theorem Ar.setOther {w : World} {g : Nat} {l : List Nat} (h : Ar w g l) (p : Addr) (v : Value) (hp : p.block ≠ g) : Ar (w.setCell p v) g l := by
  intro j hj
  refine ⟨?_, by rw [World.frozen?_setCell]; exact (h j hj).2⟩
  rw [World.cell?_setCell_other _ _ _ _ (by intro e; subst e; exact hp rfl), (h j hj).1]
theorem Ar.sets {w : World} {g : Nat} {l : List Nat} (h : Ar w g l) (l' : List Nat) (hl : l'.length = l.length) : Ar (w.setCells g 0 (l'.map uv)) g l' := by
  intro j hj
  have h1 := World.rangeAt_setCells_same w g 0 (l'.map uv) (by rw [List.length_map, hl]; exact h.there) j (uv l'[j]) (by simp [hj])
  rw [show 0 + j = j from by omega] at h1
  exact ⟨h1, by rw [World.frozen?_setCells]; exact (h j (by omega)).2⟩
theorem Ar.setsOther {w : World} {g : Nat} {l : List Nat} (h : Ar w g l) (b o : Nat) (vs : List Value) (hb : g ≠ b) : Ar (w.setCells b o vs) g l := by
  intro j hj
  refine ⟨?_, by rw [World.frozen?_setCells]; exact (h j hj).2⟩
  rw [World.cell?_setCells_out b vs o w ⟨g, j, none⟩ (fun e => absurd e hb), (h j hj).1]
theorem rangeAt_below {B : Nat} {w w' : World} {g : Nat} {cs : List Value} (h : w.rangeAt g 0 cs) (hb : Below B w w') (hg : g < B) : w'.rangeAt g 0 cs := fun j v hv =>
  (hb.cell (p := ⟨g, 0 + j, none⟩) hg).trans (h j v hv)
theorem below_setCells {B : Nat} {w w' : World} (h : Below B w w') (g : Nat) (hg : B ≤ g) : ∀ (vs : List Value) (o : Nat), Below B w (w'.setCells g o vs) := by
  intro vs
  induction vs generalizing w' with
  | nil => intro o; exact h
  | cons v r ih => intro o; exact ih (h.setCell (p := ⟨g, o, none⟩) hg v) _
theorem run_index_array (P : Program) (w : World) (t e : TypeId) (n : Nat) (cs : Array Value) (k : IntKind) (i : Nat) (hi : i < n) (h : P.underlying t = some (.array n e)) (hsz : ∀ w, (sizeOf e).run P w = .ok 1 w) (hag : ∀ w, (isAgg e).run P w = .ok false w) (v : Value) (hv : cs[i]? = some v) :
    (Instr.index t (.agg cs) (.int k (i : Int))).run P w = .ok v w := by
  have hn : (0 : Int) ≤ (i : Int) ∧ (i : Int) < (n : Int) := by omega
  simp [Instr.index, run_underlying h, asIntOf, hn, go_sem, hi, hsz, hag, hv]
end Go.Proofs.Ytbjeonnaannofaa

namespace Go.Proofs.Ytbjeonnaannofaa
open Go.RowKit
set_option linter.unusedVariables false

def be4 (x : Nat) : List UInt8 := [UInt8.ofNat (x / 16777216 % 256), UInt8.ofNat (x / 65536 % 256), UInt8.ofNat (x / 256 % 256), UInt8.ofNat (x % 256)]
def bytesS (s : S8) : List UInt8 := s.list.flatMap be4
theorem bytesS_len (s : S8) : (bytesS s).length = 32 := rfl
theorem flat_snoc (l : List Nat) (k : Nat) (h : k < l.length) : (l.take (k + 1)).flatMap be4 = (l.take k).flatMap be4 ++ be4 l[k] := by
  rw [List.take_succ_eq_append_getElem h, List.flatMap_append]
  simp only [List.flatMap_cons, List.flatMap_nil, List.append_nil]
theorem flatB_len (l : List Nat) : (l.flatMap be4).length = 4 * l.length := by
  induction l with
  | nil => rfl
  | cons c t ih => simp only [List.flatMap_cons, List.length_append, List.length_cons, ih, be4, List.length_nil]; omega
theorem byte_at (x d : Nat) : (x : Int) / (d : Int) % 256 = ((UInt8.ofNat (x / d % 256)).toNat : Int) := by
  rw [UInt8.toNat_ofNat', Nat.mod_eq_of_lt (by omega)]
  simp
theorem byte_at1 (x : Nat) : (x : Int) % 256 = ((UInt8.ofNat (x % 256)).toNat : Int) := by
  rw [UInt8.toNat_ofNat', Nat.mod_eq_of_lt (by omega)]
  simp
/-- The block g can be read as the bytes l from its head on. -/
def Ab (w : World) (g : Nat) (l : List UInt8) : Prop := g < w.heap.size ∧ ∀ i (h : i < l.length), w.cell? ⟨g, i, none⟩ = some (.int .u8 (l[i].toNat : Int))
theorem Ab.below {B : Nat} {w w' : World} {g : Nat} {l : List UInt8} (h : Ab w g l) (hb : Below B w w') (hB : w.heap.size ≤ B) : Ab w' g l :=
  ⟨by have := hb.size; have := h.1; omega, fun i hi => (hb.cell (p := ⟨g, i, none⟩) (by have := h.1; show g < B; omega)).trans (h.2 i hi)⟩
theorem Ab.setsOther {w : World} {g : Nat} {l : List UInt8} (h : Ab w g l) (b o : Nat) (vs : List Value) (hb : g ≠ b) : Ab (w.setCells b o vs) g l :=
  ⟨by have := (below_setCells (Below.refl 0 w) b (Nat.zero_le _) vs o).size; have := h.1; omega, fun i hi => (World.cell?_setCells_out b vs o w ⟨g, i, none⟩ (fun e => absurd e hb)).trans (h.2 i hi)⟩
theorem OwnB.ab {base : Nat} {w : World} {v : Value} {l : List UInt8} {g n cap B : Nat} (h : OwnB base w v l) (hv : v = .slice (some ⟨g, 0, none⟩) n cap) (hB : B ≤ base) (hn : 0 < l.length) : Ab w g l ∧ B ≤ g ∧ cap ≤ maxLen := by
  rcases h.2 with ⟨hv', h0⟩ | ⟨g', cap', cur, hv', hb, hg, hnc, hcm, hcs, ht⟩
  · omega
  · have e := hv.symm.trans hv'
    simp only [Value.slice.injEq, Option.some.injEq, Addr.mk.injEq, and_true] at e
    obtain ⟨rfl, rfl, rfl⟩ := e
    subst hv
    exact ⟨⟨(Array.getElem?_eq_some_iff.1 hg).1, fun i hi => by
      rw [World.ownsRow.cellAt h i (by simpa using hi)]
      simp [hi, cb]⟩, by omega, hcm⟩
end Go.Proofs.Ytbjeonnaannofaa
