/- The model's LeafDigest, NodeDigest and the greatest power of 2 below a number. Texts that lie one behind the other in a block. -/
import Derived.Test.YtceefkpcjonljaaDoorMerkPure
import Derived.Test.YtceefkpcjonljaaDoorDigSpec
import Derived.Lib.AppendStr
import Derived.Test.YtceefkpcjonljaaDoorJoin2
namespace Go.Proofs.YtceefkpcjonljaaDoor
open Go.RowKit
set_option linter.unusedVariables false

theorem app_text {ops : Array Oper} {rest : List Oper} {o : Oper} {a : Act} {Q : Exit → Act → World → Prop} (w : World) (hgd : o.guard = none) (s x : Operand)
    (ho : o.op = .call { callee := .builtin .append, args := #[s, x], argTypes := #[49, 9] })
    (base : Nat) (v : Value) (t : ByteArray) (l : List UInt8) (hs : a.eval s = v) (hx : a.eval x = .string t) (hown : OwnB base w v l)
    (hlen : l.length + t.size ≤ 100000000) (hbase : base ≤ w.heap.size)
    (h : ∀ v' w', OwnB base w' v' (l ++ t.data.toList) → Below base w w' → wpList Tryd.prog ops Q rest (a.put o.dst v') w') : wpList Tryd.prog ops Q (o :: rest) a w := by
  obtain ⟨i0, hi, hz0, hz1, hz2⟩ := info_parts Tryd.infoU8
  refine Lib.wpList_append_own_string w hgd s x 49 9 ho base 5 i0 Tryd.underlying49 Tryd.underlying9 hi hz0 hz1 hz2 v l.length (l.map cb) hs hown t hx (by unfold maxLen; omega) (by omega) hbase ?_
  intro v' w' ho' hg _
  refine h v' w' ?_ ((Below.refl _ _).grown hg hbase (fun k hk => (World.ownsRow.lt hown k hk).1))
  have e1 : l.map cb ++ Lib.strCells t = (l ++ t.data.toList).map cb := by
    rw [List.map_append]; rfl
  have e2 : l.length + t.size = (l ++ t.data.toList).length := by simp
  rw [e1, e2] at ho'
  exact ho'

theorem own_lit1 (w : World) (c : UInt8) : OwnB w.heap.size (w.alloc (.cells #[.int .u8 (c.toNat : Int)] 5)) (.slice (some ⟨w.heap.size, 0, none⟩) 1 1) [c] :=
  World.ownsRow_lit w #[.int .u8 (c.toNat : Int)] 1 (Nat.le_refl _) (by unfold maxLen; omega) (by simp)

theorem specDig (v : Value) (l : List UInt8) (w : World) (hr : RdB w v l) (hl : l.length ≤ 4000000) (D : ByteArray) (hD : (⟨(dig l).toArray⟩ : ByteArray) = D) :
    Calls Tryd.prog 37 #[v] w fun e w' => e = .returned (.string D) ∧ Below w.heap.size w w' := by
  subst hD
  exact specDigest_any v l w hr hl

set_option maxRecDepth 20000 in
set_option maxHeartbeats 1000000 in
theorem specLeaf_any (s : ByteArray) (w : World) (hs : s.size ≤ 3000000) :
    Calls Tryd.prog 38 #[.string s] w fun e w' => e = .returned (.string (leafB s)) ∧ Below w.heap.size w w' := by
  have Ho := hide (own_lit1 w 0)
  have Hb := hide ((Below.refl w.heap.size w).alloc (Nat.le_refl _) (.cells #[.int .u8 0] 5))
  have hl : s.data.toList.length = s.size := by simp
  go_enter Tryd.func38, Tryd.ntmps38
  go_wp2_with (at_builtin; refine app_text _ (by rfl) _ _ (by rfl) w.heap.size _ s [0] (by rfl) (by rfl) Ho.out (by simp; omega) (by simp) ?_; intro v2 w2 ho2 hb2)
  refine (specDig _ _ _ ho2.rd (by simp; omega) (leafB s) rfl).mono ?_
  rintro e w3 ⟨rfl, hb3⟩
  have hB2 := Hb.out.trans hb2
  have hB3 : Below w.heap.size w w3 := hB2.trans (hb3.mono hB2.size)
  go_wp2
  go_ret
  exact ⟨rfl, hB3⟩

set_option maxRecDepth 20000 in
set_option maxHeartbeats 1000000 in
theorem specNode_any (a b : ByteArray) (w : World) (ha : a.size ≤ 1500000) (hb : b.size ≤ 1500000) :
    Calls Tryd.prog 40 #[.string a, .string b] w fun e w' => e = .returned (.string (nodeB a b)) ∧ Below w.heap.size w w' := by
  have Ho := hide (own_lit1 w 1)
  have Hb := hide ((Below.refl w.heap.size w).alloc (Nat.le_refl _) (.cells #[.int .u8 1] 5))
  have hla : a.data.toList.length = a.size := by simp
  have hlb : b.data.toList.length = b.size := by simp
  go_enter Tryd.func40, Tryd.ntmps40
  go_wp2_with (first
    | (at_builtin; refine app_text _ (by rfl) _ _ (by rfl) w.heap.size _ b ([1] ++ a.data.toList) (by rfl) (by rfl) ho2 (by simp; omega) hsz2 ?_; intro v3 w3 ho3 hb3)
    | (at_builtin; refine app_text _ (by rfl) _ _ (by rfl) w.heap.size _ a [1] (by rfl) (by rfl) Ho.out (by simp; omega) (by simp) ?_; intro v2 w2 ho2 hb2; have hsz2 := (Hb.out.trans hb2).size))
  refine (specDig _ _ _ ho3.rd (by simp; omega) (nodeB a b) rfl).mono ?_
  rintro e w4 ⟨rfl, hb4⟩
  have hB3 := (Hb.out.trans hb2).trans hb3
  have hB4 : Below w.heap.size w w4 := hB3.trans (hb4.mono hB3.size)
  go_wp2
  go_ret
  exact ⟨rfl, hB4⟩

set_option maxRecDepth 20000 in
theorem l3Half_any (n : Nat) (w : World) (h2 : 2 ≤ n) (hn : n ≤ 1000000) :
    Calls Tryd.prog 39 #[.int .i64 (n : Int)] w fun e w' => e = .returned (.int .i64 (half n : Int)) ∧ w' = w := by
  go_enter Tryd.func39, Tryd.ntmps39
  go_wp2
  go_loopw [3] (fun kv wr => ∃ e k : Nat, k = 2 ^ e ∧ k < n ∧ kv = .int .i64 (k : Int) ∧ wr = w) (fun kv _ => n - (intOf kv).toNat)
  case atStart => exact ⟨0, 1, rfl, by omega, rfl, rfl⟩
  case round =>
    obtain ⟨e, k, hk, hkn, rfl, rfl⟩ := hrel
    have hk1 : 1 ≤ k := by rw [hk]; exact Nat.two_pow_pos e
    by_cases hlt : 2 * k < n
    · have hli : 2 * (k : Int) < (n : Int) := by omega
      have Hk := hide hk
      clear hk
      go_wp2
      go_roundw
      case rel => exact ⟨e + 1, 2 * k, by rw [Nat.pow_succ, ← Hk.out]; omega, hlt, by go_num, trivial⟩
      case measure => simp [intOf]; omega
    · have hli : ¬ 2 * (k : Int) < (n : Int) := by omega
      have Hh := hide (half_is n e (by omega) (by omega))
      have Hk := hide hk
      clear hk
      go_wp2
      go_ret
      exact ⟨ret_int (by rw [Hh.out, ← Hk.out]), rfl⟩
end Go.Proofs.YtceefkpcjonljaaDoor

namespace Go.Proofs.YtceefkpcjonljaaDoor
open Go.RowKit
set_option linter.unusedVariables false

/-- The texts l lie in block b from off on. -/
def StrAt (w : World) (b off : Nat) (l : List ByteArray) : Prop := b < w.heap.size ∧ ∀ i (h : i < l.length), w.cell? ⟨b, off + i, none⟩ = some (.string l[i])
theorem StrAt.below {B : Nat} {w w' : World} {b off : Nat} {l : List ByteArray} (h : StrAt w b off l) (hb : Below B w w') (hB : b < B) : StrAt w' b off l :=
  ⟨by have := hb.size; have := h.1; omega, fun i hi => (hb.cell (p := ⟨b, off + i, none⟩) hB).trans (h.2 i hi)⟩
theorem StrAt.drew {w : World} {b off : Nat} {l : List ByteArray} (h : StrAt w b off l) : StrAt w.drew b off l := h.below (Below.refl _ _).drew h.1
theorem StrAt.take {w : World} {b off : Nat} {l : List ByteArray} (h : StrAt w b off l) (k : Nat) : StrAt w b off (l.take k) :=
  ⟨h.1, fun i hi => by rw [h.2 i (by simp at hi; omega)]; simp⟩
theorem StrAt.drop {w : World} {b off : Nat} {l : List ByteArray} (h : StrAt w b off l) (k : Nat) : StrAt w b (off + k) (l.drop k) :=
  ⟨h.1, fun i hi => by rw [Nat.add_assoc, h.2 (k + i) (by simp at hi; omega)]; simp⟩
theorem StrAt.rd {w : World} {b off cap : Nat} {l : List ByteArray} (h : StrAt w b off l) (h1 : l.length ≤ cap) (h2 : cap ≤ maxLen) : RdS w (.slice (some ⟨b, off, none⟩) l.length cap) l := by
  by_cases hl : l = []
  · subst hl; exact .inl ⟨_, _, rfl, rfl, fun h => by cases h⟩
  · exact .inr ⟨b, off, cap, hl, rfl, h1, h2, h.1, h.2⟩
end Go.Proofs.YtceefkpcjonljaaDoor
