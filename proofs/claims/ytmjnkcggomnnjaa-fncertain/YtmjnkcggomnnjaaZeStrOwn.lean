/- A digest: the blocks of what is padded, one behind the other. What a call owns as bytes, made a text; appends of two and of four bytes. -/
import Derived.Test.YtmjnkcggomnnjaaZeIntKeep
import Derived.Test.YtmjnkcggomnnjaaZePadSpec
import Derived.Test.YtmjnkcggomnnjaaZePutPure
import Derived.Deep.RegionLaw
import Derived.Laws.IdiomStrings
namespace Go.Proofs.Ytmjnkcggomnnjaa
open Go.RowKit
set_option linter.unusedVariables false

def blk (P : List UInt8) (t : Nat) : List UInt8 := (P.drop (64 * t)).take 64
def shaFold (P : List UInt8) : Nat → S8
  | 0 => hC
  | t + 1 => blockS (shaFold P t) (wordsB (blk P t))
theorem shaFold_lt (P : List UInt8) : ∀ t, (shaFold P t).Lt
  | 0 => hC_lt
  | t + 1 => blockS_lt _ _
theorem blk_len (P : List UInt8) (t : Nat) (h : 64 * t + 64 ≤ P.length) : (blk P t).length = 64 := by simp [blk]; omega
theorem blk_at (P : List UInt8) (t i : Nat) (h : 64 * t + 64 ≤ P.length) (hi : i < (blk P t).length) : (blk P t)[i] = P[64 * t + i]'(by rw [blk_len P t h] at hi; omega) := by
  simp [blk]
def padQ (n : Nat) : Nat := (n + 72) / 64
theorem padB_q (l : List UInt8) : (padB l).length = 64 * padQ l.length := by
  have : (padB l).length = l.length + 1 + padZ l.length + 8 := by simp [padB, be8_len]; omega
  rw [this]; unfold padZ padQ; omega
end Go.Proofs.Ytmjnkcggomnnjaa

namespace Go.Proofs.Ytmjnkcggomnnjaa
open Go.RowKit
set_option linter.unusedVariables false

theorem step_app_own {ops : Array Oper} {o : Oper} {a : Act} {w : World} {K : Act → World → Prop} {Q : Exit → Act → World → Prop} {E : Prop} (hgd : o.guard = none) (s x : Operand)
    (ho : o.op = .call { callee := .builtin .append, args := #[s, x], argTypes := #[22, 22] })
    (base : Nat) (v vx : Value) (l k : List UInt8) (hs : a.eval s = v) (hx : a.eval x = vx) (hown : OwnB base w v l) (hrd : RdB w vx k) (hk : k ≠ [])
    (hlen : l.length + k.length ≤ 100000000) (hbase : base ≤ w.heap.size)
    (h : ∀ v' w', OwnB base w' v' (l ++ k) → Below base w w' → K (a.put o.dst v') w') : if Region.wanted o (yielded ops a.tmps) = true then Oper.wp Try.prog o a w K Q else E := by
  have hw : Region.wanted o (yielded ops a.tmps) = true := by simp [Region.wanted, hgd]
  rw [if_pos hw]
  obtain ⟨i0, hi, hz0, hz1, hz2⟩ := info_parts Try.infoU8
  have hbel : ∀ w', w.grownBy w' v.ownBlock → Below base w w' := fun w' hg => (Below.refl _ _).grown hg hbase (fun k hk => (World.ownsRow.lt hown k hk).1)
  rcases hrd with ⟨ax, cap, rfl, rfl, hnil⟩ | ⟨b, off, cap, h0, rfl, h1, h2, h3, h4⟩
  · exact absurd rfl hk
  · refine wp_append_own w s x 22 ho base 5 i0 (.int .u8 0) 1 1 Try.underlying22 hi hz0 hz1 hz2 rfl (by decide) v l.length (l.map cb) hs hown ⟨b, off, none⟩ k.length cap (k.map cb) hx (by simp) ?_ ?_ (by unfold maxLen; omega) (by omega) hbase ?_
    · intro j u hj
      have hj' : j < k.length := by have := (List.getElem?_eq_some_iff.1 hj).1; simpa using this
      have ea : (⟨b, off, none⟩ : Addr).add j = ⟨b, off + j, none⟩ := by
        by_cases hz : j = 0
        · subst hz; simp [Addr.add]
        · simp [Addr.add, hz]
      rw [ea, h4 j hj']
      simp [hj', cb] at hj
      rw [← hj]
    · intro u hu
      obtain ⟨c, _, rfl⟩ := List.mem_map.1 hu
      rfl
    · intro v' w' ho' hg _
      exact h v' w' (by simpa [OwnB] using ho') (hbel w' hg)

theorem OwnB.drew {base : Nat} {w : World} {v : Value} {l : List UInt8} (h : OwnB base w v l) : OwnB base w.drew v l := h

theorem rd_two (w : World) (x y : Int) (a b : UInt8) (n : Nat) (h1 : x = (a.toNat : Int)) (h2 : y = (b.toNat : Int)) (hn : n = w.heap.size) : RdB (w.alloc (.cells #[.int .u8 x, .int .u8 y] 5)) (.slice (some ⟨n, 0, none⟩) 2 2) [a, b] := by
  subst hn
  refine .inr ⟨w.heap.size, 0, 2, by simp, rfl, by simp, by unfold maxLen; omega, by simp, ?_⟩
  intro i hi
  simp only [List.length_cons, List.length_nil] at hi
  rcases (show i = 0 ∨ i = 1 from by omega) with rfl | rfl
  · simp [World.cell?_alloc_at, h1]
  · simp [World.cell?_alloc_at, h2]

theorem rd_four (w : World) (x y z u : Int) (a b c d : UInt8) (n : Nat) (h1 : x = (a.toNat : Int)) (h2 : y = (b.toNat : Int)) (h3 : z = (c.toNat : Int)) (h4 : u = (d.toNat : Int)) (hn : n = w.heap.size) : RdB (w.alloc (.cells #[.int .u8 x, .int .u8 y, .int .u8 z, .int .u8 u] 5)) (.slice (some ⟨n, 0, none⟩) 4 4) [a, b, c, d] := by
  subst hn
  refine .inr ⟨w.heap.size, 0, 4, by simp, rfl, by simp, by unfold maxLen; omega, by simp, ?_⟩
  intro i hi
  simp only [List.length_cons, List.length_nil] at hi
  rcases (show i = 0 ∨ i = 1 ∨ i = 2 ∨ i = 3 from by omega) with rfl | rfl | rfl | rfl
  · simp [World.cell?_alloc_at, h1]
  · simp [World.cell?_alloc_at, h2]
  · simp [World.cell?_alloc_at, h3]
  · simp [World.cell?_alloc_at, h4]

theorem own_some {base : Nat} {w : World} {v : Value} {l : List UInt8} (h : OwnB base w v l) (hl : 0 < l.length) : ∃ a n c, v = .slice (some a) n c := by
  obtain ⟨g, cap, hv, _⟩ := h.shape (by intro e; rw [e] at hl; simp at hl)
  exact ⟨_, _, _, hv⟩

theorem str_own (w : World) (v : Value) (l : List UInt8) (h : RdB w v l) (hv : ∃ a n c, v = .slice (some a) n c) : (convert 22 9 v).run Try.prog w = .ok (.string ⟨l.toArray⟩) w := by
  rcases h with ⟨a, cap, rfl, rfl, hn⟩ | ⟨b, off, cap, h0, rfl, h1, h2, h3, h4⟩
  · obtain ⟨a', n', c', hv'⟩ := hv
    simp only [Value.slice.injEq] at hv'
    obtain ⟨rfl, _, rfl⟩ := hv'
    have := run_convert_bytes_back (P := Try.prog) w 22 9 5 a' cap [] Try.underlying22 Try.underlying5 Try.underlying9 (by intro j hj; simp at hj)
    simpa using this
  · exact run_convert_bytes_back (P := Try.prog) w 22 9 5 ⟨b, off, none⟩ cap l Try.underlying22 Try.underlying5 Try.underlying9 (by
      intro j hj
      have ea : (⟨b, off, none⟩ : Addr).add j = ⟨b, off + j, none⟩ := by
        by_cases hz : j = 0
        · subst hz; simp [Addr.add]
        · simp [Addr.add, hz]
      rw [ea, h4 j hj])
end Go.Proofs.Ytmjnkcggomnnjaa
