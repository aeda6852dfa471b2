/- Appending to rows of those who vote, which are the call's own. Appending to rows of those who vote within a region that draws. Those who vote, drawn: names that are all different, weights that are small. -/
import Derived.Test.YtbjeonnaannofaaZaVsMem
import Derived.Maps.AppendAt
import Derived.Laws.AppendOwnNone
import Derived.Deep.RegionHeldLaw
import Derived.Test.YtbjeonnaannofaaZaIn
import Derived.Test.YtbjeonnaannofaaZaStrs
import Derived.Deep.RegionLaw
namespace Go.Proofs.Ytbjeonnaannofaa
open Go.RowKit
set_option linter.unusedVariables false

theorem add_flatV (b off i : Nat) : (⟨b, off, none⟩ : Addr).add i = ⟨b, off + i, none⟩ := by
  by_cases hz : i = 0
  · subst hz; simp [Addr.add]
  · simp [Addr.add, hz]
theorem own_nilV (w : World) (base : Nat) (h : base ≤ w.heap.size) : OwnV base (w.alloc (.cells #[] 97)) (.slice (some ⟨w.heap.size, 0, none⟩) 0 0) [] :=
  World.ownsRow_lit w #[] 0 h (by unfold maxLen; omega) (by simp)
theorem OwnV.alloc {base : Nat} {w : World} {v : Value} {l : List Vl} (h : OwnV base w v l) (o : Obj) : OwnV base (w.alloc o) v l := World.ownsRow.alloc h o
theorem rdV_cells {w : World} {b off : Nat} {k : List Vl} (h4 : ∀ i (h : i < k.length), w.cell? ⟨b, off + i * 2, none⟩ = some (.string k[i].1) ∧ w.cell? ⟨b, off + i * 2 + 1, none⟩ = some (.int .i64 k[i].2)) :
    ∀ j u, (k.map vlC).flatten[j]? = some u → w.cell? ((⟨b, off, none⟩ : Addr).add j) = some u := by
  intro j u hj
  have hjl : j < (k.map vlC).flatten.length := (List.getElem?_eq_some_iff.1 hj).1
  rw [flat_len 2 _ (vlM_sz k), List.length_map] at hjl
  have hi : j / 2 < k.length := by omega
  have e := flat_get 2 (k.map vlC) (j / 2) (j % 2) (by simpa using hi) (vlM_sz k) (by omega)
  rw [show j / 2 * 2 + j % 2 = j from by omega] at e
  rw [e] at hj
  rw [add_flatV]
  rcases Nat.mod_two_eq_zero_or_one j with h | h
  · rw [h] at hj
    rw [show off + j = off + j / 2 * 2 from by omega, (h4 (j / 2) hi).1]
    simpa [vlC] using hj
  · rw [h] at hj
    rw [show off + j = off + j / 2 * 2 + 1 from by omega, (h4 (j / 2) hi).2]
    simpa [vlC] using hj

theorem app_ownV {ops : Array Oper} {rest : List Oper} {o : Oper} {a : Act} {Q : Exit → Act → World → Prop} (w : World) (hgd : o.guard = none) (s x : Operand)
    (ho : o.op = .call { callee := .builtin .append, args := #[s, x], argTypes := #[35, 35] })
    (base : Nat) (v vx : Value) (l k : List Vl) (hs : a.eval s = v) (hx : a.eval x = vx) (hown : OwnV base w v l) (hrd : RdV w vx k)
    (hlen : l.length + k.length ≤ 100000000) (hbase : base ≤ w.heap.size)
    (h : ∀ v' w', OwnV base w' v' (l ++ k) → w.grownBy w' v.ownBlock → Below base w w' → wpList Try.prog ops Q rest (a.put o.dst v') w') : wpList Try.prog ops Q (o :: rest) a w := by
  obtain ⟨i0, hi, hz0, hz1, hz2⟩ := info_parts Try.infoVl
  have hbel : ∀ w', w.grownBy w' v.ownBlock → Below base w w' := fun w' hg => (Below.refl _ _).grown hg hbase (fun k hk => (hown.ge k hk))
  rcases hrd with ⟨ax, cap, rfl, rfl, hnil⟩ | ⟨b, off, cap, h0, rfl, h1, h2, h3, h4⟩
  · cases ax with
    | none =>
      have hc : cap = 0 := hnil rfl
      subst hc
      refine wpList_append_own_none hgd s x 35 ho base 97 i0 2 Try.underlying35 hi v l.length (l.map vlC).flatten hs hown hx ?_
      exact h v w (by simpa [OwnV] using hown) (World.grownBy.refl _ _) (Below.refl _ _)
    | some ad =>
      refine wpList_append_own w hgd s x 35 ho base 97 i0 (.agg #[.string { data := #[] }, .int .i64 0]) 2 24 Try.underlying35 hi hz0 hz1 hz2 rfl (by decide) v l.length (l.map vlC).flatten hs hown ad 0 cap [] hx rfl (by intro j u hj; simp at hj) (by intro u hu; simp at hu) (by unfold maxLen; simp at hlen; omega) (by simp at hlen; omega) hbase ?_
      intro v' w' ho' hg _
      exact h v' w' (by simpa [OwnV] using ho') hg (hbel w' hg)
  · refine wpList_append_own w hgd s x 35 ho base 97 i0 (.agg #[.string { data := #[] }, .int .i64 0]) 2 24 Try.underlying35 hi hz0 hz1 hz2 rfl (by decide) v l.length (l.map vlC).flatten hs hown ⟨b, off, none⟩ k.length cap (k.map vlC).flatten hx (by rw [flat_len 2 _ (vlM_sz k), List.length_map]) (rdV_cells h4) ?_ (by unfold maxLen; omega) (by omega) hbase ?_
    · intro u hu
      obtain ⟨c, hc, hu⟩ := List.mem_flatten.1 hu
      obtain ⟨p, _, rfl⟩ := List.mem_map.1 hc
      simp only [vlC, List.mem_cons, List.not_mem_nil, or_false] at hu
      rcases hu with rfl | rfl <;> rfl
    · intro v' w' ho' hg _
      exact h v' w' (by simpa [OwnV] using ho') hg (hbel w' hg)
theorem rd_one_v (w : World) (g : Nat) (x : ByteArray) (y : Int) (hg : g = w.heap.size) : RdV (w.alloc (.cells #[.string x, .int .i64 y] 97)) (.slice (some ⟨g, 0, none⟩) 1 1) [(x, y)] := by
  subst hg
  refine .inr ⟨w.heap.size, 0, 1, by simp, rfl, by simp, by unfold maxLen; omega, by simp, ?_⟩
  intro i hi
  simp only [List.length_cons, List.length_nil] at hi
  have : i = 0 := by omega
  subst this
  exact ⟨by rw [World.cell?_alloc_at _ _ _ _ rfl]; rfl, by rw [World.cell?_alloc_at _ _ _ _ rfl]; rfl⟩
theorem RdV.at {w : World} {a : Option Addr} {cap k : Nat} {l : List Vl} (h : RdV w (.slice a l.length cap) l) (hk : k < l.length) :
    ∃ b off, a = some ⟨b, off, none⟩ ∧ l.length ≤ cap ∧ cap ≤ maxLen ∧ b < w.heap.size ∧ w.cell? ⟨b, off + k * 2, none⟩ = some (.string l[k].1) ∧ w.cell? ⟨b, off + k * 2 + 1, none⟩ = some (.int .i64 l[k].2) := by
  rcases h with ⟨a', cap', e, rfl, -⟩ | ⟨b, off, cap', h0, e, h1, h2, h3, h4⟩
  · simp at hk
  · simp only [Value.slice.injEq] at e
    obtain ⟨rfl, -, rfl⟩ := e
    exact ⟨b, off, rfl, h1, h2, h3, (h4 k hk).1, (h4 k hk).2⟩
end Go.Proofs.Ytbjeonnaannofaa

namespace Go.Proofs.Ytbjeonnaannofaa
open Go.RowKit
set_option linter.unusedVariables false

theorem Blk.drewV {W : World} {B : Nat} {t : TypeId} {cs : List Value} (h : Blk W B t cs) : Blk W.drew B t cs := h
theorem Blk.newV (W : World) (t : TypeId) (cs : List Value) (n : Nat) (h : n = W.heap.size) : Blk (W.alloc (.cells cs.toArray t)) n t cs := by subst h; exact Blk.new W t cs
theorem OwnV.drew {base : Nat} {w : World} {v : Value} {l : List Vl} (h : OwnV base w v l) : OwnV base w.drew v l := h.below (Below.refl _ w).drew (Nat.le_refl _)
theorem step_appV {ops : Array Oper} {o : Oper} {a : Act} {w : World} {K : Act → World → Prop} {Q : Exit → Act → World → Prop} {E : Prop} (hgd : o.guard = none) (s x : Operand)
    (ho : o.op = .call { callee := .builtin .append, args := #[s, x], argTypes := #[35, 35] })
    (base : Nat) (v : Value) (B : Nat) (l : List Vl) (p : Vl) (hs : a.eval s = v) (hx : a.eval x = .slice (some ⟨B, 0, none⟩) 1 1) (hown : OwnV base w v l) (hblk : Blk w B 97 (vlC p))
    (hlen : l.length ≤ 100000000) (hbase : base ≤ w.heap.size)
    (h : ∀ v' w', OwnV base w' v' (l ++ [p]) → Below base w w' → K (a.put o.dst v') w') : if Region.wanted o (yielded ops a.tmps) = true then Oper.wp Try.prog o a w K Q else E := by
  have hw : Region.wanted o (yielded ops a.tmps) = true := by simp [Region.wanted, hgd]
  rw [if_pos hw]
  obtain ⟨i0, hi, hz0, hz1, hz2⟩ := info_parts Try.infoVl
  have hbel : ∀ w', w.grownBy w' v.ownBlock → Below base w w' := fun w' hg => (Below.refl _ _).grown hg hbase (fun k hk => (hown.ge k hk))
  refine wp_append_own w s x 35 ho base 97 i0 (.agg #[.string { data := #[] }, .int .i64 0]) 2 24 Try.underlying35 hi hz0 hz1 hz2 rfl (by decide) v l.length (l.map vlC).flatten hs hown ⟨B, 0, none⟩ 1 1 (vlC p) hx rfl ?_ ?_ (by unfold maxLen; omega) (by omega) hbase ?_
  · intro j u hj
    rw [add_flatV, Nat.zero_add, hblk.cell j]
    exact hj
  · intro u hu
    simp only [vlC, List.mem_cons, List.not_mem_nil, or_false] at hu
    rcases hu with rfl | rfl <;> rfl
  · intro v' w' ho' hg _
    exact h v' w' (by unfold OwnV; rw [List.length_append, List.map_append, List.flatten_append]; simpa using ho') (hbel w' hg)
end Go.Proofs.Ytbjeonnaannofaa

namespace Go.Proofs.Ytbjeonnaannofaa
open Go.RowKit
set_option linter.unusedVariables false

/-- The letter at the place j. -/
def fv (j : Nat) : ByteArray := ⟨#[UInt8.ofNat (97 + j)]⟩
theorem fv_inj {i j : Nat} (hi : i < 5) (hj : j < 5) (h : fv i = fv j) : i = j := by
  unfold fv at h
  injection h with h
  have h1 : UInt8.ofNat (97 + i) = UInt8.ofNat (97 + j) := by simpa using h
  have h2 := congrArg UInt8.toNat h1
  simp only [UInt8.toNat_ofNat'] at h2
  omega
theorem fv_size (j : Nat) : (fv j).size = 1 := rfl
theorem five_fv (w : World) (k : Nat) (h : k < 5) : (w.alloc (.cells #[.string ⟨#[97]⟩, .string ⟨#[98]⟩, .string ⟨#[99]⟩, .string ⟨#[100]⟩, .string ⟨#[101]⟩] 9)).cell? ⟨w.heap.size, k, none⟩ = some (.string (fv k)) := by
  rw [World.cell?_alloc_at _ _ _ _ rfl]
  rcases (show k = 0 ∨ k = 1 ∨ k = 2 ∨ k = 3 ∨ k = 4 from by omega) with rfl | rfl | rfl | rfl | rfl <;> rfl
/-- The names ls are letters below the place k, all different. -/
def Letters (k : Nat) (ls : List ByteArray) : Prop := ls.length ≤ k ∧ ls.Nodup ∧ ∀ s ∈ ls, ∃ j, j < k ∧ s = fv j
theorem Letters.more {k : Nat} {ls : List ByteArray} (h : Letters k ls) : Letters (k + 1) ls := ⟨by have := h.1; omega, h.2.1, fun s hs => by obtain ⟨j, h1, h2⟩ := h.2.2 s hs; exact ⟨j, by omega, h2⟩⟩
theorem Letters.put {k : Nat} {ls : List ByteArray} (h : Letters k ls) (hk : k < 5) : Letters (k + 1) (ls ++ [fv k]) := by
  refine ⟨by have := h.1; simp; omega, ?_, ?_⟩
  · rw [List.nodup_append]
    refine ⟨h.2.1, by simp, fun a ha b hb => ?_⟩
    intro e
    have hb' : b = fv k := by simpa using hb
    obtain ⟨j, h1, h2⟩ := h.2.2 a ha
    have := fv_inj (by omega) hk (h2.symm.trans (e.trans hb'))
    omega
  · intro s hs
    rcases List.mem_append.1 hs with hs | hs
    · obtain ⟨j, h1, h2⟩ := h.2.2 s hs
      exact ⟨j, by omega, h2⟩
    · exact ⟨k, by omega, by simpa using hs⟩
theorem Letters.size {k : Nat} {ls : List ByteArray} (h : Letters k ls) : ∀ s ∈ ls, s.size = 1 := fun s hs => by obtain ⟨j, _, rfl⟩ := h.2.2 s hs; rfl
set_option maxRecDepth 20000 in
set_option maxHeartbeats 1000000 in
theorem l1NamesD_any (w0 w : World) (g : Nat) (cv : Value) (code : List UInt8) (hc : Cur w0 w g cv code) (hl : code.length ≤ 1048576) :
    Calls Try.prog 134 #[.pointer (some ⟨g, 0, none⟩)] w fun e w' => ∃ (v' : Value) (ls : List ByteArray), e = .returned v' ∧ OwnS w.heap.size w' v' ls ∧ Letters 5 ls ∧ Cur w0 w' g cv code ∧ w.grownBy w' (some g) := by
  have hb0 : Below w.heap.size w (w.alloc (.cells #[] 9)) := (Below.refl _ _).alloc (Nat.le_refl _) _
  have Ho := hide (own_nilS w w.heap.size (Nat.le_refl _))
  have Hc := hide (hc.below hb0 hc.lt)
  have Hg := hide (grw_of_below (some g) hb0 (Nat.le_refl _))
  have hgl := hc.lt
  clear hc hb0
  go_enter Try.func134, Try.ntmps134
  go_wp2
  go_loopw [3, 4] (fun bv iv wr => ∃ (k : Nat) (ls : List ByteArray), k ≤ 5 ∧ iv = .int .i64 (k : Int) ∧ OwnS w.heap.size wr bv ls ∧ Letters k ls ∧ Cur w0 wr g cv code ∧ w.grownBy wr (some g)) (fun _ iv _ => 5 - (intOf iv).toNat)
  case atStart => exact ⟨0, [], Nat.zero_le _, rfl, Ho.out, ⟨by simp, by simp, by simp⟩, Hc.out, Hg.out⟩
  case round =>
    obtain ⟨k, ls, hk, rfl, ho, hpl, hc, hg⟩ := hrel
    have Hs1 := hide hpl
    have hpl2 : ls.length ≤ 5 := by have := hpl.1; omega
    have Hor := hide ho
    have Hcr := hide hc
    have Hgr := hide hg
    have hsz := hg.size
    clear ho hc hg hpl
    by_cases hlt : k < 5
    · go_wp2_with fail
      refine (l1Once_any _ _ _ _ _ _ Hcr.out hl (by omega) (by omega)).mono ?_
      rintro e w1 ⟨bb, rfl, hc1, hg1⟩
      have Ho1 := hide (Hor.out.notg hg1 hgl)
      have Hc1 := hide hc1
      have Hg1 := hide (grw_trans Hgr.out hg1)
      have hsz1 := hg1.size
      clear hc1 hg1
      cases bb
      · have hcell := five_fv w1 k hlt
        have Hput := hide (Hs1.out.put hlt)
        generalize fv k = s at hcell Hput
        go_wp2_with (at_builtin; refine app_ownS _ rfl _ _ rfl w.heap.size _ _ ls [s] rfl rfl ((Ho1.out.alloc _).alloc _) (rd_one_str' _ _ _ (by simp)) (by simp; omega) (by simp; omega) ?_; intro v2 w2 ho2 hb2)
        have hb2' : Below w.heap.size w1 w2 := (((Below.refl _ _).alloc (by omega) _).alloc (by simp; omega) _).trans hb2
        have Hc2 := hide (Hc1.out.below hb2' hgl)
        have Hg2 := hide (grw_below Hg1.out hb2' (Nat.le_refl _))
        go_roundw
        case rel => exact ⟨k + 1, ls ++ [s], by omega, by go_num, ho2, Hput.out, Hc2.out, Hg2.out⟩
        case measure => simp [intOf]; omega
      · go_wp2
        go_roundw
        case rel => exact ⟨k + 1, ls, by omega, by go_num, Ho1.out, Hs1.out.more, Hc1.out, Hg1.out⟩
        case measure => simp [intOf]; omega
    · have e5 : k = 5 := by omega
      rw [e5] at Hs1
      clear e5
      go_wp2
      go_ret
      exact ⟨_, ls, rfl, Hor.out, Hs1.out, Hcr.out, Hgr.out⟩
/-- Those who vote are few, their names all different and short, their weights small. -/
def FewV (l : List Vl) : Prop := l.length ≤ 5 ∧ (l.map (·.1)).Nodup ∧ ∀ p ∈ l, p.1.size = 1 ∧ 1 ≤ p.2 ∧ p.2 ≤ 30
theorem OwnV.notg {base : Nat} {w w' : World} {v : Value} {l : List Vl} {g : Nat} (h : OwnV base w v l) (hg : w.grownBy w' (some g)) (hb : g < base) : OwnV base w' v l :=
  h.kept hg (.inr fun e => by have := h.ge g e; omega)
theorem RdS.at {w : World} {a : Option Addr} {cap k : Nat} {l : List ByteArray} (h : RdS w (.slice a l.length cap) l) (hk : k < l.length) :
    ∃ b off, a = some ⟨b, off, none⟩ ∧ l.length ≤ cap ∧ cap ≤ maxLen ∧ b < w.heap.size ∧ w.cell? ⟨b, off + k, none⟩ = some (.string l[k]) := by
  rcases h with ⟨a', cap', e, rfl, -⟩ | ⟨b, off, cap', h0, e, h1, h2, h3, h4⟩
  · simp at hk
  · simp only [Value.slice.injEq] at e
    obtain ⟨rfl, -, rfl⟩ := e
    exact ⟨b, off, rfl, h1, h2, h3, h4 k hk⟩
theorem step_appVat {ops : Array Oper} {o : Oper} {a : Act} {w : World} {K : Act → World → Prop} {Q : Exit → Act → World → Prop} {E : Prop} (hgd : o.guard = none) (s x : Operand)
    (ho : o.op = .call { callee := .builtin .append, args := #[s, x], argTypes := #[35, 35] })
    (base : Nat) (v : Value) (B : Nat) (l : List Vl) (p : Vl) (hs : a.eval s = v) (hx : a.eval x = .slice (some ⟨B, 0, none⟩) 1 1) (hown : OwnV base w v l) (hblk : Blk w B 97 (vlC p))
    (hlen : l.length ≤ 100000000) (hbase : base ≤ w.heap.size)
    (h : ∀ v' w', OwnV base w' v' (l ++ [p]) → w.grownBy w' v.ownBlock → (v'.ownBlock = v.ownBlock ∨ v'.ownBlock = some w.heap.size) → K (a.put o.dst v') w') : if Region.wanted o (yielded ops a.tmps) = true then Oper.wp Try.prog o a w K Q else E := by
  have hw : Region.wanted o (yielded ops a.tmps) = true := by simp [Region.wanted, hgd]
  rw [if_pos hw]
  obtain ⟨i0, hi, hz0, hz1, hz2⟩ := info_parts Try.infoVl
  obtain ⟨v', w', hr, h2, h3, h4, h5⟩ := run_append_own_at (P := Try.prog) w base 35 o.type 97 i0 (.agg #[.string { data := #[] }, .int .i64 0]) 2 24 Try.underlying35 hi hz0 hz1 hz2 rfl (by decide) v l.length (l.map vlC).flatten hown ⟨B, 0, none⟩ 1 1 (vlC p) rfl (fun j u hj => by rw [add_flatV, Nat.zero_add, hblk.cell j]; exact hj) (fun u hu => by
    simp only [vlC, List.mem_cons, List.not_mem_nil, or_false] at hu
    rcases hu with rfl | rfl <;> rfl) (by unfold maxLen; omega) (by omega) hbase
  unfold Oper.wp execOp
  simp only [ho, resolve, invoke, builtin, Sem.run_bind, Sem.run_pure, Result.andThen_ok, List.map_toArray, List.map_cons, List.map_nil, hs, hx, hr]
  exact h v' w' (by unfold OwnV; rw [List.length_append, List.map_append, List.flatten_append]; simpa using h2) h3 h5
theorem OwnS.keptV {base : Nat} {w w' : World} {v : Value} {l : List ByteArray} {row : Option Nat} (h : OwnS base w v l) (hg : w.grownBy w' row) (hne : ∀ r, row = some r → v.ownBlock ≠ some r) : OwnS base w' v l :=
  World.ownsRow.kept h hg (by
    cases hv : v.ownBlock with
    | none => exact .inl rfl
    | some r => exact .inr (fun e => hne r e.symm hv))
theorem few_of {l : List Vl} {ls : List ByteArray} (h : Letters 5 ls) (hm : l.map (·.1) = ls) (hw : ∀ p ∈ l, 1 ≤ p.2 ∧ p.2 ≤ 30) : FewV l := by
  refine ⟨?_, ?_, fun p hp => ⟨h.size p.1 (by rw [← hm]; exact List.mem_map_of_mem hp), hw p hp⟩⟩
  · have := h.1
    rw [← hm, List.length_map] at this
    exact this
  · rw [hm]; exact h.2.1
set_option maxRecDepth 20000 in
set_option maxHeartbeats 2000000 in
theorem l7Draw_any (w0 w : World) (g : Nat) (cv : Value) (code : List UInt8) (hc : Cur w0 w g cv code) (hl : code.length ≤ 1048576) :
    Calls Try.prog 136 #[.pointer (some ⟨g, 0, none⟩)] w fun e w' => ∃ (v' : Value) (l : List Vl), e = .returned v' ∧ OwnV w.heap.size w' v' l ∧ l ≠ [] ∧ FewV l ∧ Cur w0 w' g cv code ∧ w.grownBy w' (some g) := by
  have hb0 : Below w.heap.size w (w.alloc (.cells #[] 97)) := (Below.refl _ _).alloc (Nat.le_refl _) _
  have Ho := hide (own_nilV w w.heap.size (Nat.le_refl _))
  have Hc := hide (hc.below hb0 hc.lt)
  have Hg := hide (grw_of_below (some g) hb0 (Nat.le_refl _))
  have hgl := hc.lt
  clear hc hb0
  go_enter Try.func136, Try.ntmps136
  go_wp2_with fail
  refine (l1NamesD_any _ _ _ _ _ Hc.out hl).mono ?_
  rintro e w1 ⟨v1, ls, rfl, o1, hls, hc1, hg1⟩
  obtain ⟨an, cn, rfl⟩ := o1.rd.shape
  have Ho1 := hide (Ho.out.notg hg1 hgl)
  have Hg1 := hide (grw_trans Hg.out hg1)
  have Hn : Hid (OwnS (w.heap.size + 1) w1 (.slice an ls.length cn) ls) := hide (by have h := o1; simp only [World.size_alloc] at h; exact h)
  have Hls := hide hls
  have hln : ls.length ≤ 5 := hls.1
  have Hc1 := hide hc1
  have hz1 := hg1.size
  clear o1 hc1 hg1 hls Ho Hc Hg
  go_wp2
  go_loopw [3, 5] (fun ov iv wr => ∃ (k : Nat) (l : List Vl), k ≤ ls.length ∧ iv = .int .i64 (k : Int) ∧ OwnV w.heap.size wr ov l ∧ l.map (·.1) = ls.take k ∧ (∀ p ∈ l, 1 ≤ p.2 ∧ p.2 ≤ 30) ∧ Cur w0 wr g cv code ∧ w.grownBy wr (some g) ∧ OwnS (w.heap.size + 1) wr (.slice an ls.length cn) ls ∧ ∀ r, ov.ownBlock = some r → (Value.slice an ls.length cn).ownBlock ≠ some r) (fun _ iv _ => ls.length - (intOf iv).toNat)
  case atStart => exact ⟨0, [], Nat.zero_le _, rfl, Ho1.out, rfl, by simp, Hc1.out, Hg1.out, Hn.out, fun r hr e => by have := (World.ownsRow.lt Hn.out r e).1; have hr' : w.heap.size = r := by simpa [Value.ownBlock] using hr
                                                                                                                      omega⟩
  case round =>
    obtain ⟨k, l, hk, rfl, ho, hmap, hwt, hc, hg, hn, hne⟩ := hrel
    clear Ho1 Hg1 Hn Hc1
    by_cases hlt : k < ls.length
    · obtain ⟨b, off, rfl, hcc1, hcc2, hbw, hcell⟩ := hn.rd.at hlt
      have hli : (k : Int) < (ls.length : Int) := by omega
      have hgw := hg.size
      have hgr := hc.lt
      have Hcell : Hid (∀ V, OwnS (w.heap.size + 1) V (.slice (some ⟨b, off, none⟩) ls.length cn) ls → V.cell? ⟨b, off + k, none⟩ = some (.string ls[k])) := hide (fun V h => by
        obtain ⟨b', off', e, -, -, -, h'⟩ := h.rd.at hlt
        simp only [Option.some.injEq, Addr.mk.injEq, and_true] at e
        obtain ⟨rfl, rfl⟩ := e
        exact h')
      have Hmap : Hid (∀ n : Int, (l ++ [(ls[k], n)]).map (·.1) = ls.take (k + 1)) := hide (fun n => by rw [List.map_append, hmap, List.take_succ_eq_append_getElem hlt]; rfl)
      have hll : l.length ≤ 5 := by
        have h1 := congrArg List.length hmap
        rw [List.length_map, List.length_take] at h1
        omega
      have bI : Below wr.heap.size wr (wr.alloc (.cells #[.int .i64 10, .int .i64 10, .int .i64 1, .int .i64 5, .int .i64 30] 3)).drew := ((Below.refl _ wr).alloc (Nat.le_refl _) _).drew
      have HInt := hide (l1Int_any w0 (wr.alloc (.cells #[.int .i64 10, .int .i64 10, .int .i64 1, .int .i64 5, .int .i64 30] 3)).drew g wr.heap.size cv code [10, 10, 1, 5, 30] (hc.below bI hgr) hl (ints_new wr [10, 10, 1, 5, 30] 3) (by omega) (by simp) (by simp) 5)
      simp only [List.length_cons, List.length_nil, Nat.zero_add, Nat.reduceAdd] at HInt
      have Hn := hide hn
      have Ho := hide ho
      have Hg := hide hg
      have Hne := hide hne
      have Hwt := hide hwt
      have BI := hide bI
      have zI : (wr.alloc (.cells #[.int .i64 10, .int .i64 10, .int .i64 1, .int .i64 5, .int .i64 30] 3)).drew.heap.size = wr.heap.size + 1 := by simp
      have ZI := hide zI
      generalize ls[k] = nm at hcell Hcell Hmap
      clear hn ho hg hne hwt hmap hc bI zI
      go_wp2
      go_region_held_law (fun w' => w'.cell? ⟨b, off + k, none⟩ = some (.string nm)) (go_keep) ((first
        | (refine step_appVat rfl _ _ rfl w.heap.size u3 w2.heap.size l (nm, n) (by rfl) (by rfl) (((Ho.out.below BI.out (Nat.le_refl _)).notg hg2 hgl).alloc _) (Blk.newV w2 _ (vlC (nm, n)) _ rfl) (by omega) (by simp; omega) ?_; intro v3 w3 ho3 hg3 hl3; have hn3 := (OwnS.below hn2 ((Below.refl _ w2).alloc (Nat.le_refl _) (.cells #[.string nm, .int .i64 n] 97)) (Nat.le_refl _)).keptV hg3 Hne.out; have hS3 := Hcell.out _ hn3)
        | (go_at_call 88; refine HInt.out.mono ?_; rintro e w2 ⟨n, rfl, hnm, hc2, hg2⟩; have hnb : 1 ≤ n ∧ n ≤ 30 := (by simp at hnm; omega); clear hnm; have hz2 := hg2.size; rw [ZI.out] at hz2; have hn2 : OwnS (w.heap.size + 1) w2 (.slice (some ⟨b, off, none⟩) ls.length cn) ls := OwnS.notg (OwnS.below Hn.out BI.out (Nat.le_refl _)) hg2 (by omega); have hS2 := Hcell.out _ hn2)))
      have hb3 : Below w.heap.size w2 w3 := ((Below.refl w.heap.size w2).alloc (by omega) (.cells #[.string nm, .int .i64 n] 97)).grown hg3 (by simp; omega) (fun r hr => Ho.out.ge r hr)
      have Hc3 := hide (hc2.below hb3 hgl)
      have Hg3 := hide (grw_below (grw_trans (grw_below Hg.out BI.out (by omega)) hg2) hb3 (Nat.le_refl _))
      have HO3 := hide ho3
      have HN3 := hide hn3
      have Hne3 : Hid (∀ r, v3.ownBlock = some r → (Value.slice (some ⟨b, off, none⟩) ls.length cn).ownBlock ≠ some r) := hide (fun r hr e => by
        rcases hl3 with h' | h'
        · exact Hne.out r (h'.symm.trans hr) e
        · have e1 : r = w2.heap.size + 1 := by rw [h'] at hr; simpa using hr.symm
          have e2 := (World.ownsRow.lt hn2 r e).2
          omega)
      have Hw3 : Hid (∀ p ∈ l ++ [(nm, n)], 1 ≤ p.2 ∧ p.2 ≤ 30) := hide (fun p hp => by
        rcases List.mem_append.1 hp with h | h
        · exact Hwt.out p h
        · rw [List.mem_singleton.1 h]; exact hnb)
      clear ho3 hn3 hg3 hl3 hb3 hc2 hg2 hn2
      go_wp2
      go_roundw
      case rel => exact ⟨k + 1, l ++ [(nm, n)], by omega, by go_num, HO3.out, Hmap.out n, Hw3.out, Hc3.out, Hg3.out, HN3.out, Hne3.out⟩
      case measure => simp [intOf]; omega
    · have ek : k = ls.length := by omega
      subst ek
      rw [List.take_length] at hmap
      have Hfew := hide (few_of Hls.out hmap hwt)
      have Hc := hide hc
      have Hg := hide hg
      have hgw := hg.size
      obtain ⟨ao, co, rfl⟩ := ho.rd.shape
      have hll : l.length = ls.length := by have := congrArg List.length hmap; simpa using this
      have Hll := hide hll
      have Ho := hide ho
      clear hc hg ho hn hne hwt hmap hll
      by_cases hz : l.length = 0
      · have hl0 : (l.length : Int) = 0 := by omega
        have hb1 : Below w.heap.size wr (wr.alloc (.cells #[.string ⟨#[97]⟩, .int .i64 10] 97)) := (Below.refl _ wr).alloc hgw _
        have Hone := hide (show OwnV w.heap.size (wr.alloc (.cells #[.string ⟨#[97]⟩, .int .i64 10] 97)) (.slice (some ⟨wr.heap.size, 0, none⟩) 1 1) [(⟨#[97]⟩, 10)] from World.ownsRow_lit wr #[.string ⟨#[97]⟩, .int .i64 10] 1 hgw (by unfold maxLen; omega) (by simp))
        have Hc1 := hide (Hc.out.below hb1 hgl)
        have Hg1 := hide (grw_below Hg.out hb1 (Nat.le_refl _))
        have Hf1 : Hid (FewV [(⟨#[97]⟩, 10)]) := hide ⟨by simp, by simp, fun p hp => by rw [List.mem_singleton.1 hp]; exact ⟨rfl, by omega, by omega⟩⟩
        go_wp2
        go_ret
        exact ⟨_, [(⟨#[97]⟩, 10)], rfl, Hone.out, by simp, Hf1.out, Hc1.out, Hg1.out⟩
      · have hl0 : ¬ (l.length : Int) = 0 := by omega
        have hlb : ((l.length : Int) == 0) = false := by rw [beq_eq_false_iff_ne]; exact hl0
        have Hnil : Hid (l ≠ []) := hide (fun e => hz (by rw [e]; rfl))
        go_wp2
        go_ret
        exact ⟨_, l, rfl, Ho.out, Hnil.out, Hfew.out, Hc.out, Hg.out⟩
end Go.Proofs.Ytbjeonnaannofaa
