/- Appending to texts of the call's own. Drawn names: the cursor once more (a chance, a list of names). Drawn names: one of some, one that may be none. Whether a number lies between two others: the model's helper. -/
import Derived.Test.YtbjeonnaannofaaZaStrs
import Derived.Laws.AppendOwnNone
import Derived.Deep.RegionWith
import Derived.Test.YtbjeonnaannofaaZaBig
namespace Go.Proofs.Ytbjeonnaannofaa
open Go.RowKit
set_option linter.unusedVariables false

theorem own_nilS (w : World) (base : Nat) (h : base ≤ w.heap.size) : OwnS base (w.alloc (.cells #[] 9)) (.slice (some ⟨w.heap.size, 0, none⟩) 0 0) [] :=
  World.ownsRow_lit w #[] 0 h (by unfold maxLen; omega) (by simp)
theorem own_noneS (w : World) (base : Nat) : OwnS base w (.slice none 0 0) [] := World.ownsRow_nil w base _ _
theorem OwnS.alloc {base : Nat} {w : World} {v : Value} {l : List ByteArray} (h : OwnS base w v l) (o : Obj) : OwnS base (w.alloc o) v l := World.ownsRow.alloc h o

theorem app_ownS {ops : Array Oper} {rest : List Oper} {o : Oper} {a : Act} {Q : Exit → Act → World → Prop} (w : World) (hgd : o.guard = none) (s x : Operand)
    (ho : o.op = .call { callee := .builtin .append, args := #[s, x], argTypes := #[29, 29] })
    (base : Nat) (v vx : Value) (l k : List ByteArray) (hs : a.eval s = v) (hx : a.eval x = vx) (hown : OwnS base w v l) (hrd : RdS w vx k)
    (hlen : l.length + k.length ≤ 100000000) (hbase : base ≤ w.heap.size)
    (h : ∀ v' w', OwnS base w' v' (l ++ k) → Below base w w' → wpList Try.prog ops Q rest (a.put o.dst v') w') : wpList Try.prog ops Q (o :: rest) a w := by
  obtain ⟨i0, hi, hz0, hz1, hz2⟩ := info_parts Try.infoStr
  have hbel : ∀ w', w.grownBy w' v.ownBlock → Below base w w' := fun w' hg => (Below.refl _ _).grown hg hbase (fun k hk => (World.ownsRow.lt hown k hk).1)
  rcases hrd with ⟨ax, cap, rfl, rfl, hnil⟩ | ⟨b, off, cap, h0, rfl, h1, h2, h3, h4⟩
  · cases ax with
    | none =>
      have hc : cap = 0 := hnil rfl
      subst hc
      refine wpList_append_own_none hgd s x 29 ho base 9 i0 1 Try.underlying29 hi v l.length (l.map Value.string) hs hown hx ?_
      exact h v w (by simpa [OwnS] using hown) (Below.refl _ _)
    | some ad =>
      refine wpList_append_own w hgd s x 29 ho base 9 i0 (.string ByteArray.empty) 1 16 Try.underlying29 hi hz0 hz1 hz2 rfl (by decide) v l.length (l.map Value.string) hs hown ad 0 cap [] hx rfl (by intro j u hj; simp at hj) (by intro u hu; simp at hu) (by unfold maxLen; simp at hlen; omega) (by simp at hlen; omega) hbase ?_
      intro v' w' ho' hg _
      exact h v' w' (by simpa [OwnS] using ho') (hbel w' hg)
  · refine wpList_append_own w hgd s x 29 ho base 9 i0 (.string ByteArray.empty) 1 16 Try.underlying29 hi hz0 hz1 hz2 rfl (by decide) v l.length (l.map Value.string) hs hown ⟨b, off, none⟩ k.length cap (k.map Value.string) hx (by simp) ?_ ?_ (by unfold maxLen; omega) (by omega) hbase ?_
    · intro j u hj
      have hj' : j < k.length := by have := (List.getElem?_eq_some_iff.1 hj).1; simpa using this
      have ea : (⟨b, off, none⟩ : Addr).add j = ⟨b, off + j, none⟩ := by
        by_cases hz : j = 0
        · subst hz; simp [Addr.add]
        · simp [Addr.add, hz]
      rw [ea, h4 j hj']
      simp [hj'] at hj
      rw [← hj]
    · intro u hu
      obtain ⟨c, _, rfl⟩ := List.mem_map.1 hu
      rfl
    · intro v' w' ho' hg _
      exact h v' w' (by simpa [OwnS] using ho') (hbel w' hg)
end Go.Proofs.Ytbjeonnaannofaa

namespace Go.Proofs.Ytbjeonnaannofaa
open Go.RowKit
set_option linter.unusedVariables false

theorem Cur.drew {w0 w : World} {g : Nat} {cv : Value} {code : List UInt8} (hc : Cur w0 w g cv code) : Cur w0 w.drew g cv code := ⟨hc.rd, hc.bel.drew, hc.le, hc.blk⟩
theorem OwnB.notg {base : Nat} {w w' : World} {v : Value} {l : List UInt8} {g : Nat} (h : OwnB base w v l) (hg : w.grownBy w' (some g)) (hb : g < base) : OwnB base w' v l :=
  World.ownsRow.kept h hg (by right; intro e; have := (World.ownsRow.lt h g e).1; omega)
theorem OwnS.notg {base : Nat} {w w' : World} {v : Value} {l : List ByteArray} {g : Nat} (h : OwnS base w v l) (hg : w.grownBy w' (some g)) (hb : g < base) : OwnS base w' v l :=
  World.ownsRow.kept h hg (by right; intro e; have := (World.ownsRow.lt h g e).1; omega)


set_option maxRecDepth 20000 in
theorem l1Once_any (w0 w : World) (g : Nat) (cv : Value) (code : List UInt8) (n : Int) (hc : Cur w0 w g cv code) (hl : code.length ≤ 1048576) (h1 : -9223372036854775808 ≤ n) (h2 : n ≤ 9223372036854775807) :
    Calls Try.prog 45 #[.pointer (some ⟨g, 0, none⟩), .int .i64 n] w fun e w' => ∃ b : Bool, e = .returned (.bool b) ∧ Cur w0 w' g cv code ∧ w.grownBy w' (some g) := by
  go_enter Try.func45, Try.ntmps45
  go_wp2_with fail
  refine (l1Below_any _ _ _ _ _ _ hc hl h1 h2).mono ?_
  rintro e w1 ⟨x, rfl, hx1, _, hc1, hg1⟩
  clear hx1
  go_wp2
  go_ret
  exact ⟨_, rfl, hc1, hg1⟩

theorem rd_one_str' (w : World) (n : Nat) (s : ByteArray) (h : n = w.heap.size) : RdS (w.alloc (.cells #[.string s] 9)) (.slice (some ⟨n, 0, none⟩) 1 1) [s] := by
  subst h; exact rd_one_str w s

/-- The five texts from which names are drawn lie in a new block. -/
theorem five_at (w : World) (k : Nat) (h : k < 5) : ∃ s : ByteArray, s.size = 1 ∧ (w.alloc (.cells #[.string ⟨#[97]⟩, .string ⟨#[98]⟩, .string ⟨#[99]⟩, .string ⟨#[100]⟩, .string ⟨#[101]⟩] 9)).cell? ⟨w.heap.size, k, none⟩ = some (.string s) := by
  rw [World.cell?_alloc_at _ _ _ _ rfl]
  rcases (show k = 0 ∨ k = 1 ∨ k = 2 ∨ k = 3 ∨ k = 4 from by omega) with rfl | rfl | rfl | rfl | rfl
  · exact ⟨_, rfl, rfl⟩
  · exact ⟨_, rfl, rfl⟩
  · exact ⟨_, rfl, rfl⟩
  · exact ⟨_, rfl, rfl⟩
  · exact ⟨_, rfl, rfl⟩

set_option maxRecDepth 20000 in
set_option maxHeartbeats 1000000 in
theorem l1Names_any (w0 w : World) (g : Nat) (cv : Value) (code : List UInt8) (hc : Cur w0 w g cv code) (hl : code.length ≤ 1048576) :
    Calls Try.prog 134 #[.pointer (some ⟨g, 0, none⟩)] w fun e w' => ∃ (v' : Value) (ls : List ByteArray), e = .returned v' ∧ OwnS w.heap.size w' v' ls ∧ ls.length ≤ 5 ∧ (∀ s ∈ ls, s.size = 1) ∧ Cur w0 w' g cv code ∧ w.grownBy w' (some g) := by
  have hb0 : Below w.heap.size w (w.alloc (.cells #[] 9)) := (Below.refl _ _).alloc (Nat.le_refl _) _
  have Ho := hide (own_nilS w w.heap.size (Nat.le_refl _))
  have Hc := hide (hc.below hb0 hc.lt)
  have Hg := hide (grw_of_below (some g) hb0 (Nat.le_refl _))
  have hgl := hc.lt
  clear hc hb0
  go_enter Try.func134, Try.ntmps134
  go_wp2
  go_loopw [3, 4] (fun bv iv wr => ∃ (k : Nat) (ls : List ByteArray), k ≤ 5 ∧ iv = .int .i64 (k : Int) ∧ OwnS w.heap.size wr bv ls ∧ ls.length ≤ k ∧ (∀ s ∈ ls, s.size = 1) ∧ Cur w0 wr g cv code ∧ w.grownBy wr (some g)) (fun _ iv _ => 5 - (intOf iv).toNat)
  case atStart => exact ⟨0, [], Nat.zero_le _, rfl, Ho.out, by simp, by simp, Hc.out, Hg.out⟩
  case round =>
    obtain ⟨k, ls, hk, rfl, ho, hpl, hsz1, hc, hg⟩ := hrel
    have Hs1 := hide hsz1
    have hpl2 : ls.length ≤ 5 := by omega
    have Hor := hide ho
    have Hcr := hide hc
    have Hgr := hide hg
    have hsz := hg.size
    clear ho hc hg hsz1
    by_cases hlt : k < 5
    · go_wp2_with fail
      refine (l1Once_any _ _ _ _ _ _ Hcr.out hl (by omega) (by omega)).mono ?_
      rintro e w1 ⟨bb, rfl, hc1, hg1⟩
      have Ho1 := hide (Hor.out.notg hg1 hgl)
      have Hc1 := hide hc1
      have Hg1 := hide (grw_trans Hgr.out hg1)
      have hsz1 := hg1.size
      clear hc1 hg1
      cases bb
      · obtain ⟨s, hs1, hcell⟩ := five_at w1 k hlt
        have Hss := hide hs1
        clear hs1
        go_wp2_with (at_builtin; refine app_ownS _ rfl _ _ rfl w.heap.size _ _ ls [s] rfl rfl ((Ho1.out.alloc _).alloc _) (rd_one_str' _ _ _ (by simp)) (by simp; omega) (by simp; omega) ?_; intro v2 w2 ho2 hb2)
        have hb2' : Below w.heap.size w1 w2 := (((Below.refl _ _).alloc (by omega) _).alloc (by simp; omega) _).trans hb2
        have Hc2 := hide (Hc1.out.below hb2' hgl)
        have Hg2 := hide (grw_below Hg1.out hb2' (Nat.le_refl _))
        go_roundw
        case rel => exact ⟨k + 1, ls ++ [s], by omega, by go_num, ho2, by simp; omega, fun u hu => by
                      rcases List.mem_append.1 hu with hu | hu
                      · exact Hs1.out u hu
                      · simp at hu; rw [hu]; exact Hss.out, Hc2.out, Hg2.out⟩
        case measure => simp [intOf]; omega
      · go_wp2
        go_roundw
        case rel => exact ⟨k + 1, ls, by omega, by go_num, Ho1.out, by omega, Hs1.out, Hc1.out, Hg1.out⟩
        case measure => simp [intOf]; omega
    · go_wp2
      go_ret
      exact ⟨_, ls, rfl, Hor.out, by omega, Hs1.out, Hcr.out, Hgr.out⟩
end Go.Proofs.Ytbjeonnaannofaa

namespace Go.Proofs.Ytbjeonnaannofaa
open Go.RowKit
set_option linter.unusedVariables false

/-- The texts ss lie at the head of block b. -/
def StrsAt (w : World) (b : Nat) (ss : List ByteArray) : Prop := b < w.heap.size ∧ ∀ j (h : j < ss.length), w.cell? ⟨b, j, none⟩ = some (.string ss[j])
theorem strs_new (w : World) (ss : List ByteArray) (t : TypeId) : StrsAt (w.alloc (.cells (ss.map Value.string).toArray t)) w.heap.size ss := by
  refine ⟨by simp, fun j hj => ?_⟩
  rw [World.cell?_alloc_at _ _ _ _ rfl]
  simp [hj]
theorem StrsAt.grw {w w' : World} {b g : Nat} {ss : List ByteArray} (h : StrsAt w b ss) (hg : w.grownBy w' (some g)) (hne : b ≠ g) : StrsAt w' b ss :=
  ⟨by have := hg.size; have := h.1; omega, fun j hj => hg.cell (a := ⟨b, j, none⟩) (h.2 j hj) (by simp [hne])⟩

set_option maxRecDepth 20000 in
theorem l1Str_any (w0 w : World) (g b : Nat) (cv : Value) (code : List UInt8) (ss : List ByteArray) (hc : Cur w0 w g cv code) (hl : code.length ≤ 1048576) (hi : StrsAt w b ss) (hne : b ≠ g) (hn : 0 < ss.length) (hn2 : ss.length ≤ 1000) (cap : Nat) :
    Calls Try.prog 127 #[.pointer (some ⟨g, 0, none⟩), .slice (some ⟨b, 0, none⟩) ss.length cap] w fun e w' => ∃ s : ByteArray, e = .returned (.string s) ∧ s ∈ ss ∧ Cur w0 w' g cv code ∧ w.grownBy w' (some g) := by
  have Hc := hide hc
  have Hi := hide hi
  clear hc hi
  go_enter Try.func127, Try.ntmps127
  go_wp2_with fail
  refine (l1Below_any _ _ _ _ _ _ Hc.out hl (by omega) (by omega)).mono ?_
  rintro e w1 ⟨x, rfl, hx1, hx2, hc1, hg1⟩
  have hxl : x < ss.length := by have := hx1 (by omega); omega
  have hcell := (Hi.out.grw hg1 hne).2 x hxl
  have hmem := hide (List.getElem_mem hxl)
  generalize ss[x] = n at hcell hmem
  clear hx1 hx2
  go_wp2
  go_ret
  exact ⟨n, rfl, hmem.out, hc1, hg1⟩

def sixL : List ByteArray := [⟨#[97]⟩, ⟨#[98]⟩, ⟨#[99]⟩, ⟨#[100]⟩, ⟨#[101]⟩, ⟨#[97, 49]⟩]
def oddL : List ByteArray := [⟨#[]⟩, ⟨#[65]⟩, ⟨#[116, 111, 111, 108, 111, 110, 103, 57, 57]⟩, ⟨#[97, 32, 98]⟩, ⟨#[101, 105, 103, 104, 116, 108, 101, 116]⟩]
theorem six_small : ∀ s ∈ sixL, s.size ≤ 9 := by decide
theorem odd_small : ∀ s ∈ oddL, s.size ≤ 9 := by decide

set_option maxRecDepth 20000 in
theorem l1Name_any (w0 w : World) (g : Nat) (cv : Value) (code : List UInt8) (hc : Cur w0 w g cv code) (hl : code.length ≤ 1048576) :
    Calls Try.prog 87 #[.pointer (some ⟨g, 0, none⟩)] w fun e w' => ∃ s : ByteArray, e = .returned (.string s) ∧ s.size ≤ 9 ∧ Cur w0 w' g cv code ∧ w.grownBy w' (some g) := by
  have hgl := hc.lt
  have hb0 : ∀ o, Below w.heap.size w (w.alloc o) := fun o => (Below.refl _ _).alloc (Nat.le_refl _) _
  have Hs := hide (l1Str_any w0 _ g w.heap.size cv code sixL (hc.below (hb0 _) hgl) hl (strs_new w sixL 9) (by omega) (by decide) (by decide) 6)
  have Hg := hide (grw_of_below (some g) (hb0 (.cells (sixL.map Value.string).toArray 9)) (Nat.le_refl _))
  clear hb0 hc
  go_enter Try.func87, Try.ntmps87
  go_wp2_with fail
  refine Hs.out.mono ?_
  rintro e w1 ⟨s, rfl, hs, hc1, hg1⟩
  have hs9 := six_small s hs
  clear hs
  go_wp2
  go_ret
  exact ⟨s, rfl, hs9, hc1, grw_trans Hg.out hg1⟩

set_option maxRecDepth 20000 in
theorem l1NameAny_any (w0 w : World) (g : Nat) (cv : Value) (code : List UInt8) (hc : Cur w0 w g cv code) (hl : code.length ≤ 1048576) :
    Calls Try.prog 138 #[.pointer (some ⟨g, 0, none⟩)] w fun e w' => ∃ s : ByteArray, e = .returned (.string s) ∧ s.size ≤ 9 ∧ Cur w0 w' g cv code ∧ w.grownBy w' (some g) := by
  have hgl := hc.lt
  have Hc := hide hc
  clear hc
  go_enter Try.func138, Try.ntmps138
  go_wp2_with fail
  refine (l1Once_any _ _ _ _ _ _ Hc.out hl (by omega) (by omega)).mono ?_
  rintro e w1 ⟨bb, rfl, hc1, hg1⟩
  have hs1 := hg1.size
  cases bb
  · have Hn := hide (l1Name_any _ _ _ _ _ hc1 hl)
    go_wp2_with fail
    refine Hn.out.mono ?_
    rintro e w2 ⟨s, rfl, hs, hc2, hg2⟩
    go_wp2
    go_ret
    exact ⟨s, rfl, hs, hc2, grw_trans hg1 hg2⟩
  · have hb0 : ∀ o, Below w1.heap.size w1 (w1.alloc o) := fun o => (Below.refl _ _).alloc (Nat.le_refl _) _
    have Hs := hide (l1Str_any w0 _ g w1.heap.size cv code oddL (hc1.below (hb0 _) (by omega)) hl (strs_new w1 oddL 9) (by omega) (by decide) (by decide) 5)
    have Hg := hide (grw_below hg1 (hb0 (.cells (oddL.map Value.string).toArray 9)) (by omega))
    clear hb0
    go_wp2_with fail
    refine Hs.out.mono ?_
    rintro e w2 ⟨s, rfl, hs, hc2, hg2⟩
    have hs9 := odd_small s hs
    clear hs
    go_wp2
    go_ret
    exact ⟨s, rfl, hs9, hc2, grw_trans Hg.out hg2⟩
end Go.Proofs.Ytbjeonnaannofaa

namespace Go.Proofs.Ytbjeonnaannofaa
open Go.RowKit
set_option linter.unusedVariables false

def inB (x a b : Int) : Bool := decide (a ≤ x ∧ x ≤ b)

theorem l1In_any (x a b : Int) (w : World) :
    Calls Try.prog 106 #[.int .i64 x, .int .i64 a, .int .i64 b] w fun e w' => e = .returned (.bool (inB x a b)) ∧ w' = w := by
  by_cases h1 : a ≤ x
  · by_cases h2 : x ≤ b
    · have e : Hid (inB x a b = true) := hide (by simp [inB, h1, h2])
      go_enter Try.func106, Try.ntmps106
      go_wp2
      go_ret
      rw [e.out]; exact ⟨rfl, rfl⟩
    · have e : Hid (inB x a b = false) := hide (by simp [inB, h1, h2])
      go_enter Try.func106, Try.ntmps106
      go_wp2
      go_ret
      rw [e.out]; exact ⟨rfl, rfl⟩
  · have e : Hid (inB x a b = false) := hide (by simp [inB, h1])
    go_enter Try.func106, Try.ntmps106
    go_wp2
    go_ret
    rw [e.out]; exact ⟨rfl, rfl⟩
end Go.Proofs.Ytbjeonnaannofaa
