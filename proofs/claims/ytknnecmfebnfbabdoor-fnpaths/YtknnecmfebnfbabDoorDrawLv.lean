/- What is drawn for trees of digests: some short texts, and the place of one. -/
import Derived.Test.YtknnecmfebnfbabDoorDrawNew
import Derived.Test.YtknnecmfebnfbabDoorStrs
namespace Go.Proofs.YtknnecmfebnfbabDoor
open Go.RowKit
set_option linter.unusedVariables false

/-- The texts ss lie at the head of block b. -/
def StrsAtL (w : World) (b : Nat) (ss : List ByteArray) : Prop := b < w.heap.size ∧ ∀ j (h : j < ss.length), w.cell? ⟨b, j, none⟩ = some (.string ss[j])
theorem strsL_new (w : World) (ss : List ByteArray) (t : TypeId) : StrsAtL (w.alloc (.cells (ss.map Value.string).toArray t)) w.heap.size ss := by
  refine ⟨by simp, fun j hj => ?_⟩
  rw [World.cell?_alloc_at _ _ _ _ rfl]
  simp [hj]
theorem StrsAtL.grw {w w' : World} {b g : Nat} {ss : List ByteArray} (h : StrsAtL w b ss) (hg : w.grownBy w' (some g)) (hne : b ≠ g) : StrsAtL w' b ss :=
  ⟨by have := hg.size; have := h.1; omega, fun j hj => hg.cell (a := ⟨b, j, none⟩) (h.2 j hj) (by simp [hne])⟩

set_option maxRecDepth 20000 in
theorem l1StrL_any (w0 w : World) (g b : Nat) (cv : Value) (code : List UInt8) (ss : List ByteArray) (hc : Cur w0 w g cv code) (hl : code.length ≤ 1048576) (hi : StrsAtL w b ss) (hne : b ≠ g) (hn : 0 < ss.length) (hn2 : ss.length ≤ 1000) (cap : Nat) :
    Calls Tryd.prog 37 #[.pointer (some ⟨g, 0, none⟩), .slice (some ⟨b, 0, none⟩) ss.length cap] w fun e w' => ∃ s : ByteArray, e = .returned (.string s) ∧ s ∈ ss ∧ Cur w0 w' g cv code ∧ w.grownBy w' (some g) := by
  have Hc := hide hc
  have Hi := hide hi
  clear hc hi
  go_enter Tryd.func37, Tryd.ntmps37
  go_wp2_with fail
  refine (l1Below_any _ _ _ _ _ _ Hc.out hl (by omega) (by omega)).mono ?_
  rintro e w1 ⟨x, rfl, hx1, hx2, hc1, hg1⟩
  have hxl : x < ss.length := by have := hx1 (by omega); omega
  have hcell := (Hi.out.grw hg1 hne).2 x hxl
  have hmem := hide (List.getElem_mem hxl)
  generalize ss[x] = n at hcell hmem
  clear hx1 hx2
  go_wp2
  go_ret
  exact ⟨n, rfl, hmem.out, hc1, hg1⟩

theorem nilL (w : World) (base : Nat) (h : base ≤ w.heap.size) : OwnS base (w.alloc (.cells #[] 9)) (.slice (some ⟨w.heap.size, 0, none⟩) 0 0) [] :=
  World.ownsRow_lit w #[] 0 h (by unfold maxLen; omega) (by simp)
theorem app_textL {ops : Array Oper} {rest : List Oper} {o : Oper} {a : Act} {Q : Exit → Act → World → Prop} (w : World) (hgd : o.guard = none) (s x : Operand)
    (ho : o.op = .call { callee := .builtin .append, args := #[s, x], argTypes := #[26, 26] })
    (base g cap : Nat) (v : Value) (l : List ByteArray) (t : ByteArray) (hs : a.eval s = v) (hx : a.eval x = .slice (some ⟨g, 0, none⟩) 1 cap) (hown : OwnS base w v l) (hc : w.cell? ⟨g, 0, none⟩ = some (.string t))
    (hlen : l.length ≤ 10000000) (hbase : base ≤ w.heap.size)
    (h : ∀ v' w', OwnS base w' v' (l ++ [t]) → Below base w w' → wpList Tryd.prog ops Q rest (a.put o.dst v') w') : wpList Tryd.prog ops Q (o :: rest) a w := by
  obtain ⟨i0, hi, hz0, hz1, hz2⟩ := info_parts Tryd.infoStr
  have hbel : ∀ w', w.grownBy w' v.ownBlock → Below base w w' := fun w' hg => (Below.refl _ _).grown hg hbase (fun k hk => (World.ownsRow.lt hown k hk).1)
  refine wpList_append_own w hgd s x 26 ho base 9 i0 (.string ByteArray.empty) 1 16 Tryd.underlying26 hi hz0 hz1 hz2 rfl (by decide) v l.length (l.map Value.string) hs hown ⟨g, 0, none⟩ 1 cap [.string t] hx (by simp) ?_ ?_ (by unfold maxLen; omega) (by omega) hbase ?_
  · intro j u hj
    have hj0 : j = 0 := by have := (List.getElem?_eq_some_iff.1 hj).1; simp at this; omega
    subst hj0
    simp at hj
    rw [show (⟨g, 0, none⟩ : Addr).add 0 = ⟨g, 0, none⟩ from by simp [Addr.add], hc, ← hj]
  · intro u hu
    simp at hu
    subst hu
    rfl
  · intro v' w' ho' hg _
    exact h v' w' (by simpa [OwnS] using ho') (hbel w' hg)
theorem cell_litL (w : World) (t : ByteArray) (n : Nat) (hn : n = w.heap.size) : (w.alloc (.cells #[.string t] 9)).cell? ⟨n, 0, none⟩ = some (.string t) := by
  subst hn
  rw [World.cell?_alloc_at _ _ _ _ rfl]; rfl

def fourL : List ByteArray := [⟨#[]⟩, ⟨#[97]⟩, ⟨#[98]⟩, ⟨#[120, 121, 122]⟩]
theorem four_small : ∀ s ∈ fourL, s.size ≤ 3 := by decide
def eightN : List Int := [0, 1, 2, 3, 4, 5, 7, 8]
theorem eight_bd {n : Int} (h : n ∈ eightN) : 0 ≤ n ∧ n ≤ 8 := by
  simp only [eightN, List.mem_cons, List.not_mem_nil, or_false] at h
  omega

set_option maxRecDepth 20000 in
set_option maxHeartbeats 1000000 in
theorem l3List_any (w0 w : World) (g : Nat) (cv : Value) (code : List UInt8) (hc : Cur w0 w g cv code) (hl : code.length ≤ 1048576) :
    Calls Tryd.prog 25 #[.pointer (some ⟨g, 0, none⟩)] w fun e w' => ∃ (v' : Value) (ls : List ByteArray), e = .returned v' ∧ OwnS w.heap.size w' v' ls ∧ ls.length ≤ 8 ∧ (∀ s ∈ ls, s.size ≤ 3) ∧ Cur w0 w' g cv code ∧ w.grownBy w' (some g) := by
  have hgl := hc.lt
  have hbA : ∀ (w : World) o, Below w.heap.size w (w.alloc o) := fun w o => (Below.refl _ _).alloc (Nat.le_refl _) _
  have Hc0 := hide hc
  have Ho := hide (nilL w w.heap.size (Nat.le_refl _))
  have hI : IntsAt ((w.alloc (.cells #[] 9)).alloc (.cells #[.int .i64 0, .int .i64 1, .int .i64 2, .int .i64 3, .int .i64 4, .int .i64 5, .int .i64 7, .int .i64 8] 3)) (w.heap.size + 1) eightN := by
    have h := ints_new (w.alloc (.cells #[] 9)) eightN 3
    rw [World.size_alloc] at h
    exact h
  have Hi := hide (l1Int_any w0 _ g (w.heap.size + 1) cv code eightN ((hc.below (hbA w (.cells #[] 9)) hgl).below (hbA _ (.cells #[.int .i64 0, .int .i64 1, .int .i64 2, .int .i64 3, .int .i64 4, .int .i64 5, .int .i64 7, .int .i64 8] 3)) (by simp; omega)) hl hI (by omega) (by decide) (by decide) 8)
  clear hI
  have HbA := hide hbA
  clear hc hbA
  go_enter Tryd.func25, Tryd.ntmps25
  go_wp2_with fail
  refine Hi.out.mono ?_
  rintro e w1 ⟨n, rfl, hn, hc1, hg1⟩
  have hnb := eight_bd hn
  obtain ⟨N, hN⟩ := Int.eq_ofNat_of_zero_le hnb.1
  have hN8 : N ≤ 8 := by omega
  have Hg1 : Hid (w.grownBy w1 (some g)) := hide (grw_trans (grw_trans (grw_of_below (some g) (HbA.out w _) (Nat.le_refl _)) (grw_of_below (some g) (HbA.out _ _) (Nat.le_refl _))) hg1)
  have Ho1 : Hid (OwnS w.heap.size w1 (.slice (some ⟨w.heap.size, 0, none⟩) 0 0) []) := hide (World.ownsRow.kept (World.ownsRow.alloc Ho.out _) hg1 (by right; intro e; simp [Value.ownBlock] at e; omega))
  have Hc1 := hide hc1
  rw [hN]
  clear hn hnb hN hc1 hg1 Hi Ho Hc0
  go_wp2
  go_loopw [3, 4] (fun bv iv wr => ∃ (k : Nat) (ls : List ByteArray), ls.length + k ≤ 8 ∧ iv = .int .i64 (k : Int) ∧ OwnS w.heap.size wr bv ls ∧ (∀ s ∈ ls, s.size ≤ 3) ∧ Cur w0 wr g cv code ∧ w.grownBy wr (some g)) (fun _ iv _ => (intOf iv).toNat)
  case atStart => exact ⟨N, [], by simpa using hN8, rfl, Ho1.out, by simp, Hc1.out, Hg1.out⟩
  case round =>
    clear Ho1 Hc1 Hg1
    obtain ⟨k, ls, hk, rfl, ho, hsz, hc, hg⟩ := hrel
    have Hsz := hide hsz
    have Ho := hide ho
    have Hc := hide hc
    have Hg := hide hg
    have hsw := hg.size
    have hgl2 := hc.lt
    clear ho hc hg hsz
    by_cases hk0 : 0 < k
    · have hki : (0 : Int) < (k : Int) := by omega
      have Hs := hide (l1StrL_any w0 _ g wr.heap.size cv code fourL (Hc.out.below (HbA.out wr _) hgl2) hl (strsL_new wr fourL 9) (by omega) (by decide) (by decide) 4)
      go_wp2_with fail
      refine Hs.out.mono ?_
      rintro e w2 ⟨s, rfl, hs, hc2, hg2⟩
      have hs3 := four_small s hs
      have Hg2 : Hid (w.grownBy w2 (some g)) := hide (grw_trans (grw_trans Hg.out (grw_of_below (some g) (HbA.out wr _) (Nat.le_refl _))) hg2)
      have Ho2 : Hid (OwnS w.heap.size w2 u3 ls) := hide (World.ownsRow.kept (World.ownsRow.alloc Ho.out _) hg2 (by right; intro e; have := (World.ownsRow.lt Ho.out _ e).1; omega))
      have Hc2 := hide hc2
      have hsw2 := Hg2.out.size
      have Hs3 := hide hs3
      clear hs hc2 hg2 Hs hs3
      go_wp2_with (at_builtin; refine app_textL _ (by rfl) _ _ (by rfl) w.heap.size w2.heap.size 1 u3 ls s (by rfl) (by rfl) (World.ownsRow.alloc Ho2.out _) (cell_litL w2 s _ rfl) (by omega) (by simp; omega) ?_; intro v4 w4 ho4 hb4)
      have hb4' : Below w.heap.size w2 w4 := ((Below.refl _ _).alloc hsw2 _).trans hb4
      have Hc4 := hide (Hc2.out.below hb4' hgl)
      have Hg4 := hide (grw_below Hg2.out hb4' (Nat.le_refl _))
      go_roundw
      case rel => exact ⟨k - 1, ls ++ [s], by simp; omega, by go_num, ho4, fun u hu => by
                    rcases List.mem_append.1 hu with hu | hu
                    · exact Hsz.out u hu
                    · simp at hu; rw [hu]; exact Hs3.out, Hc4.out, Hg4.out⟩
      case measure => simp [intOf]; omega
    · have hki : ¬ (0 : Int) < (k : Int) := by omega
      go_wp2
      go_ret
      first | exact ⟨_, ls, rfl, Ho.out, by omega, Hsz.out, Hc.out, Hg.out⟩ | exact ⟨_, rfl, ls, Ho.out, by omega, Hsz.out, Hc.out, Hg.out⟩

set_option maxRecDepth 20000 in
set_option maxHeartbeats 1000000 in
theorem drawLeaves_any (w : World) (cv : Value) (code : List UInt8) (hr : RdB w cv code) (hl : code.length ≤ 1048576) :
    Calls Tryd.prog 11 #[cv] w fun e w' => ∃ (v' : Value) (ls : List ByteArray) (x : Nat), e = .returned (.tuple #[v', .int .i64 (x : Int)]) ∧ OwnS w.heap.size w' v' ls ∧ ls.length ≤ 9 ∧ x < ls.length ∧ (∀ s ∈ ls, s.size ≤ 3) ∧ Below w.heap.size w w' := by
  have Hn := hide (l1New_any w cv code hr hl)
  clear hr
  go_enter Tryd.func11, Tryd.ntmps11
  go_wp2_with fail
  refine Hn.out.mono ?_
  rintro e w1 ⟨rfl, hc1, hb1⟩
  have hgl := hc1.lt
  go_wp2_with fail
  refine (l3List_any _ _ _ _ _ hc1 hl).mono ?_
  rintro e w2 ⟨v2, ls, rfl, ho2, hl2, hsz2, hc2, hg2⟩
  have hs2 := hg2.size
  have Ho2 := hide ho2
  have Hc2 := hide hc2
  have Hsz2 := hide hsz2
  have HB2 : Hid (Below w.heap.size w w2) := hide (hb1.grown hg2 (by omega) (fun k hk => by cases hk; omega))
  clear ho2 hc2 hsz2 hg2
  go_wp2_with (at_builtin; refine app_textL _ (by rfl) _ _ (by rfl) w1.heap.size w2.heap.size 1 v2 ls ⟨#[122]⟩ (by rfl) (by rfl) (World.ownsRow.alloc Ho2.out _) (cell_litL w2 _ _ rfl) (by omega) (by simp; omega) ?_; intro v3 w3 ho3 hb3; obtain ⟨a3, c3, hv3⟩ := ho3.rd.shape; have hL : (ls ++ [(⟨#[122]⟩ : ByteArray)]).length = ls.length + 1 := (by simp); rw [hL] at hv3; subst hv3; have hb3' : Below w1.heap.size w2 w3 := (((Below.refl _ _).alloc hs2 _).trans hb3); have Ho3 := hide ho3; have Hc3 := hide (Hc2.out.below hb3' hgl); have HB3 : Hid (Below w.heap.size w w3) := hide (HB2.out.trans (hb3'.mono (by have := hb1.size; omega))); have Hb := hide (l1Below_any _ _ _ _ _ ((ls.length : Int) + 1) Hc3.out hl (by omega) (by omega)); clear ho3 hb3 hb3')
  refine Hb.out.mono ?_
  rintro e w4 ⟨x, rfl, hx1, _, hc4, hg4⟩
  have hx : (x : Int) < (ls.length : Int) + 1 := hx1 (by omega)
  have hsw := hb1.size
  have HB4 : Hid (Below w.heap.size w w4) := hide (HB3.out.grown hg4 (by have := HB3.out.size; omega) (fun k hk => by cases hk; omega))
  have Ho4 : Hid (OwnS w1.heap.size w4 _ _) := hide (World.ownsRow.kept Ho3.out hg4 (by right; intro e; have := (World.ownsRow.lt Ho3.out _ e).1; omega))
  clear hx1 hc4 hg4 Hb
  go_wp2
  go_ret2
  exact ⟨.slice a3 (ls.length + 1) c3, ls ++ [⟨#[122]⟩], x, rfl, Ho4.out.mono hsw, by simp; omega, by simp; omega, fun u hu => by
    rcases List.mem_append.1 hu with hu | hu
    · exact Hsz2.out u hu
    · simp at hu; rw [hu]; decide, HB4.out⟩
end Go.Proofs.YtknnecmfebnfbabDoor
