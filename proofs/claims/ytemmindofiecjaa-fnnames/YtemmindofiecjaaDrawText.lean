/- What is drawn for PutText and PutNames: bytes, a text, and names, whatever the code. -/
import Derived.Test.YtemmindofiecjaaDrawNew
import Derived.Test.YtemmindofiecjaaGetNames
import Derived.Deep.RegionWith
namespace Go.Proofs.Ytemmindofiecjaa
open Go.RowKit
set_option linter.unusedVariables false

theorem Cur.drew {w0 w : World} {g : Nat} {cv : Value} {code : List UInt8} (hc : Cur w0 w g cv code) : Cur w0 w.drew g cv code := ⟨hc.rd, hc.bel.drew, hc.le, hc.blk⟩
theorem OwnB.notg {base : Nat} {w w' : World} {v : Value} {l : List UInt8} {g : Nat} (h : OwnB base w v l) (hg : w.grownBy w' (some g)) (hb : g < base) : OwnB base w' v l :=
  World.ownsRow.kept h hg (by right; intro e; have := (World.ownsRow.lt h g e).1; omega)
theorem OwnS.notg {base : Nat} {w w' : World} {v : Value} {l : List ByteArray} {g : Nat} (h : OwnS base w v l) (hg : w.grownBy w' (some g)) (hb : g < base) : OwnS base w' v l :=
  World.ownsRow.kept h hg (by right; intro e; have := (World.ownsRow.lt h g e).1; omega)

theorem str_rd (w : World) (v : Value) (l : List UInt8) (h : RdB w v l) : (convert 22 9 v).run Try.prog w = .ok (.string ⟨l.toArray⟩) w := by
  rcases h with ⟨a, cap, rfl, rfl, hn⟩ | ⟨b, off, cap, h0, rfl, h1, h2, h3, h4⟩
  · cases a with
    | none =>
      rw [run_convert_bytes_string w 22 9 5 none 0 cap Try.underlying22 Try.underlying5 Try.underlying9]
      rfl
    | some ad => exact str_none w ad cap
  · have := str_of w b off l h4 0 l.length cap l.length (by omega) rfl
    simpa using this

set_option maxRecDepth 20000 in
theorem l1Once_any (w0 w : World) (g : Nat) (cv : Value) (code : List UInt8) (n : Int) (hc : Cur w0 w g cv code) (hl : code.length ≤ 1048576) (h1 : -9223372036854775808 ≤ n) (h2 : n ≤ 9223372036854775807) :
    Calls Try.prog 30 #[.pointer (some ⟨g, 0, none⟩), .int .i64 n] w fun e w' => ∃ b : Bool, e = .returned (.bool b) ∧ Cur w0 w' g cv code ∧ w.grownBy w' (some g) := by
  go_enter Try.func30, Try.ntmps30
  go_wp2_with fail
  refine (l1Below_any _ _ _ _ _ _ hc hl h1 h2).mono ?_
  rintro e w1 ⟨x, rfl, hx1, _, hc1, hg1⟩
  clear hx1
  go_wp2
  go_ret
  exact ⟨_, rfl, hc1, hg1⟩

set_option maxRecDepth 20000 in
set_option maxHeartbeats 1000000 in
theorem drawPutText_any (w : World) (cv : Value) (code : List UInt8) (hr : RdB w cv code) (hl : code.length ≤ 1048576) :
    Calls Try.prog 10 #[cv] w fun e w' => ∃ (v' : Value) (l' t' : List UInt8), e = .returned (.tuple #[v', .string ⟨t'.toArray⟩]) ∧ OwnB w.heap.size w' v' l' ∧ l'.length ≤ 9 ∧ t'.length ≤ 9 ∧ Below w.heap.size w w' := by
  have Hn := hide (l1New_any w cv code hr hl)
  clear hr
  go_enter Try.func10, Try.ntmps10
  go_wp2_with fail
  refine Hn.out.mono ?_
  rintro e w1 ⟨rfl, hc1, hb1⟩
  have hgl := hc1.lt
  go_wp2_with fail
  go_region_with (go_at_call 22; first | (refine (l1Some_any _ _ _ _ _ (by first | exact hca.drew | exact hca) hl).mono ?_; rintro e wb ⟨vb, lb, rfl, hob, hlb, hcb, hgb⟩; have hk := fun n => str_rd _ _ _ (RdB.below hob.rd (below_drewN (Below.refl wb.heap.size _) n) (Nat.le_refl _)); have hk0 := str_rd _ _ _ hob.rd) | (refine (l1Some_any _ _ _ _ _ (by first | exact hc1.drew | exact hc1) hl).mono ?_; rintro e wa ⟨va, la, rfl, hoa, hla, hca, hga⟩))
  have hs1 : w.heap.size ≤ w1.drew.heap.size := hb1.size
  have hsa : w1.drew.heap.size ≤ wa.heap.size := hga.size
  have hgl' : w.heap.size < w1.drew.heap.size := hgl
  have hBa : Below w.heap.size w wa := hb1.drew.grown hga hs1 (fun k hk => by cases hk; omega)
  have hBb : Below w.heap.size w wb := hBa.grown hgb (by omega) (fun k hk => by cases hk; omega)
  have hoa' := hoa.notg hgb hgl'
  clear hk hk0
  go_wp2
  go_ret2
  exact ⟨_, la, lb, rfl, hoa'.mono hs1, hla, hlb, hBb⟩

theorem rd_one_str' (w : World) (n : Nat) (s : ByteArray) (h : n = w.heap.size) : RdS (w.alloc (.cells #[.string s] 9)) (.slice (some ⟨n, 0, none⟩) 1 1) [s] := by
  subst h; exact rd_one_str w s

/-- The five texts from which names are drawn lie in a new block. -/
theorem five_at (w : World) (k : Nat) (h : k < 5) : ∃ s : ByteArray, s.size = 1 ∧ (w.alloc (.cells #[.string ⟨#[97]⟩, .string ⟨#[98]⟩, .string ⟨#[99]⟩, .string ⟨#[100]⟩, .string ⟨#[101]⟩] 9)).cell? ⟨w.heap.size, k, none⟩ = some (.string s) := by
  rw [World.cell?_alloc_at _ _ _ _ rfl]
  rcases (show k = 0 ∨ k = 1 ∨ k = 2 ∨ k = 3 ∨ k = 4 from by omega) with rfl | rfl | rfl | rfl | rfl
  · exact ⟨_, rfl, rfl⟩
  · exact ⟨_, rfl, rfl⟩
  · exact ⟨_, rfl, rfl⟩
  · exact ⟨_, rfl, rfl⟩
  · exact ⟨_, rfl, rfl⟩

set_option maxRecDepth 20000 in
set_option maxHeartbeats 1000000 in
theorem l1Names_any (w0 w : World) (g : Nat) (cv : Value) (code : List UInt8) (hc : Cur w0 w g cv code) (hl : code.length ≤ 1048576) :
    Calls Try.prog 29 #[.pointer (some ⟨g, 0, none⟩)] w fun e w' => ∃ (v' : Value) (ls : List ByteArray), e = .returned v' ∧ OwnS w.heap.size w' v' ls ∧ ls.length ≤ 5 ∧ (∀ s ∈ ls, s.size = 1) ∧ Cur w0 w' g cv code ∧ w.grownBy w' (some g) := by
  have hb0 : Below w.heap.size w (w.alloc (.cells #[] 9)) := (Below.refl _ _).alloc (Nat.le_refl _) _
  have Ho := hide (own_nilS w w.heap.size (Nat.le_refl _))
  have Hc := hide (hc.below hb0 hc.lt)
  have Hg := hide (grw_of_below (some g) hb0 (Nat.le_refl _))
  have hgl := hc.lt
  clear hc hb0
  go_enter Try.func29, Try.ntmps29
  go_wp2
  go_loopw [3, 4] (fun bv iv wr => ∃ (k : Nat) (ls : List ByteArray), k ≤ 5 ∧ iv = .int .i64 (k : Int) ∧ OwnS w.heap.size wr bv ls ∧ ls.length ≤ k ∧ (∀ s ∈ ls, s.size = 1) ∧ Cur w0 wr g cv code ∧ w.grownBy wr (some g)) (fun _ iv _ => 5 - (intOf iv).toNat)
  case atStart => exact ⟨0, [], Nat.zero_le _, rfl, Ho.out, by simp, by simp, Hc.out, Hg.out⟩
  case round =>
    obtain ⟨k, ls, hk, rfl, ho, hpl, hsz1, hc, hg⟩ := hrel
    have Hs1 := hide hsz1
    have hpl2 : ls.length ≤ 5 := by omega
    have Hor := hide ho
    have Hcr := hide hc
    have Hgr := hide hg
    have hsz := hg.size
    clear ho hc hg hsz1
    by_cases hlt : k < 5
    · go_wp2_with fail
      refine (l1Once_any _ _ _ _ _ _ Hcr.out hl (by omega) (by omega)).mono ?_
      rintro e w1 ⟨bb, rfl, hc1, hg1⟩
      have Ho1 := hide (Hor.out.notg hg1 hgl)
      have Hc1 := hide hc1
      have Hg1 := hide (grw_trans Hgr.out hg1)
      have hsz1 := hg1.size
      clear hc1 hg1
      cases bb
      · obtain ⟨s, hs1, hcell⟩ := five_at w1 k hlt
        have Hss := hide hs1
        clear hs1
        go_wp2_with (at_builtin; refine app_ownS _ rfl _ _ rfl w.heap.size _ _ ls [s] rfl rfl ((Ho1.out.alloc _).alloc _) (rd_one_str' _ _ _ (by simp)) (by simp; omega) (by simp; omega) ?_; intro v2 w2 ho2 hb2)
        have hb2' : Below w.heap.size w1 w2 := (((Below.refl _ _).alloc (by omega) _).alloc (by simp; omega) _).trans hb2
        have Hc2 := hide (Hc1.out.below hb2' hgl)
        have Hg2 := hide (grw_below Hg1.out hb2' (Nat.le_refl _))
        go_roundw
        case rel => exact ⟨k + 1, ls ++ [s], by omega, by go_num, ho2, by simp; omega, fun u hu => by
                      rcases List.mem_append.1 hu with hu | hu
                      · exact Hs1.out u hu
                      · simp at hu; rw [hu]; exact Hss.out, Hc2.out, Hg2.out⟩
        case measure => simp [intOf]; omega
      · go_wp2
        go_roundw
        case rel => exact ⟨k + 1, ls, by omega, by go_num, Ho1.out, by omega, Hs1.out, Hc1.out, Hg1.out⟩
        case measure => simp [intOf]; omega
    · go_wp2
      go_ret
      exact ⟨_, ls, rfl, Hor.out, by omega, Hs1.out, Hcr.out, Hgr.out⟩

set_option maxRecDepth 20000 in
set_option maxHeartbeats 400000 in
theorem drawPutNames_any (w : World) (cv : Value) (code : List UInt8) (hr : RdB w cv code) (hl : code.length ≤ 1048576) :
    Calls Try.prog 13 #[cv] w fun e w' => ∃ (v' vs : Value) (l' : List UInt8) (ls : List ByteArray), e = .returned (.tuple #[v', vs]) ∧ OwnB w.heap.size w' v' l' ∧ OwnS w.heap.size w' vs ls ∧ l'.length ≤ 9 ∧ ls.length ≤ 5 ∧ (∀ s ∈ ls, s.size = 1) ∧ Below w.heap.size w w' := by
  have Hn := hide (l1New_any w cv code hr hl)
  clear hr
  go_enter Try.func13, Try.ntmps13
  go_wp2_with fail
  refine Hn.out.mono ?_
  rintro e w1 ⟨rfl, hc1, hb1⟩
  have hgl := hc1.lt
  go_wp2_with fail
  refine (l1Some_any _ _ _ _ _ hc1 hl).mono ?_
  rintro e w2 ⟨v2, l2, rfl, ho2, hl2, hc2, hg2⟩
  have hs1 := hb1.size
  have hs2 := hg2.size
  go_wp2_with fail
  refine (l1Names_any _ _ _ _ _ hc2 hl).mono ?_
  rintro e w3 ⟨v3, ls, rfl, ho3, hls, hsz, hc3, hg3⟩
  have ho2' := ho2.notg hg3 hgl
  have hB : Below w.heap.size w w3 := (hb1.grown hg2 (by omega) (fun k hk => by cases hk; omega)).grown hg3 (by omega) (fun k hk => by cases hk; omega)
  have Hsz := hide hsz
  clear hsz
  go_wp2
  go_ret2
  exact ⟨_, _, l2, ls, rfl, ho2'.mono hs1, ho3.mono (by omega), hl2, hls, Hsz.out, hB⟩
end Go.Proofs.Ytemmindofiecjaa
