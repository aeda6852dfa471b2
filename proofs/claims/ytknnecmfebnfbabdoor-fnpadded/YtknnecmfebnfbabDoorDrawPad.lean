/- What is drawn for Padded: some bytes, at most 129. -/
import Derived.Test.YtknnecmfebnfbabDoorDrawNew
namespace Go.Proofs.YtknnecmfebnfbabDoor
open Go.RowKit
set_option linter.unusedVariables false

def nsP (x : Int) : List Int := [0, 1, 3, 55, 56, 63, 64, 65, 119, 120, x]
theorem nsP_bd (x n : Int) (h0 : 0 ≤ x) (h : x < 130) (hn : n ∈ nsP x) : 0 ≤ n ∧ n < 130 := by
  simp only [nsP, List.mem_cons, List.not_mem_nil, or_false] at hn
  rcases hn with rfl | rfl | rfl | rfl | rfl | rfl | rfl | rfl | rfl | rfl | rfl <;> omega

set_option maxRecDepth 20000 in
set_option maxHeartbeats 400000 in
theorem l2Bytes_any (w0 w : World) (g : Nat) (cv : Value) (code : List UInt8) (hc : Cur w0 w g cv code) (hl : code.length ≤ 1048576) :
    Calls Tryd.prog 18 #[.pointer (some ⟨g, 0, none⟩)] w fun e w' => ∃ (v' : Value) (l' : List UInt8), e = .returned v' ∧ OwnB w.heap.size w' v' l' ∧ l'.length < 130 ∧ Cur w0 w' g cv code ∧ w.grownBy w' (some g) := by
  have hgl := hc.lt
  have Hc := hide hc
  clear hc
  go_enter Tryd.func18, Tryd.ntmps18
  go_wp2_with fail
  refine (l1Below_any _ _ _ _ _ _ Hc.out hl (by omega) (by omega)).mono ?_
  rintro e w3 ⟨x, rfl, hx1, _, hc3, hg3⟩
  have hx : (x : Int) < 130 := hx1 (by omega)
  have hs3 := hg3.size
  clear hx1
  have hgl3 := hc3.lt
  have hb4 : ∀ o, Below w3.heap.size w3 (w3.alloc o) := fun o => (Below.refl _ _).alloc (Nat.le_refl _) _
  have Hi := hide (l1Int_any w0 _ g w3.heap.size cv code (nsP x) (hc3.below (hb4 _) hgl3) hl (ints_new w3 (nsP x) 3) (by omega) (by simp [nsP]) (by simp [nsP]) 11)
  have Hb4 := hide (hb4 (.cells #[.int .i64 0, .int .i64 1, .int .i64 3, .int .i64 55, .int .i64 56, .int .i64 63, .int .i64 64, .int .i64 65, .int .i64 119, .int .i64 120, .int .i64 (x : Int)] 3))
  clear hb4
  go_wp2_with fail
  refine Hi.out.mono ?_
  rintro e w4 ⟨n, rfl, hn, hc4, hg4⟩
  have hnb := nsP_bd (x : Int) n (by omega) hx hn
  obtain ⟨N, hN⟩ := Int.eq_ofNat_of_zero_le hnb.1
  rw [hN]
  have hN9 : N < 130 := by omega
  have Hg4 := hide (grw_trans (grw_trans hg3 (grw_of_below (some g) Hb4.out (Nat.le_refl _))) hg4)
  have hsz := Hg4.out.size
  clear hn Hi hnb hN Hb4
  go_wp2_with fail
  refine (l1Bytes_any _ _ g N cv code hc4 hl (by omega)).mono ?_
  rintro e w5 ⟨v5, l5, rfl, ho5, hl5, hc5, hg5⟩
  go_wp2
  go_ret
  exact ⟨_, l5, rfl, ho5.mono hsz, by omega, hc5, grw_trans Hg4.out hg5⟩

set_option maxRecDepth 20000 in
set_option maxHeartbeats 400000 in
theorem drawPadded_any (w : World) (cv : Value) (code : List UInt8) (hr : RdB w cv code) (hl : code.length ≤ 1048576) :
    Calls Tryd.prog 7 #[cv] w fun e w' => ∃ (v' : Value) (l' : List UInt8), e = .returned v' ∧ OwnB w.heap.size w' v' l' ∧ l'.length < 130 ∧ Below w.heap.size w w' := by
  have Hn := hide (l1New_any w cv code hr hl)
  clear hr
  have Hl : Hid (∀ (w0 w : World) (g : Nat) (cv : Value) (code : List UInt8), Cur w0 w g cv code → code.length ≤ 1048576 → Calls Tryd.prog 18 #[.pointer (some ⟨g, 0, none⟩)] w fun e w' => ∃ (v' : Value) (l' : List UInt8), e = .returned v' ∧ OwnB w.heap.size w' v' l' ∧ l'.length < 130 ∧ Cur w0 w' g cv code ∧ w.grownBy w' (some g)) := hide l2Bytes_any
  go_enter Tryd.func7, Tryd.ntmps7
  go_wp2_with fail
  refine Hn.out.mono ?_
  rintro e w1 ⟨rfl, hc1, hb1⟩
  have hgl := hc1.lt
  go_wp2_with fail
  refine (Hl.out _ _ _ _ _ hc1 hl).mono ?_
  rintro e w2 ⟨v2, l2, rfl, ho2, hl2, hc2, hg2⟩
  have hB : Below w.heap.size w w2 := hb1.grown hg2 (by omega) (fun k hk => by cases hk; omega)
  have hsw : w.heap.size ≤ w1.heap.size := hb1.size
  go_wp2
  go_ret
  exact ⟨_, l2, rfl, ho2.mono hsw, hl2, hB⟩
end Go.Proofs.YtknnecmfebnfbabDoor
