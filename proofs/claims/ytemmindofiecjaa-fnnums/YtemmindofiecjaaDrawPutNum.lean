/- What is drawn for PutNum: bytes, and a number, whatever the code. -/
import Derived.Test.YtemmindofiecjaaDrawNew
namespace Go.Proofs.Ytemmindofiecjaa
open Go.RowKit
set_option linter.unusedVariables false

def nsL (x : Int) : List Int := [0, 1, -1, 63, 64, -64, -65, 8192, 1000000000, -1000000000, 1000000001, -9223372036854775808, 9223372036854775807, x]
theorem nsL_bd (x n : Int) (h0 : 0 ≤ x) (h1 : x < 100000) (h : n ∈ nsL x) : -9223372036854775808 ≤ n ∧ n ≤ 9223372036854775807 := by
  unfold nsL at h
  simp only [List.mem_cons, List.not_mem_nil, or_false] at h
  rcases h with rfl | rfl | rfl | rfl | rfl | rfl | rfl | rfl | rfl | rfl | rfl | rfl | rfl | rfl <;> omega
theorem ns_new (w : World) (x : Int) (t : TypeId) : IntsAt (w.alloc (.cells #[.int .i64 0, .int .i64 1, .int .i64 (-1), .int .i64 63, .int .i64 64, .int .i64 (-64), .int .i64 (-65), .int .i64 8192, .int .i64 1000000000, .int .i64 (-1000000000), .int .i64 1000000001, .int .i64 (-9223372036854775808), .int .i64 9223372036854775807, .int .i64 x] t)) w.heap.size (nsL x) :=
  ints_new w (nsL x) t

set_option maxRecDepth 20000 in
set_option maxHeartbeats 400000 in
theorem drawPutNum_any (w : World) (cv : Value) (code : List UInt8) (hr : RdB w cv code) (hl : code.length ≤ 1048576) :
    Calls Try.prog 7 #[cv] w fun e w' => ∃ (v' : Value) (l' : List UInt8) (n : Int), e = .returned (.tuple #[v', .int .i64 n]) ∧ OwnB w.heap.size w' v' l' ∧ l'.length ≤ 9 ∧ -9223372036854775808 ≤ n ∧ n ≤ 9223372036854775807 ∧ Below w.heap.size w w' := by
  have Hn := hide (l1New_any w cv code hr hl)
  clear hr
  go_enter Try.func7, Try.ntmps7
  go_wp2_with fail
  refine Hn.out.mono ?_
  rintro e w1 ⟨rfl, hc1, hb1⟩
  have hgl := hc1.lt
  go_wp2_with fail
  refine (l1Some_any _ _ _ _ _ hc1 hl).mono ?_
  rintro e w2 ⟨v2, l2, rfl, ho2, hl2, hc2, hg2⟩
  go_wp2_with fail
  refine (l1Below_any _ _ _ _ _ _ hc2 hl (by omega) (by omega)).mono ?_
  rintro e w3 ⟨x, rfl, hx1, _, hc3, hg3⟩
  have hx : (x : Int) < 100000 := hx1 (by omega)
  have hs2 := hg2.size
  have hs3 := hg3.size
  have ho3 : OwnB w1.heap.size w3 v2 l2 := World.ownsRow.kept ho2 hg3 (by
    right; intro e; have := (World.ownsRow.lt ho2 _ e).1; omega)
  clear hx1
  have hgl3 := hc3.lt
  have hb4 : ∀ o, Below w3.heap.size w3 (w3.alloc o) := fun o => (Below.refl _ _).alloc (Nat.le_refl _) _
  have Hi := hide (l1Int_any w _ w.heap.size w3.heap.size cv code (nsL x) (hc3.below (hb4 _) hgl3) hl (ns_new w3 x 3) (by omega) (by simp [nsL]) (by simp [nsL]) 14)
  have Hb4 := hide (hb4 (.cells #[.int .i64 0, .int .i64 1, .int .i64 (-1), .int .i64 63, .int .i64 64, .int .i64 (-64), .int .i64 (-65), .int .i64 8192, .int .i64 1000000000, .int .i64 (-1000000000), .int .i64 1000000001, .int .i64 (-9223372036854775808), .int .i64 9223372036854775807, .int .i64 (x : Int)] 3))
  clear hb4
  go_wp2_with fail
  refine Hi.out.mono ?_
  rintro e w4 ⟨n, rfl, hn, hc4, hg4⟩
  have hnb := nsL_bd (x : Int) n (by omega) hx hn
  have ho4 : OwnB w1.heap.size w4 v2 l2 := World.ownsRow.kept (ho3.below Hb4.out (Nat.le_refl _)) hg4 (by
    right; intro e; have := (World.ownsRow.lt ho3 _ e).1; omega)
  have hB : Below w.heap.size w w4 := (((hb1.grown hg2 (by omega) (fun k hk => by cases hk; omega)).grown hg3 (by omega) (fun k hk => by cases hk; omega)).trans (Hb4.out.mono (by omega))).grown hg4 (by simp; omega) (fun k hk => by cases hk; omega)
  have hsw : w.heap.size ≤ w1.heap.size := hb1.size
  clear hn Hi Hb4
  go_wp2
  go_ret2
  exact ⟨_, l2, n, rfl, ho4.mono hsw, hl2, hnb.1, hnb.2, hB⟩
end Go.Proofs.Ytemmindofiecjaa
