/- Chains in a tree, and what extends what, by the model. -/
import Derived.Test.YtlfoaobgdipdlabTrSpec
import Derived.Test.YtlfoaobgdipdlabTrChain
import Derived.Test.YtlfoaobgdipdlabIntApp
namespace Go.Proofs.Ytlfoaobgdipdlab
open Go.RowKit
set_option linter.unusedVariables false

theorem RdKs.parts9 {w : World} {a : Option Addr} {cap : Nat} {l : List Bk} (h : RdKs w (.slice a l.length cap) l) (hl : 0 < l.length) : ∃ b off, a = some ⟨b, off, none⟩ ∧ b < w.heap.size ∧ ∀ i (h : i < l.length), ∃ bv, BkAt w b (off + i * 14) l[i] bv ∧ RdK w l[i] bv := by
  rcases h with ⟨a', cap', e, rfl, hn⟩ | ⟨b, off, cap', h0, e, h1, h2, h3, h4⟩
  · simp at hl
  · simp only [Value.slice.injEq] at e
    exact ⟨b, off, e.1, h3, h4⟩
/-- A place as a number. -/
def ofN (i : Nat) : Int := (i : Int)
/-- How far the walk up a chain is: 'out' is its end, and what is left is the chain of id. -/
structure UpTo (l : List Bk) (id0 id : Int) (O : List Nat) : Prop where
  all : chA l id0 = chA l id ++ O
  there : O = [] ∨ id < 0 ∨ 0 ≤ atI l id
theorem UpTo.next {l : List Bk} (ht : treeP l) {id0 id : Int} {O : List Nat} (h : UpTo l id0 id O) {k : Nat} (hk : k < l.length) (e : atI l id = (k : Int)) : UpTo l id0 l[k].qb (k :: O) := by
  refine ⟨?_, ?_⟩
  · rw [h.all, chA_step ht hk e, List.append_assoc]; rfl
  · rcases par ht hk with ⟨_, q⟩ | ⟨j, hj, q, _⟩
    · exact .inr (.inl (by omega))
    · exact .inr (.inr (by omega))
theorem UpTo.len {l : List Bk} (ht : treeP l) {id0 id : Int} {O : List Nat} (h : UpTo l id0 id O) : O.length ≤ l.length := by
  have := chA_len ht id0
  rw [h.all] at this
  simp at this
  omega
set_option maxRecDepth 20000 in
set_option maxHeartbeats 2000000 in
theorem specChain_any (v : Value) (l : List Bk) (id0 : Int) (w : World) (hr : RdKs w v l) (hl : l.length ≤ 4000000) (ht : treeP l) :
    Calls Try.prog 74 #[v, .int .i64 id0] w fun e w' => ∃ x, e = .returned x ∧ OwnI w.heap.size w' x ((chA l id0).map ofN) ∧ Below w.heap.size w w' := by
  obtain ⟨a, cap, rfl⟩ := hr.shape
  have Hr := hide hr
  have Ht := hide ht
  have HA := hide (fun V (hV : Below w.heap.size w V) id => specAt_any (.slice a l.length cap) l id V (hr.below hV (Nat.le_refl _)) hl)
  have HT := hide (chA_len ht id0)
  clear hr ht
  go_enter Try.func74, Try.ntmps74
  go_wp2
  have o1 := own_nilI w w.heap.size (Nat.le_refl _)
  have b1 : Below w.heap.size w (w.alloc (.cells #[] 3)) := (Below.refl _ w).alloc (Nat.le_refl _) _
  go_loopw [1, 5] (fun iv ov wr => ∃ (id : Int) (O : List Nat), iv = .int .i64 id ∧ UpTo l id0 id O ∧ slen ov = O.length ∧ OwnI w.heap.size wr ov (O.map ofN) ∧ Below w.heap.size w wr) (fun _ ov _ => l.length - slen ov)
  case atStart => exact ⟨id0, [], rfl, ⟨by simp, .inl rfl⟩, rfl, o1, b1⟩
  case round =>
    clear o1 b1
    obtain ⟨id, O, rfl, hu, hs, ho, hb⟩ := hrel
    obtain ⟨oa, oc, rfl⟩ := ho.rd.shape
    have Hu := hide hu
    have Ho := hide ho
    clear hu ho hs
    by_cases hlow : id < 0
    · have HX : Hid (chA l id0 = O) := hide (by rw [Hu.out.all, chA_none (by rw [at_low Ht.out hlow]; omega)]; rfl)
      go_wp2
      go_ret
      exact ⟨_, rfl, by rw [HX.out]; exact Ho.out, hb⟩
    · have hge : 0 ≤ id := by omega
      go_wp2_with fail
      refine (HA.out wr hb id).mono ?_
      rintro e w2 ⟨rfl, rfl⟩
      by_cases hn : atI l id < 0
      · have HX : Hid (chA l id0 = []) := hide (by
          rcases Hu.out.there with h | h | h
          · rw [Hu.out.all, chA_none hn, h]; rfl
          · omega
          · omega)
        have HO := hide (own_nilI w2 w.heap.size hb.size)
        have HB := hide (hb.alloc (o := .cells #[] 3) hb.size)
        go_wp2
        go_ret
        exact ⟨_, rfl, by rw [HX.out]; exact HO.out, HB.out⟩
      · obtain ⟨k, hk, e, -⟩ := at_lt (l := l) (id := id) (by omega)
        have Hu2 := hide (Hu.out.next Ht.out hk e)
        have hm := Hu2.out.len Ht.out
        obtain ⟨b, off, rfl, h3, hcell⟩ := Hr.out.parts9 (by omega)
        obtain ⟨lv, hat, -⟩ := hcell k hk
        have c5 := (hat.below hb h3).cells.2.2.2.2.2.1
        have h39 : b < w2.heap.size := by have := hb.size; omega
        rw [e]
        have hk0 : (0 : Int) ≤ (k : Int) := by omega
        have hkl : (k : Int) < (l.length : Int) := by omega
        have HC : Hid (∀ V, Below w.heap.size w V → V.cell? ⟨b, off + k * 14 + 5, none⟩ = some (.int .i64 l[k].qb)) := hide (fun V hV => (hat.below hV h3).cells.2.2.2.2.2.1)
        have hO : O.length + 1 ≤ l.length := by simpa using hm
        have HO1 := hide (own_oneI w2 w.heap.size (k : Int) hb.size)
        have HR1 := hide (Ho.out.rd.below ((Below.refl w2.heap.size w2).alloc (Nat.le_refl _) (.cells #[.int .i64 (k : Int)] 3)) (Nat.le_refl _))
        have HB1 := hide (hb.alloc (o := .cells #[.int .i64 (k : Int)] 3) hb.size)
        clear hn hm hcell hat c5 Hu HA Hr
        generalize l[k].qb = qb at HC Hu2
        have hlen1 : ((O.map ofN).length : Nat) = O.length := by simp
        rw [hlen1] at HR1
        have hdone : ∀ v3 w3, OwnI w.heap.size w3 v3 ([(k : Int)] ++ O.map ofN) → slen v3 = O.length + 1 := fun v3 w3 h => by
          obtain ⟨a3, c3, rfl⟩ := h.rd.shape
          simp [slen]
        have Hdone := hide hdone
        clear hdone
        simp only
        go_wp2_with (at_builtin; refine app_ownIs _ rfl _ _ rfl w.heap.size _ _ [(k : Int)] (O.map ofN) rfl rfl HO1.out HR1.out (by simp; omega) (by have := HB1.out.size; omega) ?_; intro v3 w3 ho3 hg3 hb3 _; have cc := HC.out w3 (HB1.out.trans hb3))
        have HS3 := hide (Hdone.out v3 w3 ho3)
        have Ho3 := hide ho3
        clear ho3
        go_roundw
        case rel => exact ⟨qb, k :: O, rfl, Hu2.out, by rw [HS3.out]; rfl, Ho3.out, HB1.out.trans hb3⟩
        case measure => rw [HS3.out]; simp [slen]; omega
theorem RdI.cellI {w : World} {a : Option Addr} {cap : Nat} {l : List Int} {n : Nat} (h : RdI w (.slice a n cap) l) (hn : n = l.length) {k : Nat} (hk : k < l.length) : ∃ b off, a = some ⟨b, off, none⟩ ∧ b < w.heap.size ∧ w.cell? ⟨b, off + k, none⟩ = some (.int .i64 l[k]) := by
  rcases h with ⟨a', cap', e, rfl, hn⟩ | ⟨b, off, cap', h0, e, h1, h2, h3, h4⟩
  · simp at hk
  · simp only [Value.slice.injEq] at e
    exact ⟨b, off, e.1, h3, h4 k hk⟩
end Go.Proofs.Ytlfoaobgdipdlab
