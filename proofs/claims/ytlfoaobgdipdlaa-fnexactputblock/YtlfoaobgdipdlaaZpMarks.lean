/- The laws' marks: bytes of the call's own are written over one by one, and found again; nothing else turns. -/
import Derived.Test.YtlfoaobgdipdlaaZpRow
namespace Go.Proofs.Ytlfoaobgdipdlaa
open Go.RowKit
set_option linter.unusedVariables false

theorem OwnB.kept {base : Nat} {w w' : World} {v : Value} {l : List UInt8} {row : Option Nat} (h : OwnB base w v l) (hg : w.grownBy w' row) (hne : v.ownBlock = none ∨ v.ownBlock ≠ row) : OwnB base w' v l := World.ownsRow.kept h hg hne
theorem OwnB.ge {base : Nat} {w : World} {v : Value} {l : List UInt8} (h : OwnB base w v l) : ∀ k, v.ownBlock = some k → base ≤ k := fun k hk => (World.ownsRow.lt h k hk).1
theorem OwnB.lt {base : Nat} {w : World} {v : Value} {l : List UInt8} (h : OwnB base w v l) : ∀ k, v.ownBlock = some k → k < w.heap.size := fun k hk => (World.ownsRow.lt h k hk).2
theorem apart_of {a b : Option Nat} {X Y : Nat} (h1 : ∀ k, a = some k → k < X) (h2 : ∀ k, b = some k → Y ≤ k) (hXY : X ≤ Y) : a = none ∨ a ≠ b := by
  cases a with
  | none => exact .inl rfl
  | some i => right; intro e; have := h1 i rfl; have := h2 i e.symm; omega
theorem apart_of' {a b : Option Nat} {X Y : Nat} (h1 : ∀ k, a = some k → Y ≤ k) (h2 : ∀ k, b = some k → k < X) (hXY : X ≤ Y) : a = none ∨ a ≠ b := by
  cases a with
  | none => exact .inl rfl
  | some i => right; intro e; have := h1 i rfl; have := h2 i e.symm; omega

def markL (k n : Nat) : List UInt8 := (List.range n).map (fun i => UInt8.ofNat ((k + i) % 256))
theorem markL_len (k n : Nat) : (markL k n).length = n := by simp [markL]
theorem markL_at (k n j : Nat) (h : j < (markL k n).length) : (markL k n)[j] = UInt8.ofNat ((k + j) % 256) := by simp [markL]

theorem grown_trans {a b c : World} {row : Option Nat} (h : a.grownBy b row) (k : b.grownBy c row) : a.grownBy c row :=
  ⟨k.os.trans h.os, k.tape.trans h.tape, k.output.trans h.output, Nat.le_trans h.size k.size, fun i hi hr => (k.block i (Nat.lt_of_lt_of_le hi h.size) hr).trans (h.block i hi hr)⟩

theorem mark_set (M l : List UInt8) (j : Nat) (hM : M.length = l.length) (h : j < M.length) : ((M.take j ++ l.drop j).map cb).set j (cb M[j]) = (M.take (j + 1) ++ l.drop (j + 1)).map cb := by
  rw [List.take_succ_eq_append_getElem h, List.drop_eq_getElem_cons (show j < l.length from by omega)]
  simp only [List.map_append, List.map_cons, List.append_assoc, List.singleton_append]
  rw [List.set_append_right _ _ (by simp; omega)]
  simp [show min j M.length = j from by omega]

theorem byte_mod (k : Nat) : ((UInt8.ofNat (k % 256)).toNat : Int) = (k : Int) % 256 := by
  rw [UInt8.toNat_ofNat']; omega

set_option maxRecDepth 20000 in
set_option maxHeartbeats 400000 in
theorem markByteS_any (v : Value) (l : List UInt8) (k base : Nat) (w : World) (ho : OwnB base w v l) (hl : l.length ≤ 10000000) (hk : k ≤ 100000000) :
    Calls Try.prog 23 #[v, .int .i64 (k : Int)] w fun e w' => e = .returned (.int .i64 ((k + l.length : Nat) : Int)) ∧ OwnB base w' v (markL k l.length) ∧ w.grownBy w' v.ownBlock := by
  have hML := markL_len k l.length
  have hMA := markL_at k l.length
  generalize hMd : markL k l.length = M at hML hMA
  clear hMd
  rcases ho.2 with ⟨rfl, hn⟩ | ⟨g, cap, cur, rfl, _, _, _, hcm, _, _⟩
  · have e : l = [] := List.length_eq_zero_iff.1 hn
    subst e
    have e2 : M = [] := List.length_eq_zero_iff.1 hML
    subst e2
    have Ho := hide ho
    clear ho
    go_enter Try.func23, Try.ntmps23
    go_wp2
    refine wp_loop_rounds 1 ?_
    rw [rounds_succ]
    go_wp2
    go_ret
    exact ⟨rfl, Ho.out, World.grownBy.refl _ _⟩
  · have Ho := hide ho
    have HML := hide hML
    have HMA := hide hMA
    have hMl : l.length ≤ M.length := by omega
    have hMg : M.length ≤ l.length := by omega
    clear ho hML hMA
    go_enter Try.func23, Try.ntmps23
    go_wp2
    go_loopw [1, 5] (fun kv iv wr => ∃ j : Nat, j ≤ l.length ∧ iv = .int .i64 (j : Int) ∧ kv = .int .i64 ((k + j : Nat) : Int) ∧ wr.ownsRow base 5 1 (.slice (some ⟨g, 0, none⟩) l.length cap) l.length ((M.take j ++ l.drop j).map cb) ∧ w.grownBy wr (some g))
      (fun _ iv _ => l.length - (intOf iv).toNat)
    case atStart => exact ⟨0, Nat.zero_le _, rfl, rfl, by simpa [OwnB] using Ho.out, World.grownBy.refl _ _⟩
    case round =>
      obtain ⟨j, hj, rfl, rfl, hown, hgr⟩ := hrel
      by_cases hlt : j < l.length
      · have hjM : j < M.length := by omega
        have hf := hown.frozenAt j
        have hd := hown.cellAt j (by omega)
        obtain ⟨u, hu⟩ : ∃ u, ((M.take j ++ l.drop j).map cb)[j]? = some u := ⟨_, List.getElem?_eq_getElem (by simp; omega)⟩
        rw [hu] at hd
        have hst := hown.stored j (cb M[j])
        rw [mark_set M l j HML.out hjM] at hst
        have ecb : cb M[j] = .int .u8 (((k + j : Nat) : Int) % 256) := by
          have e := HMA.out j hjM
          rw [e, cb, byte_mod]
        rw [ecb] at hst
        have Hst := hide hst
        have Hgr := hide hgr
        clear hst hgr hown hu ecb
        go_wp2
        go_roundw
        case rel => exact ⟨j + 1, by omega, by go_num, by go_num, Hst.out.1, grown_trans Hgr.out Hst.out.2⟩
        case measure => simp [intOf]; omega
      · have e : j = l.length := by omega
        subst e
        have ho' : OwnB base wr (.slice (some ⟨g, 0, none⟩) l.length cap) M := by
          have : M.take l.length ++ l.drop l.length = M := by rw [List.take_of_length_le (by omega), List.drop_length, List.append_nil]
          rw [this] at hown
          unfold OwnB
          rw [HML.out]
          exact hown
        have Ho' := hide ho'
        have Hgr := hide hgr
        clear ho' hgr hown
        go_wp2
        go_ret
        exact ⟨rfl, Ho'.out, Hgr.out⟩

end Go.Proofs.Ytlfoaobgdipdlaa
