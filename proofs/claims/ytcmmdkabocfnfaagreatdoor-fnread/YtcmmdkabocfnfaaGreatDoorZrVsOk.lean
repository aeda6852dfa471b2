/- The laws' marks on texts: each is written over by a text of its own number; nothing else turns. Orders in memory: what a slice of them reads as, what a call owns of them, how they are made anew, held against each other, their size, their marks. Those who vote: what is right, on both sides. -/
import Derived.Test.YtcmmdkabocfnfaaGreatDoorZrDrawTx
import Derived.Laws.IdiomStrings
import Derived.Test.YtcmmdkabocfnfaaGreatDoorZrTxBlk
import Derived.Deep.RegionHeldLaw
import Derived.Deep.RegionLaw
import Derived.Test.YtcmmdkabocfnfaaGreatDoorZrDrawVs
import Derived.Test.YtcmmdkabocfnfaaGreatDoorZrNames
import Derived.Lib.QuietBelow
import Derived.BigQuiet
namespace Go.Proofs.YtcmmdkabocfnfaaGreatDoor
open Go.RowKit
set_option linter.unusedVariables false

def dg : Nat → Nat → List UInt8 → List UInt8
  | 0, _, acc => acc
  | f + 1, k, acc => if k = 0 then acc else dg f (k / 10) (UInt8.ofNat (48 + k % 10) :: acc)
def mtx (k : Nat) : ByteArray := ⟨(109 :: dg k k []).toArray⟩

theorem dg_step (f k : Nat) (acc : List UInt8) (h : 0 < k) (hf : k ≤ f) : dg f k acc = dg (f - 1) (k / 10) (UInt8.ofNat (48 + k % 10) :: acc) := by
  cases f with
  | zero => omega
  | succ f => rw [dg, if_neg (by omega)]; rfl
theorem dg_zero (f : Nat) (acc : List UInt8) : dg f 0 acc = acc := by
  cases f with
  | zero => rfl
  | succ f => rw [dg, if_pos rfl]

theorem str_one (w : World) (x : Int) (c : UInt8) (h : x = (c.toNat : Int)) : (convert 22 9 (.slice (some ⟨w.heap.size, 0, none⟩) 1 1)).run Tryz.prog (w.alloc (.cells #[.int .u8 x] 5)) = .ok (.string ⟨[c].toArray⟩) (w.alloc (.cells #[.int .u8 x] 5)) := by
  have := run_convert_bytes_back (P := Tryz.prog) (w.alloc (.cells #[.int .u8 x] 5)) 22 9 5 ⟨w.heap.size, 0, none⟩ 1 [c] Tryz.underlying22 Tryz.underlying5 Tryz.underlying9 (by
    intro j hj
    simp only [List.length_cons, List.length_nil] at hj
    have : j = 0 := by omega
    subst this
    simp [Addr.add, World.cell?_alloc_at, h])
  simpa using this

theorem str_app (c : UInt8) (acc : List UInt8) : (⟨#[c]⟩ ++ ⟨acc.toArray⟩ : ByteArray) = ⟨(c :: acc).toArray⟩ := by
  apply ByteArray.ext
  simp

theorem byte_of' (m : Nat) (h : m < 256) : (m : Int) = ((UInt8.ofNat m).toNat : Int) := by
  rw [UInt8.toNat_ofNat']; omega

set_option maxRecDepth 20000 in
set_option maxHeartbeats 400000 in
theorem markText_any (k : Nat) (w : World) (h0 : 0 < k) (hk : k ≤ 200000000) :
    Calls Tryz.prog 90 #[.int .i64 (k : Int)] w fun e w' => e = .returned (.string (mtx k)) ∧ Below w.heap.size w w' := by
  have HM : Hid (mtx k = ⟨(109 :: dg k k []).toArray⟩) := hide rfl
  go_enter Tryz.func90, Tryz.ntmps90
  go_wp2
  go_loopw [0, 3] (fun kv ov wr => ∃ (j f : Nat) (acc : List UInt8), kv = .int .i64 (j : Int) ∧ ov = .string ⟨acc.toArray⟩ ∧ dg k k [] = dg f j acc ∧ j ≤ f ∧ acc.length + f = k ∧ Below w.heap.size w wr) (fun kv _ _ => (intOf kv).toNat)
  case atStart => exact ⟨k, k, [], rfl, rfl, rfl, Nat.le_refl _, by simp, Below.refl _ _⟩
  case round =>
    obtain ⟨j, f, acc, rfl, rfl, hd, hjf, haf, hb⟩ := hrel
    have Hd := hide hd
    have Haf := hide haf
    have hal : acc.length ≤ 200000000 := by omega
    have hfl : f ≤ 200000000 := by omega
    have hsz := hb.size
    clear hd haf
    by_cases hj : 0 < j
    · have Hst := hide (dg_step f j acc hj hjf)
      obtain ⟨C, hC, hC2⟩ : ∃ C : Nat, 48 + j % 10 = C ∧ C < 256 := ⟨_, rfl, by omega⟩
      have k1 := str_one wr (48 + (j : Int) % 10) (UInt8.ofNat C) (by have := byte_of' C hC2; omega)
      rw [hC] at Hst
      clear hC
      have Hb := hide hb
      clear hb
      go_wp2
      go_roundw
      case rel => exact ⟨j / 10, f - 1, UInt8.ofNat C :: acc, by go_num, by rw [str_app], Hd.out.trans Hst.out, by omega, by have := Haf.out; simp; omega, Hb.out.alloc hsz _⟩
      case measure => simp [intOf]; omega
    · have hj0 : j = 0 := by omega
      subst hj0
      have Hz := hide (dg_zero f acc)
      go_wp2
      go_ret
      exact ⟨by rw [HM.out, Hd.out, Hz.out, ← str_app]; rfl, hb⟩

def mkS (k n : Nat) : List ByteArray := (List.range n).map (fun i => mtx (k + i))
theorem mkS_len (k n : Nat) : (mkS k n).length = n := by simp [mkS]
theorem mkS_at (k n j : Nat) (h : j < (mkS k n).length) : (mkS k n)[j] = mtx (k + j) := by simp [mkS]

theorem own_below {B base : Nat} {w w' : World} {e : TypeId} {size : Nat} {v : Value} {n : Nat} {xs : List Value} (h : w.ownsRow base e size v n xs) (hb : Below B w w') (hB : w.heap.size ≤ B) : w'.ownsRow base e size v n xs := by
  refine ⟨h.1, ?_⟩
  rcases h.2 with h' | ⟨g, cap, cur, hv, hbb, hg, r⟩
  · exact .inl h'
  · refine .inr ⟨g, cap, cur, hv, hbb, ?_, r⟩
    have hlt : g < w.heap.size := (Array.getElem?_eq_some_iff.1 hg).1
    rw [hb.block g (by omega)]; exact hg
theorem grown_below {w w' : World} (row : Option Nat) (h : Below w.heap.size w w') : w.grownBy w' row :=
  ⟨h.os, h.tape, h.output, h.size, fun k hk _ => h.block k hk⟩
theorem grownS_trans {a b c : World} {row : Option Nat} (h : a.grownBy b row) (k : b.grownBy c row) : a.grownBy c row :=
  ⟨k.os.trans h.os, k.tape.trans h.tape, k.output.trans h.output, Nat.le_trans h.size k.size, fun i hi hr => (k.block i (Nat.lt_of_lt_of_le hi h.size) hr).trans (h.block i hi hr)⟩

set_option maxRecDepth 20000 in
set_option maxHeartbeats 400000 in
theorem markStringS_any (v : Value) (l : List ByteArray) (k base : Nat) (w : World) (ho : OwnS base w v l) (hl : l.length ≤ 10000000) (hk : k ≤ 100000000) (hk0 : 0 < k) :
    Calls Tryz.prog 88 #[v, .int .i64 (k : Int)] w fun e w' => e = .returned (.int .i64 ((k + l.length : Nat) : Int)) ∧ OwnS base w' v (mkS k l.length) ∧ w.grownBy w' v.ownBlock := by
  have hML := mkS_len k l.length
  have hMA := mkS_at k l.length
  generalize hMd : mkS k l.length = M at hML hMA
  clear hMd
  rcases ho.2 with ⟨rfl, hn⟩ | ⟨g, cap, cur, rfl, _, _, _, hcm, _, _⟩
  · have e : l = [] := List.length_eq_zero_iff.1 hn
    subst e
    have e2 : M = [] := List.length_eq_zero_iff.1 hML
    subst e2
    have Ho := hide ho
    clear ho
    go_enter Tryz.func88, Tryz.ntmps88
    go_wp2
    refine wp_loop_rounds 1 ?_
    rw [rounds_succ]
    go_wp2
    go_ret
    exact ⟨rfl, Ho.out, World.grownBy.refl _ _⟩
  · have Ho := hide ho
    have HML := hide hML
    have HMA := hide hMA
    have hMl : l.length ≤ M.length := by omega
    have hMg : M.length ≤ l.length := by omega
    clear ho hML hMA
    go_enter Tryz.func88, Tryz.ntmps88
    go_wp2
    go_loopw [1, 5] (fun kv iv wr => ∃ j : Nat, j ≤ l.length ∧ iv = .int .i64 (j : Int) ∧ kv = .int .i64 ((k + j : Nat) : Int) ∧ wr.ownsRow base 9 1 (.slice (some ⟨g, 0, none⟩) l.length cap) l.length ((M.take j ++ l.drop j).map Value.string) ∧ w.grownBy wr (some g))
      (fun _ iv _ => l.length - (intOf iv).toNat)
    case atStart => exact ⟨0, Nat.zero_le _, rfl, rfl, by simpa [OwnS] using Ho.out, World.grownBy.refl _ _⟩
    case round =>
      obtain ⟨j, hj, rfl, rfl, hown, hgr⟩ := hrel
      by_cases hlt : j < l.length
      · have hjM : j < M.length := by omega
        obtain ⟨K, hK⟩ : ∃ K : Nat, k + j = K := ⟨_, rfl⟩
        have hK2 : K ≤ 200000000 := by omega
        have hK0 : 0 < K := by omega
        have Hm := hide (fun w => markText_any K w hK0 hK2)
        have eM : M[j] = mtx K := by rw [HMA.out j hjM, hK]
        rw [hK]
        have HK := hide hK
        clear hK
        have Hown := hide hown
        have Hgr := hide hgr
        clear hown hgr
        go_wp2_with fail
        refine (Hm.out _).mono ?_
        rintro e w2 ⟨rfl, hb2⟩
        have hown2 := own_below Hown.out hb2 (Nat.le_refl _)
        have hf := hown2.frozenAt j
        have hd := hown2.cellAt j (by omega)
        obtain ⟨u, hu⟩ : ∃ u, ((M.take j ++ l.drop j).map Value.string)[j]? = some u := ⟨_, List.getElem?_eq_getElem (by simp; omega)⟩
        rw [hu] at hd
        have hst := hown2.stored j (.string M[j])
        rw [gen_set M l Value.string j HML.out hjM, eM] at hst
        have Hst := hide hst
        have Hb2 := hide hb2
        clear hst hown2 hu eM hb2
        go_wp2
        go_roundw
        case rel => exact ⟨j + 1, by omega, by go_num, by rw [show k + (j + 1) = K + 1 from by have := HK.out; omega]; go_num, Hst.out.1, grownS_trans (grownS_trans Hgr.out (grown_below _ Hb2.out)) Hst.out.2⟩
        case measure => simp [intOf]; omega
      · have e : M.take j ++ l.drop j = M := by rw [List.take_of_length_le (by omega), List.drop_of_length_le (by omega), List.append_nil]
        rw [e] at hown
        have ho' : OwnS base wr (.slice (some ⟨g, 0, none⟩) l.length cap) M := by
          unfold OwnS
          rw [HML.out]
          exact hown
        have e2 : j = l.length := by omega
        have Ho' := hide ho'
        have Hgr := hide hgr
        clear ho' hgr hown e
        subst e2
        go_wp2
        go_ret
        exact ⟨rfl, Ho'.out, Hgr.out⟩
end Go.Proofs.YtcmmdkabocfnfaaGreatDoor

namespace Go.Proofs.YtcmmdkabocfnfaaGreatDoor
open Go.RowKit
set_option linter.unusedVariables false

/-- The order t lies in block b from place o on. -/
structure TxAt (w : World) (b o : Nat) (t : Tx5) : Prop where
  c0 : w.cell? ⟨b, o, none⟩ = some (.int .i64 t.1)
  c1 : w.cell? ⟨b, o + 1, none⟩ = some (.string t.2.1)
  c2 : w.cell? ⟨b, o + 2, none⟩ = some (.string t.2.2.1)
  c3 : w.cell? ⟨b, o + 3, none⟩ = some (.int .i64 t.2.2.2.1)
  c4 : w.cell? ⟨b, o + 4, none⟩ = some (.int .i64 t.2.2.2.2)
theorem TxAt.below {w w' : World} {B b o : Nat} {t : Tx5} (h : TxAt w b o t) (hb : Below B w w') (hB : b < B) : TxAt w' b o t :=
  ⟨(hb.cell (p := ⟨b, o, none⟩) hB).trans h.c0, (hb.cell (p := ⟨b, o + 1, none⟩) hB).trans h.c1, (hb.cell (p := ⟨b, o + 2, none⟩) hB).trans h.c2, (hb.cell (p := ⟨b, o + 3, none⟩) hB).trans h.c3, (hb.cell (p := ⟨b, o + 4, none⟩) hB).trans h.c4⟩
/-- The slice v reads as the orders l. -/
def RdT (w : World) (v : Value) (l : List Tx5) : Prop :=
  (∃ a cap, v = .slice a 0 cap ∧ l = [] ∧ (a = none → cap = 0)) ∨
  ∃ b off cap, l ≠ [] ∧ v = .slice (some ⟨b, off, none⟩) l.length cap ∧ l.length ≤ cap ∧ cap ≤ maxLen ∧ b < w.heap.size ∧ ∀ i (h : i < l.length), TxAt w b (off + i * 5) l[i]
theorem RdT.shape {w : World} {v : Value} {l : List Tx5} (h : RdT w v l) : ∃ a cap, v = .slice a l.length cap := by
  rcases h with ⟨a, cap, rfl, rfl, -⟩ | ⟨b, off, cap, h0, rfl, _⟩
  · exact ⟨a, cap, rfl⟩
  · exact ⟨_, cap, rfl⟩
theorem RdT.below {B : Nat} {w w' : World} {v : Value} {l : List Tx5} (h : RdT w v l) (hb : Below B w w') (hB : w.heap.size ≤ B) : RdT w' v l := by
  rcases h with h | ⟨b, off, cap, h0, hv, h1, h2, h3, h4⟩
  · exact .inl h
  · exact .inr ⟨b, off, cap, h0, hv, h1, h2, by have := hb.size; omega, fun i hi => (h4 i hi).below hb (by omega)⟩
def txC (t : Tx5) : List Value := [.int .i64 t.1, .string t.2.1, .string t.2.2.1, .int .i64 t.2.2.2.1, .int .i64 t.2.2.2.2]
def txZ : List Value := [.int .i64 0, .string { data := #[] }, .string { data := #[] }, .int .i64 0, .int .i64 0]
theorem txM_sz (l : List Tx5) : ∀ x ∈ l.map txC, x.length = 5 := fun x hx => by obtain ⟨p, _, rfl⟩ := List.mem_map.1 hx; rfl
theorem txP_sz (l : List Tx5) (k : Nat) : ∀ x ∈ part txC txZ l k, x.length = 5 := part_sz 5 _ _ _ _ (fun _ => rfl) rfl
/-- The slice v, of the call's own from block 'base' on, reads as the orders l. -/
def OwnT (base : Nat) (w : World) (v : Value) (l : List Tx5) : Prop := w.ownsRow base 52 5 v l.length (l.map txC).flatten
theorem OwnT.rd {base : Nat} {w : World} {v : Value} {l : List Tx5} (h : OwnT base w v l) : RdT w v l := by
  rcases h.2 with ⟨rfl, hn⟩ | ⟨g, cap, cur, rfl, hb, hg, hnc, hcm, hcs, ht⟩
  · have : l = [] := List.length_eq_zero_iff.1 hn
    subst this
    exact .inl ⟨_, _, rfl, rfl, fun _ => rfl⟩
  · by_cases hn : l = []
    · subst hn; exact .inl ⟨_, _, rfl, rfl, fun h => by cases h⟩
    · refine .inr ⟨g, 0, cap, hn, rfl, hnc, hcm, (Array.getElem?_eq_some_iff.1 hg).1, fun i hi => ?_⟩
      have cell : ∀ j, j < 5 → w.cell? ⟨g, 0 + i * 5 + j, none⟩ = (txC l[i])[j]? := fun j hj => by
        rw [Nat.zero_add, World.ownsRow.cellAt h (i * 5 + j) (by omega), flat_get 5 (l.map txC) i j (by simpa using hi) (txM_sz l) hj]
        simp
      exact ⟨by have := cell 0 (by omega); simpa [txC] using this, by have := cell 1 (by omega); simpa [txC] using this, by have := cell 2 (by omega); simpa [txC] using this, by have := cell 3 (by omega); simpa [txC] using this, by have := cell 4 (by omega); simpa [txC] using this⟩
theorem OwnT.below {B base : Nat} {w w' : World} {v : Value} {l : List Tx5} (h : OwnT base w v l) (hb : Below B w w') (hB : w.heap.size ≤ B) : OwnT base w' v l := row_below h hb hB
theorem OwnT.lt {base : Nat} {w : World} {v : Value} {l : List Tx5} (h : OwnT base w v l) : ∀ k, v.ownBlock = some k → base ≤ k ∧ k < w.heap.size := fun k hk => World.ownsRow.lt h k hk
theorem Tryz.infoTx : (Tryz.prog.info? 52).map (fun i => (i.zero, i.size, i.bytes)) = some (some (.agg #[.int .i64 0, .string { data := #[] }, .string { data := #[] }, .int .i64 0, .int .i64 0]), 5, 56) := by kernel_rfl

set_option maxRecDepth 20000 in
set_option maxHeartbeats 2000000 in
theorem eqTxS_any (v1 v2 : Value) (l1 l2 : List Tx5) (w : World) (hr1 : RdT w v1 l1) (hr2 : RdT w v2 l2) (hl1 : l1.length ≤ 4000000) (hl2 : l2.length ≤ 4000000) (he : l1 = l2) :
    Calls Tryz.prog 32 #[v1, v2] w fun e w' => e = .returned (.bool true) ∧ Below w.heap.size w w' := by
  subst he
  rcases hr1 with ⟨a, cap, rfl, rfl, -⟩ | ⟨b, off, cap, h0, rfl, h1, h2, h3, h4⟩
  · obtain ⟨a2, cap2, rfl⟩ := hr2.shape
    clear hr2
    go_enter Tryz.func32, Tryz.ntmps32
    go_wp2
    refine wp_loop_rounds 1 ?_
    rw [rounds_succ]
    go_wp2
    go_ret
    exact ⟨rfl, Below.refl _ _⟩
  · rcases hr2 with ⟨a2, cap2, rfl, rfl, -⟩ | ⟨b2, off2, cap2, g0, rfl, g1, g2, g3, g4⟩
    · exact absurd rfl h0
    · have H4 := hide h4
      have G4 := hide g4
      clear h4 g4
      go_enter Tryz.func32, Tryz.ntmps32
      go_wp2
      go_loopw [5] (fun i wr => ∃ k : Nat, k ≤ l1.length ∧ i = .int .i64 k ∧ Below w.heap.size w wr) (fun i _ => l1.length - (intOf i).toNat)
      case atStart => exact ⟨0, Nat.zero_le _, rfl, Below.refl _ _⟩
      case round =>
        obtain ⟨k, hk, rfl, hs⟩ := hrel
        by_cases hlt : k < l1.length
        · obtain ⟨c0, c1, c2, c3, c4⟩ := (H4.out k hlt).below hs.drew h3
          obtain ⟨d0, d1, d2, d3, d4⟩ := (G4.out k hlt).below hs.drew g3
          have hli : (k : Int) < (l1.length : Int) := by omega
          have HE := hide (eqTx_any l1[k] l1[k] wr.drew)
          rw [decide_eq_true rfl] at HE
          generalize l1[k] = p at c0 c1 c2 c3 c4 d0 d1 d2 d3 d4 HE
          obtain ⟨kd, fr, to, am, no⟩ := p
          simp only [txV] at c0 c1 c2 c3 c4 d0 d1 d2 d3 d4 HE
          have hS1 : wr.drew.cell? ⟨b, off + k * 5, none⟩ = some (.int .i64 kd) ∧ wr.drew.cell? ⟨b, off + k * 5 + 1, none⟩ = some (.string fr) ∧ wr.drew.cell? ⟨b, off + k * 5 + 2, none⟩ = some (.string to) ∧ wr.drew.cell? ⟨b, off + k * 5 + 3, none⟩ = some (.int .i64 am) ∧ wr.drew.cell? ⟨b, off + k * 5 + 4, none⟩ = some (.int .i64 no) ∧ wr.drew.cell? ⟨b2, off2 + k * 5, none⟩ = some (.int .i64 kd) ∧ wr.drew.cell? ⟨b2, off2 + k * 5 + 1, none⟩ = some (.string fr) ∧ wr.drew.cell? ⟨b2, off2 + k * 5 + 2, none⟩ = some (.string to) ∧ wr.drew.cell? ⟨b2, off2 + k * 5 + 3, none⟩ = some (.int .i64 am) ∧ wr.drew.cell? ⟨b2, off2 + k * 5 + 4, none⟩ = some (.int .i64 no) := ⟨c0, c1, c2, c3, c4, d0, d1, d2, d3, d4⟩
          clear c0 c1 c2 c3 c4 d0 d1 d2 d3 d4
          go_wp2
          go_region_held_law (fun w' => w'.cell? ⟨b, off + k * 5, none⟩ = some (.int .i64 kd) ∧ w'.cell? ⟨b, off + k * 5 + 1, none⟩ = some (.string fr) ∧ w'.cell? ⟨b, off + k * 5 + 2, none⟩ = some (.string to) ∧ w'.cell? ⟨b, off + k * 5 + 3, none⟩ = some (.int .i64 am) ∧ w'.cell? ⟨b, off + k * 5 + 4, none⟩ = some (.int .i64 no) ∧ w'.cell? ⟨b2, off2 + k * 5, none⟩ = some (.int .i64 kd) ∧ w'.cell? ⟨b2, off2 + k * 5 + 1, none⟩ = some (.string fr) ∧ w'.cell? ⟨b2, off2 + k * 5 + 2, none⟩ = some (.string to) ∧ w'.cell? ⟨b2, off2 + k * 5 + 3, none⟩ = some (.int .i64 am) ∧ w'.cell? ⟨b2, off2 + k * 5 + 4, none⟩ = some (.int .i64 no)) (first | exact hS1 | exact hS2) ((go_at_call 86; refine HE.out.mono ?_; rintro e w2 ⟨rfl, hb2⟩; have hz := hs.size; have hS2 : w2.cell? ⟨b, off + k * 5, none⟩ = some (.int .i64 kd) ∧ w2.cell? ⟨b, off + k * 5 + 1, none⟩ = some (.string fr) ∧ w2.cell? ⟨b, off + k * 5 + 2, none⟩ = some (.string to) ∧ w2.cell? ⟨b, off + k * 5 + 3, none⟩ = some (.int .i64 am) ∧ w2.cell? ⟨b, off + k * 5 + 4, none⟩ = some (.int .i64 no) ∧ w2.cell? ⟨b2, off2 + k * 5, none⟩ = some (.int .i64 kd) ∧ w2.cell? ⟨b2, off2 + k * 5 + 1, none⟩ = some (.string fr) ∧ w2.cell? ⟨b2, off2 + k * 5 + 2, none⟩ = some (.string to) ∧ w2.cell? ⟨b2, off2 + k * 5 + 3, none⟩ = some (.int .i64 am) ∧ w2.cell? ⟨b2, off2 + k * 5 + 4, none⟩ = some (.int .i64 no) := ⟨(hb2.cell (p := ⟨b, off + k * 5, none⟩) (Nat.lt_of_lt_of_le h3 hz)).trans hS1.1, (hb2.cell (p := ⟨b, off + k * 5 + 1, none⟩) (Nat.lt_of_lt_of_le h3 hz)).trans hS1.2.1, (hb2.cell (p := ⟨b, off + k * 5 + 2, none⟩) (Nat.lt_of_lt_of_le h3 hz)).trans hS1.2.2.1, (hb2.cell (p := ⟨b, off + k * 5 + 3, none⟩) (Nat.lt_of_lt_of_le h3 hz)).trans hS1.2.2.2.1, (hb2.cell (p := ⟨b, off + k * 5 + 4, none⟩) (Nat.lt_of_lt_of_le h3 hz)).trans hS1.2.2.2.2.1, (hb2.cell (p := ⟨b2, off2 + k * 5, none⟩) (Nat.lt_of_lt_of_le g3 hz)).trans hS1.2.2.2.2.2.1, (hb2.cell (p := ⟨b2, off2 + k * 5 + 1, none⟩) (Nat.lt_of_lt_of_le g3 hz)).trans hS1.2.2.2.2.2.2.1, (hb2.cell (p := ⟨b2, off2 + k * 5 + 2, none⟩) (Nat.lt_of_lt_of_le g3 hz)).trans hS1.2.2.2.2.2.2.2.1, (hb2.cell (p := ⟨b2, off2 + k * 5 + 3, none⟩) (Nat.lt_of_lt_of_le g3 hz)).trans hS1.2.2.2.2.2.2.2.2.1, (hb2.cell (p := ⟨b2, off2 + k * 5 + 4, none⟩) (Nat.lt_of_lt_of_le g3 hz)).trans hS1.2.2.2.2.2.2.2.2.2⟩))
          go_wp2
          go_roundw
          case rel => exact ⟨k + 1, by omega, by go_num, hs.drew.trans (hb2.mono hs.size)⟩
          case measure => simp [intOf]; omega
        · go_wp2
          go_ret
          exact ⟨rfl, hs⟩
end Go.Proofs.YtcmmdkabocfnfaaGreatDoor

namespace Go.Proofs.YtcmmdkabocfnfaaGreatDoor
open Go.RowKit Go.Sort
set_option linter.unusedVariables false

theorem sameV_regrown {P : Program} {f : FuncId} {args : Array Value} {w : World} {d : Nat} {os : Array Obj} {v : Value}
    (h : Calls P f args (grow (redrawn w d) os) fun e w' => e = .returned v ∧ w' = grow (redrawn w d) os) : Calls P f args (grow (redrawn w d) os) fun e w'' => e = .returned v ∧ ∃ p : Regrown, w'' = grow (redrawn w p.d) p.os :=
  h.mono fun _ _ ⟨he, hw⟩ => ⟨he, ⟨⟨d, os⟩, hw⟩⟩
def vl0 : Vl := (ByteArray.empty, 0)
/-- Whether one who votes is right. -/
def valB (p : Vl) : Bool := nmB p.1 && inB p.2 1 1000000
/-- What the i-th one must be. -/
def vlAt (l : List Vl) (i : Nat) : Bool := valB (l.getD i vl0) && (decide (i = 0) || Op.bytesLess (l.getD (i - 1) vl0).1.toList (l.getD i vl0).1.toList)
def setB (l : List Vl) : Bool := (List.range l.length).all (vlAt l) && inB l.length 1 12
theorem set_no (l : List Vl) (k : Nat) (h : k < l.length) (hk : vlAt l k = false) : setB l = false := by
  unfold setB
  have : (List.range l.length).all (vlAt l) = false := by
    rw [List.all_eq_false]
    exact ⟨k, List.mem_range.2 h, by simp [hk]⟩
  rw [this, Bool.false_and]
theorem set_yes (l : List Vl) (h : ∀ j, j < l.length → vlAt l j = true) : setB l = inB l.length 1 12 := by
  unfold setB
  have : (List.range l.length).all (vlAt l) = true := by
    rw [List.all_eq_true]
    exact fun j hj => h j (List.mem_range.1 hj)
  rw [this, Bool.true_and]
theorem vlAt_eq (l : List Vl) (k : Nat) (a : Vl) (h : k < l.length) (ha : l[k] = a) : vlAt l k = ((nmB a.1 && inB a.2 1 1000000) && (decide (k = 0) || Op.bytesLess (l.getD (k - 1) vl0).1.toList a.1.toList)) := by
  have : l.getD k vl0 = a := by rw [List.getD_eq_getElem?_getD, List.getElem?_eq_getElem h, ← ha]; rfl
  unfold vlAt; rw [this]; rfl

set_option maxRecDepth 20000 in
set_option maxHeartbeats 2000000 in
theorem specSetOk_any (v : Value) (l : List Vl) (w : World) (hr : RdV w v l) (hl : l.length ≤ 4000000) (hall : ∀ a ∈ l, a.1.size ≤ maxLen) :
    Calls Tryz.prog 63 #[v] w fun e w' => e = .returned (.bool (setB l)) ∧ Below w.heap.size w w' := by
  rcases hr with ⟨a, cap, rfl, rfl, -⟩ | ⟨b, off, cap, h0, rfl, h1, h2, h3, h4⟩
  · go_enter Tryz.func63, Tryz.ntmps63
    go_wp2
    refine wp_loop_rounds 1 ?_
    rw [rounds_succ]
    go_wp2_with (go_at_call 58; refine (l1In_any _ _ _ _).mono ?_; rintro e w2 ⟨rfl, rfl⟩)
    go_ret
    exact ⟨rfl, Below.refl _ _⟩
  · have H4 := hide h4
    have Hs := hide hall
    clear h4 hall
    go_enter Tryz.func63, Tryz.ntmps63
    go_wp2
    go_loopw [3] (fun i wr => ∃ k : Nat, k ≤ l.length ∧ i = .int .i64 k ∧ (∀ j, j < k → vlAt l j = true) ∧ Below w.heap.size w wr) (fun i _ => l.length - (intOf i).toNat)
    case atStart => exact ⟨0, Nat.zero_le _, rfl, fun j hj => by omega, Below.refl _ _⟩
    case round =>
      obtain ⟨k, hk, rfl, hok, hb⟩ := hrel
      have Hall := hide hok
      clear hok
      by_cases hlt : k < l.length
      · obtain ⟨d0, d1⟩ := H4.out k hlt
        have c0 := (hb.cell (p := ⟨b, off + k * 2, none⟩) h3).trans d0
        have c1 := (hb.cell (p := ⟨b, off + k * 2 + 1, none⟩) h3).trans d1
        have hsz := Hs.out l[k] (List.getElem_mem hlt)
        have Hok := hide (vlAt_eq l k l[k] hlt rfl)
        have Hno := hide (set_no l k hlt)
        have hli : (k : Int) < (l.length : Int) := by omega
        have Hnx : Hid (vlAt l k = true → ∀ j, j < k + 1 → vlAt l j = true) := hide (fun h j hj => by
          by_cases e : j = k
          · subst e; exact h
          · exact Hall.out j (by omega))
        have hprev : Hid (k ≥ 1 → wr.cell? ⟨b, off + (k - 1) * 2, none⟩ = some (.string (l.getD (k - 1) vl0).1)) := hide (fun hk1 => by
          rw [List.getD_eq_getElem?_getD, List.getElem?_eq_getElem (show k - 1 < l.length by omega)]
          exact (hb.cell (p := ⟨b, off + (k - 1) * 2, none⟩) h3).trans (H4.out (k - 1) (by omega)).1)
        clear d0 d1
        generalize l[k] = ak at c0 c1 Hok hsz
        generalize (l.getD (k - 1) vl0).1 = pn at hprev Hok
        obtain ⟨nm, wt⟩ := ak
        simp only at c0 c1 Hok hsz
        have HN := hide (fun (d : Nat) (os : Array Obj) => sameV_regrown (specNameOk_any nm (grow (redrawn wr d) os) hsz))
        have HI := hide (fun (d : Nat) (os : Array Obj) => sameV_regrown (l1In_any wt 1 1000000 (grow (redrawn wr d) os)))
        have g0 := cell_regrown c0
        have g1 := cell_regrown c1
        clear c0 c1 hsz
        cases hn : nmB nm
        · have hf := hide (Hno.out (by rw [Hok.out, hn]; rfl))
          rw [hn] at HN
          clear hn hprev Hnx
          go_wp2
          refine wp_region_quiet_below (by kernel_rfl) (by kernel_rfl) ?_
          repeat (go_big_quiet_step ((first | (go_at_call 59; exact HN.out _ _) | (go_at_call 58; exact HI.out _ _))))
          refine wpQuiet_nil ?_
          intro _ hw'
          obtain ⟨⟨dq, osq⟩, hw''⟩ := hw'
          subst hw''
          go_wp2
          go_ret
          exact ⟨ret_bool hf.out.symm, hb.trans ((below_regrown wr dq osq).mono hb.size)⟩
        · rw [hn] at HN
          cases hi : inB wt 1 1000000
          · have hf := hide (Hno.out (by rw [Hok.out, hn, hi]; rfl))
            rw [hi] at HI
            clear hn hi hprev Hnx
            go_wp2
            refine wp_region_quiet_below (by kernel_rfl) (by kernel_rfl) ?_
            repeat (go_big_quiet_step ((first | (go_at_call 59; exact HN.out _ _) | (go_at_call 58; exact HI.out _ _))))
            refine wpQuiet_nil ?_
            intro _ hw'
            obtain ⟨⟨dq, osq⟩, hw''⟩ := hw'
            subst hw''
            go_wp2
            go_ret
            exact ⟨ret_bool hf.out.symm, hb.trans ((below_regrown wr dq osq).mono hb.size)⟩
          · rw [hi] at HI
            by_cases hk1 : k < 1
            · have hd : decide (0 < k) = false := by simp; omega
              have hd2 : decide ((0 : Int) < (k : Int)) = false := by simp; omega
              have Hnx := hide (Hnx.out (by rw [Hok.out, hn, hi, show k = 0 from by omega]; rfl))
              clear hn hi hprev
              go_wp2
              refine wp_region_quiet_below (by kernel_rfl) (by kernel_rfl) ?_
              repeat (go_big_quiet_step ((first | (go_at_call 59; exact HN.out _ _) | (go_at_call 58; exact HI.out _ _))))
              refine wpQuiet_nil ?_
              intro _ hw'
              obtain ⟨⟨dq, osq⟩, hw''⟩ := hw'
              subst hw''
              go_wp2
              go_roundw
              case rel => exact ⟨k + 1, by omega, by go_num, Hnx.out, hb.trans ((below_regrown wr dq osq).mono hb.size)⟩
              case measure => simp [intOf]; omega
            · have hcp := cell_regrown (hprev.out (by omega))
              clear hprev
              have hpos : (0 : Int) < (k : Int) := by omega
              have hposN : 0 < k := by omega
              have hd1 : decide (0 < k) = true := by simp; omega
              have hix : ((k : Int) - 1).toNat = k - 1 := by omega
              have hix1 : (0 : Int) ≤ (k : Int) - 1 := by omega
              have hix2 : (k : Int) - 1 < (l.length : Int) := by omega
              cases hless : Op.bytesLess pn.toList nm.toList
              · have hf := hide (Hno.out (by rw [Hok.out, hn, hi, hless]; simp; omega))
                clear hn hi Hnx
                go_wp2
                refine wp_region_quiet_below (by kernel_rfl) (by kernel_rfl) ?_
                repeat (go_big_quiet_step ((first | (go_at_call 59; exact HN.out _ _) | (go_at_call 58; exact HI.out _ _))))
                refine wpQuiet_nil ?_
                intro _ hw'
                obtain ⟨⟨dq, osq⟩, hw''⟩ := hw'
                subst hw''
                go_wp2
                go_ret
                exact ⟨ret_bool hf.out.symm, hb.trans ((below_regrown wr dq osq).mono hb.size)⟩
              · have Hnx := hide (Hnx.out (by rw [Hok.out, hn, hi, hless]; simp))
                clear hn hi
                go_wp2
                refine wp_region_quiet_below (by kernel_rfl) (by kernel_rfl) ?_
                repeat (go_big_quiet_step ((first | (go_at_call 59; exact HN.out _ _) | (go_at_call 58; exact HI.out _ _))))
                refine wpQuiet_nil ?_
                intro _ hw'
                obtain ⟨⟨dq, osq⟩, hw''⟩ := hw'
                subst hw''
                go_wp2
                go_roundw
                case rel => exact ⟨k + 1, by omega, by go_num, Hnx.out, hb.trans ((below_regrown wr dq osq).mono hb.size)⟩
                case measure => simp [intOf]; omega
      · have hf := hide (set_yes l (fun j hj => Hall.out j (by omega)))
        go_wp2_with (go_at_call 58; refine (l1In_any _ _ _ _).mono ?_; rintro e w2 ⟨rfl, rfl⟩)
        go_ret
        exact ⟨ret_bool hf.out.symm, hb⟩
end Go.Proofs.YtcmmdkabocfnfaaGreatDoor
