/- The model's certificates: what is right. The model's certificates of leavings: what is right. The laws' marks on texts: each is written over by a text of its own number; nothing else turns. -/
import Derived.Test.YtbjeonnaannofaaZaCtVal
import Derived.Test.YtbjeonnaannofaaZaVsQuo
import Derived.Test.YtbjeonnaannofaaZaNamesOk
import Derived.Lib.QuietBelow
import Derived.BigQuiet
import Derived.Test.YtbjeonnaannofaaZaStrs
import Derived.Laws.IdiomStrings
namespace Go.Proofs.Ytbjeonnaannofaa
open Go.RowKit
set_option linter.unusedVariables false

/-- All that is weighed is not great. -/
def ModV (l : List Vl) : Prop := (0 ≤ totalV l ∧ totalV l ≤ 1000000000) ∧ ∀ ns, 0 ≤ weightV l ns ∧ weightV l ns ≤ 1000000000
/-- A certificate's value: its round, its block, its names being vw. -/
def qcV (r b : Int) (vw : Value) : Value := .agg #[.int .i64 r, .int .i64 b, vw]
def rootB (r b : Int) (ns : List ByteArray) : Bool := decide (r = 0) && (decide (b = -1) && decide (ns.length = 0))
def allV (l : List Vl) (ns : List ByteArray) : Bool := ns.all (fun s => hasN (l.map (·.1)) s) && nmsB ns
def quoB (l : List Vl) (ns : List ByteArray) : Bool := decide (2 * totalV l < 3 * weightV l ns)
/-- Whether a certificate is right. -/
def qcB (l : List Vl) (r b : Int) (ns : List ByteArray) : Bool := rootB r b ns || (inB r 1 10000 && (inB b 0 100000 && (allV l ns && quoB l ns)))
set_option maxRecDepth 20000 in
set_option maxHeartbeats 1000000 in
theorem specL8Root_any (r b : Int) (vw : Value) (ws : List ByteArray) (w : World) (hrw : RdS w vw ws) (hlw : ws.length ≤ 4000000) :
    Calls Try.prog 55 #[qcV r b vw] w fun e w' => e = .returned (.bool (rootB r b ws)) ∧ Below w.heap.size w w' := by
  obtain ⟨a, c, rfl⟩ := hrw.shape
  clear hrw
  simp only [qcV]
  have HB := hide ((Below.refl _ w).alloc (Nat.le_refl _) (.cells #[.int .i64 r, .int .i64 b, .slice a ws.length c] 31))
  by_cases h1 : r = 0
  · by_cases h2 : b = -1
    · by_cases h3 : ws.length = 0
      · have Hf : Hid (rootB r b ws = true) := hide (by unfold rootB; rw [decide_eq_true h1, decide_eq_true h2, decide_eq_true h3]; rfl)
        have h3i : ((ws.length : Int) == 0) = true := by rw [beq_iff_eq]; omega
        subst h1 h2
        generalize rootB 0 (-1) ws = X at Hf ⊢
        clear h3
        go_enter Try.func55, Try.ntmps55
        go_wp2
        go_ret
        exact ⟨ret_bool Hf.out.symm, HB.out⟩
      · have Hf : Hid (rootB r b ws = false) := hide (by unfold rootB; rw [decide_eq_false h3, Bool.and_false, Bool.and_false])
        have h3i : ((ws.length : Int) == 0) = false := by rw [beq_eq_false_iff_ne]; omega
        subst h1 h2
        generalize rootB 0 (-1) ws = X at Hf ⊢
        go_enter Try.func55, Try.ntmps55
        go_wp2
        go_ret
        exact ⟨ret_bool Hf.out.symm, HB.out⟩
    · have Hf : Hid (rootB r b ws = false) := hide (by unfold rootB; rw [decide_eq_false h2, Bool.false_and, Bool.and_false])
      have h2i : (b == -1) = false := by rw [beq_eq_false_iff_ne]; exact h2
      subst h1
      generalize rootB 0 b ws = X at Hf ⊢
      clear h2
      go_enter Try.func55, Try.ntmps55
      go_wp2
      go_ret
      exact ⟨ret_bool Hf.out.symm, HB.out⟩
  · have Hf : Hid (rootB r b ws = false) := hide (by unfold rootB; rw [decide_eq_false h1, Bool.false_and])
    have h1i : (r == 0) = false := by rw [beq_eq_false_iff_ne]; exact h1
    generalize rootB r b ws = X at Hf ⊢
    clear h1
    go_enter Try.func55, Try.ntmps55
    go_wp2
    go_ret
    exact ⟨ret_bool Hf.out.symm, HB.out⟩
end Go.Proofs.Ytbjeonnaannofaa

namespace Go.Proofs.Ytbjeonnaannofaa
open Go.RowKit Go.Sort
set_option linter.unusedVariables false

def noneB (r : Int) (ws : List ByteArray) (hs : List Int) : Bool := decide (r = 0) && (decide (ws.length = 0) && decide (hs.length = 0))
def hisB (r : Int) (hs : List Int) : Bool := hs.all (fun h => inB h 0 (r - 1))
/-- Whether a certificate of leavings is right. -/
def tcB (l : List Vl) (r : Int) (ws : List ByteArray) (hs : List Int) : Bool := noneB r ws hs || (inB r 1 10000 && (allV l ws && (quoB l ws && (decide (hs.length = ws.length) && hisB r hs))))
set_option maxRecDepth 20000 in
set_option maxHeartbeats 1000000 in
theorem specL8None_any (r : Int) (vw vh : Value) (ws : List ByteArray) (hs : List Int) (w : World) (hrw : RdS w vw ws) (hrh : RdI w vh hs) (hlw : ws.length ≤ 4000000) (hlh : hs.length ≤ 4000000) :
    Calls Try.prog 143 #[tcV r vw vh] w fun e w' => e = .returned (.bool (noneB r ws hs)) ∧ Below w.heap.size w w' := by
  obtain ⟨a, c, rfl⟩ := hrw.shape
  obtain ⟨a2, c2, rfl⟩ := hrh.shape
  clear hrw hrh
  simp only [tcV]
  have HB := hide ((Below.refl _ w).alloc (Nat.le_refl _) (.cells #[.int .i64 r, .slice a ws.length c, .slice a2 hs.length c2] 33))
  by_cases h1 : r = 0
  · by_cases h2 : ws.length = 0
    · by_cases h3 : hs.length = 0
      · have Hf : Hid (noneB r ws hs = true) := hide (by unfold noneB; rw [decide_eq_true h1, decide_eq_true h2, decide_eq_true h3]; rfl)
        have h2i : ((ws.length : Int) == 0) = true := by rw [beq_iff_eq]; omega
        have h3i : ((hs.length : Int) == 0) = true := by rw [beq_iff_eq]; omega
        subst h1
        generalize noneB 0 ws hs = X at Hf ⊢
        clear h2 h3
        go_enter Try.func143, Try.ntmps143
        go_wp2
        go_ret
        exact ⟨ret_bool Hf.out.symm, HB.out⟩
      · have Hf : Hid (noneB r ws hs = false) := hide (by unfold noneB; rw [decide_eq_false h3, Bool.and_false, Bool.and_false])
        have h2i : ((ws.length : Int) == 0) = true := by rw [beq_iff_eq]; omega
        have h3i : ((hs.length : Int) == 0) = false := by rw [beq_eq_false_iff_ne]; omega
        subst h1
        generalize noneB 0 ws hs = X at Hf ⊢
        clear h2 h3
        go_enter Try.func143, Try.ntmps143
        go_wp2
        go_ret
        exact ⟨ret_bool Hf.out.symm, HB.out⟩
    · have Hf : Hid (noneB r ws hs = false) := hide (by unfold noneB; rw [decide_eq_false h2, Bool.false_and, Bool.and_false])
      have h2i : ((ws.length : Int) == 0) = false := by rw [beq_eq_false_iff_ne]; omega
      subst h1
      generalize noneB 0 ws hs = X at Hf ⊢
      clear h2
      go_enter Try.func143, Try.ntmps143
      go_wp2
      go_ret
      exact ⟨ret_bool Hf.out.symm, HB.out⟩
  · have Hf : Hid (noneB r ws hs = false) := hide (by unfold noneB; rw [decide_eq_false h1, Bool.false_and])
    have h1i : (r == 0) = false := by rw [beq_eq_false_iff_ne]; exact h1
    generalize noneB r ws hs = X at Hf ⊢
    clear h1
    go_enter Try.func143, Try.ntmps143
    go_wp2
    go_ret
    exact ⟨ret_bool Hf.out.symm, HB.out⟩
theorem his_no (r : Int) (hs : List Int) (k : Nat) (h : k < hs.length) (hk : inB hs[k] 0 (r - 1) = false) : hisB r hs = false := by
  unfold hisB
  rw [List.all_eq_false]
  exact ⟨hs[k], List.getElem_mem _, by simp [hk]⟩
theorem his_yes (r : Int) (hs : List Int) (h : ∀ j (hj : j < hs.length), inB hs[j] 0 (r - 1) = true) : hisB r hs = true := by
  unfold hisB
  rw [List.all_eq_true]
  intro x hx
  obtain ⟨j, hj, rfl⟩ := List.mem_iff_getElem.1 hx
  exact h j hj
theorem RdI.at {w : World} {a : Option Addr} {cap k : Nat} {l : List Int} (h : RdI w (.slice a l.length cap) l) (hk : k < l.length) :
    ∃ b off, a = some ⟨b, off, none⟩ ∧ l.length ≤ cap ∧ cap ≤ maxLen ∧ b < w.heap.size ∧ w.cell? ⟨b, off + k, none⟩ = some (.int .i64 l[k]) := by
  rcases h with ⟨a', cap', e, rfl, -⟩ | ⟨b, off, cap', h0, e, h1, h2, h3, h4⟩
  · simp at hk
  · simp only [Value.slice.injEq] at e
    obtain ⟨rfl, -, rfl⟩ := e
    exact ⟨b, off, rfl, h1, h2, h3, h4 k hk⟩
theorem sameC_regrown {P : Program} {f : FuncId} {args : Array Value} {w : World} {d : Nat} {os : Array Obj} {v : Value}
    (h : Calls P f args (grow (redrawn w d) os) fun e w' => e = .returned v ∧ w' = grow (redrawn w d) os) : Calls P f args (grow (redrawn w d) os) fun e w'' => e = .returned v ∧ ∃ p : Regrown, w'' = grow (redrawn w p.d) p.os :=
  h.mono fun _ _ ⟨he, hw⟩ => ⟨he, ⟨⟨d, os⟩, hw⟩⟩
end Go.Proofs.Ytbjeonnaannofaa

namespace Go.Proofs.Ytbjeonnaannofaa
open Go.RowKit
set_option linter.unusedVariables false

def dg : Nat → Nat → List UInt8 → List UInt8
  | 0, _, acc => acc
  | f + 1, k, acc => if k = 0 then acc else dg f (k / 10) (UInt8.ofNat (48 + k % 10) :: acc)
def mtx (k : Nat) : ByteArray := ⟨(109 :: dg k k []).toArray⟩

theorem dg_step (f k : Nat) (acc : List UInt8) (h : 0 < k) (hf : k ≤ f) : dg f k acc = dg (f - 1) (k / 10) (UInt8.ofNat (48 + k % 10) :: acc) := by
  cases f with
  | zero => omega
  | succ f => rw [dg, if_neg (by omega)]; rfl
theorem dg_zero (f : Nat) (acc : List UInt8) : dg f 0 acc = acc := by
  cases f with
  | zero => rfl
  | succ f => rw [dg, if_pos rfl]

theorem str_one (w : World) (x : Int) (c : UInt8) (h : x = (c.toNat : Int)) : (convert 22 9 (.slice (some ⟨w.heap.size, 0, none⟩) 1 1)).run Try.prog (w.alloc (.cells #[.int .u8 x] 5)) = .ok (.string ⟨[c].toArray⟩) (w.alloc (.cells #[.int .u8 x] 5)) := by
  have := run_convert_bytes_back (P := Try.prog) (w.alloc (.cells #[.int .u8 x] 5)) 22 9 5 ⟨w.heap.size, 0, none⟩ 1 [c] Try.underlying22 Try.underlying5 Try.underlying9 (by
    intro j hj
    simp only [List.length_cons, List.length_nil] at hj
    have : j = 0 := by omega
    subst this
    simp [Addr.add, World.cell?_alloc_at, h])
  simpa using this

theorem str_app (c : UInt8) (acc : List UInt8) : (⟨#[c]⟩ ++ ⟨acc.toArray⟩ : ByteArray) = ⟨(c :: acc).toArray⟩ := by
  apply ByteArray.ext
  simp

theorem byte_of' (m : Nat) (h : m < 256) : (m : Int) = ((UInt8.ofNat m).toNat : Int) := by
  rw [UInt8.toNat_ofNat']; omega

set_option maxRecDepth 20000 in
set_option maxHeartbeats 400000 in
theorem markText_any (k : Nat) (w : World) (h0 : 0 < k) (hk : k ≤ 200000000) :
    Calls Try.prog 66 #[.int .i64 (k : Int)] w fun e w' => e = .returned (.string (mtx k)) ∧ Below w.heap.size w w' := by
  have HM : Hid (mtx k = ⟨(109 :: dg k k []).toArray⟩) := hide rfl
  go_enter Try.func66, Try.ntmps66
  go_wp2
  go_loopw [0, 3] (fun kv ov wr => ∃ (j f : Nat) (acc : List UInt8), kv = .int .i64 (j : Int) ∧ ov = .string ⟨acc.toArray⟩ ∧ dg k k [] = dg f j acc ∧ j ≤ f ∧ acc.length + f = k ∧ Below w.heap.size w wr) (fun kv _ _ => (intOf kv).toNat)
  case atStart => exact ⟨k, k, [], rfl, rfl, rfl, Nat.le_refl _, by simp, Below.refl _ _⟩
  case round =>
    obtain ⟨j, f, acc, rfl, rfl, hd, hjf, haf, hb⟩ := hrel
    have Hd := hide hd
    have Haf := hide haf
    have hal : acc.length ≤ 200000000 := by omega
    have hfl : f ≤ 200000000 := by omega
    have hsz := hb.size
    clear hd haf
    by_cases hj : 0 < j
    · have Hst := hide (dg_step f j acc hj hjf)
      obtain ⟨C, hC, hC2⟩ : ∃ C : Nat, 48 + j % 10 = C ∧ C < 256 := ⟨_, rfl, by omega⟩
      have k1 := str_one wr (48 + (j : Int) % 10) (UInt8.ofNat C) (by have := byte_of' C hC2; omega)
      rw [hC] at Hst
      clear hC
      have Hb := hide hb
      clear hb
      go_wp2
      go_roundw
      case rel => exact ⟨j / 10, f - 1, UInt8.ofNat C :: acc, by go_num, by rw [str_app], Hd.out.trans Hst.out, by omega, by have := Haf.out; simp; omega, Hb.out.alloc hsz _⟩
      case measure => simp [intOf]; omega
    · have hj0 : j = 0 := by omega
      subst hj0
      have Hz := hide (dg_zero f acc)
      go_wp2
      go_ret
      exact ⟨by rw [HM.out, Hd.out, Hz.out, ← str_app]; rfl, hb⟩

def mkS (k n : Nat) : List ByteArray := (List.range n).map (fun i => mtx (k + i))
theorem mkS_len (k n : Nat) : (mkS k n).length = n := by simp [mkS]
theorem mkS_at (k n j : Nat) (h : j < (mkS k n).length) : (mkS k n)[j] = mtx (k + j) := by simp [mkS]

theorem own_below {B base : Nat} {w w' : World} {e : TypeId} {size : Nat} {v : Value} {n : Nat} {xs : List Value} (h : w.ownsRow base e size v n xs) (hb : Below B w w') (hB : w.heap.size ≤ B) : w'.ownsRow base e size v n xs := by
  refine ⟨h.1, ?_⟩
  rcases h.2 with h' | ⟨g, cap, cur, hv, hbb, hg, r⟩
  · exact .inl h'
  · refine .inr ⟨g, cap, cur, hv, hbb, ?_, r⟩
    have hlt : g < w.heap.size := (Array.getElem?_eq_some_iff.1 hg).1
    rw [hb.block g (by omega)]; exact hg
theorem grown_below {w w' : World} (row : Option Nat) (h : Below w.heap.size w w') : w.grownBy w' row :=
  ⟨h.os, h.tape, h.output, h.size, fun k hk _ => h.block k hk⟩
theorem grownS_trans {a b c : World} {row : Option Nat} (h : a.grownBy b row) (k : b.grownBy c row) : a.grownBy c row :=
  ⟨k.os.trans h.os, k.tape.trans h.tape, k.output.trans h.output, Nat.le_trans h.size k.size, fun i hi hr => (k.block i (Nat.lt_of_lt_of_le hi h.size) hr).trans (h.block i hi hr)⟩

set_option maxRecDepth 20000 in
set_option maxHeartbeats 400000 in
theorem markStringS_any (v : Value) (l : List ByteArray) (k base : Nat) (w : World) (ho : OwnS base w v l) (hl : l.length ≤ 10000000) (hk : k ≤ 100000000) (hk0 : 0 < k) :
    Calls Try.prog 67 #[v, .int .i64 (k : Int)] w fun e w' => e = .returned (.int .i64 ((k + l.length : Nat) : Int)) ∧ OwnS base w' v (mkS k l.length) ∧ w.grownBy w' v.ownBlock := by
  have hML := mkS_len k l.length
  have hMA := mkS_at k l.length
  generalize hMd : mkS k l.length = M at hML hMA
  clear hMd
  rcases ho.2 with ⟨rfl, hn⟩ | ⟨g, cap, cur, rfl, _, _, _, hcm, _, _⟩
  · have e : l = [] := List.length_eq_zero_iff.1 hn
    subst e
    have e2 : M = [] := List.length_eq_zero_iff.1 hML
    subst e2
    have Ho := hide ho
    clear ho
    go_enter Try.func67, Try.ntmps67
    go_wp2
    refine wp_loop_rounds 1 ?_
    rw [rounds_succ]
    go_wp2
    go_ret
    exact ⟨rfl, Ho.out, World.grownBy.refl _ _⟩
  · have Ho := hide ho
    have HML := hide hML
    have HMA := hide hMA
    have hMl : l.length ≤ M.length := by omega
    have hMg : M.length ≤ l.length := by omega
    clear ho hML hMA
    go_enter Try.func67, Try.ntmps67
    go_wp2
    go_loopw [1, 5] (fun kv iv wr => ∃ j : Nat, j ≤ l.length ∧ iv = .int .i64 (j : Int) ∧ kv = .int .i64 ((k + j : Nat) : Int) ∧ wr.ownsRow base 9 1 (.slice (some ⟨g, 0, none⟩) l.length cap) l.length ((M.take j ++ l.drop j).map Value.string) ∧ w.grownBy wr (some g))
      (fun _ iv _ => l.length - (intOf iv).toNat)
    case atStart => exact ⟨0, Nat.zero_le _, rfl, rfl, by simpa [OwnS] using Ho.out, World.grownBy.refl _ _⟩
    case round =>
      obtain ⟨j, hj, rfl, rfl, hown, hgr⟩ := hrel
      by_cases hlt : j < l.length
      · have hjM : j < M.length := by omega
        obtain ⟨K, hK⟩ : ∃ K : Nat, k + j = K := ⟨_, rfl⟩
        have hK2 : K ≤ 200000000 := by omega
        have hK0 : 0 < K := by omega
        have Hm := hide (fun w => markText_any K w hK0 hK2)
        have eM : M[j] = mtx K := by rw [HMA.out j hjM, hK]
        rw [hK]
        have HK := hide hK
        clear hK
        have Hown := hide hown
        have Hgr := hide hgr
        clear hown hgr
        go_wp2_with fail
        refine (Hm.out _).mono ?_
        rintro e w2 ⟨rfl, hb2⟩
        have hown2 := own_below Hown.out hb2 (Nat.le_refl _)
        have hf := hown2.frozenAt j
        have hd := hown2.cellAt j (by omega)
        obtain ⟨u, hu⟩ : ∃ u, ((M.take j ++ l.drop j).map Value.string)[j]? = some u := ⟨_, List.getElem?_eq_getElem (by simp; omega)⟩
        rw [hu] at hd
        have hst := hown2.stored j (.string M[j])
        rw [gen_set M l Value.string j HML.out hjM, eM] at hst
        have Hst := hide hst
        have Hb2 := hide hb2
        clear hst hown2 hu eM hb2
        go_wp2
        go_roundw
        case rel => exact ⟨j + 1, by omega, by go_num, by rw [show k + (j + 1) = K + 1 from by have := HK.out; omega]; go_num, Hst.out.1, grownS_trans (grownS_trans Hgr.out (grown_below _ Hb2.out)) Hst.out.2⟩
        case measure => simp [intOf]; omega
      · have e : M.take j ++ l.drop j = M := by rw [List.take_of_length_le (by omega), List.drop_of_length_le (by omega), List.append_nil]
        rw [e] at hown
        have ho' : OwnS base wr (.slice (some ⟨g, 0, none⟩) l.length cap) M := by
          unfold OwnS
          rw [HML.out]
          exact hown
        have e2 : j = l.length := by omega
        have Ho' := hide ho'
        have Hgr := hide hgr
        clear ho' hgr hown e
        subst e2
        go_wp2
        go_ret
        exact ⟨rfl, Ho'.out, Hgr.out⟩
end Go.Proofs.Ytbjeonnaannofaa
