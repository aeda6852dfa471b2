/- The model's signatures of a certificate, put behind others. -/
import Derived.Test.YtkidfkngehcjgaaZsSgMem
import Derived.Test.YtkidfkngehcjgaaZsRot
import Derived.Test.YtkidfkngehcjgaaZsTxVal
namespace Go.Proofs.Ytkidfkngehcjgaa
open Go.RowKit
set_option linter.unusedVariables false
/-- Of a Qc: each of its names. -/
def qcS (ep r k : Int) (ws : List ByteArray) : List Sg := ws.map (fun n => (1, ep, r, k, n))
/-- Of a Tc: each of its names, with its High. -/
def tcS (ep r : Int) (ws : List ByteArray) (hs : List Int) : List Sg := (List.zip ws hs).map (fun p => (2, ep, r, p.2, p.1))
theorem qcS_len (ep r k : Int) (ws : List ByteArray) : (qcS ep r k ws).length = ws.length := by simp [qcS]
theorem qcS_snoc (ep r k : Int) (ws : List ByteArray) (i : Nat) (h : i < ws.length) : qcS ep r k (ws.take (i + 1)) = qcS ep r k (ws.take i) ++ [(1, ep, r, k, ws[i])] := by
  unfold qcS
  rw [List.take_succ_eq_append_getElem h, List.map_append]
  rfl
theorem tcS_len (ep r : Int) (ws : List ByteArray) (hs : List Int) : (tcS ep r ws hs).length ≤ ws.length := by simp [tcS]; omega
theorem tcS_snoc (ep r : Int) (ws : List ByteArray) (hs : List Int) (i : Nat) (h : i < ws.length) (h2 : i < hs.length) : tcS ep r (ws.take (i + 1)) (hs.take (i + 1)) = tcS ep r (ws.take i) (hs.take i) ++ [(2, ep, r, hs[i], ws[i])] := by
  rw [List.take_succ_eq_append_getElem h, List.take_succ_eq_append_getElem h2]
  simp only [tcS]
  rw [List.zip_append (by simp; omega)]
  simp
theorem zip_cut {α β : Type} : ∀ (i : Nat) (a : List α) (b : List β), (a.length ≤ i ∨ b.length ≤ i) → (a.take i).zip (b.take i) = a.zip b
  | 0, a, b, h => by
    rcases h with h | h
    · rw [List.length_eq_zero_iff.1 (Nat.le_zero.1 h)]; simp
    · rw [List.length_eq_zero_iff.1 (Nat.le_zero.1 h)]; simp
  | i + 1, [], b, _ => by simp
  | i + 1, x :: a, [], _ => by simp
  | i + 1, x :: a, y :: b, h => by simp only [List.take_succ_cons, List.zip_cons_cons]; rw [zip_cut i a b (by simpa using h)]
theorem tcS_end (ep r : Int) (ws : List ByteArray) (hs : List Int) (i : Nat) (h : ws.length ≤ i ∨ hs.length ≤ i) : tcS ep r (ws.take i) (hs.take i) = tcS ep r ws hs := by
  unfold tcS
  rw [zip_cut i ws hs h]
theorem grown_blk {W V : World} {B : Nat} {t : TypeId} {cs : List Value} {row : Option Nat} (h : Blk W B t cs) (hg : W.grownBy V row) (hn : row ≠ some B) : Blk V B t cs := (hg.block B h.lt (fun e => hn e.symm)).trans h
theorem Blk.drewR {W : World} {B : Nat} {t : TypeId} {cs : List Value} (h : Blk W B t cs) : Blk W.drew B t cs := h
set_option maxRecDepth 20000 in
set_option maxHeartbeats 2000000 in
theorem specQcS_any (vo vs : Value) (out : List Sg) (ep r k : Int) (ws : List ByteArray) (base : Nat) (w : World) (ho : OwnSg 44 base w vo out) (hbs : base ≤ w.heap.size) (hol : out.length + ws.length ≤ 50000000) (hr : ∀ V, Below base w V → RdS V vs ws) :
    Calls Try.prog 27 #[vo, .int .i64 ep, .agg #[.int .i64 r, .int .i64 k, vs]] w fun e w' => ∃ v', e = .returned v' ∧ OwnSg 44 base w' v' (out ++ qcS ep r k ws) ∧ Below base w w' := by
  obtain ⟨as_, cs, rfl⟩ := (hr w (Below.refl _ w)).shape
  obtain ⟨w1, hw1⟩ : ∃ w1, w.alloc (.cells #[.int .i64 r, .int .i64 k, .slice as_ ws.length cs] 32) = w1 := ⟨_, rfl⟩
  have hb1 : Below w.heap.size w w1 := by rw [← hw1]; exact (Below.refl _ w).alloc (Nat.le_refl _) _
  have k1 : Blk w1 w.heap.size 32 [.int .i64 r, .int .i64 k, .slice as_ ws.length cs] := by rw [← hw1]; exact Blk.new w _ _
  have Hr := hide hr
  have Ho := hide (ho.below hb1 (Nat.le_refl _))
  have Hne : Hid (∀ g, vo.ownBlock = some g → g ≠ w.heap.size) := hide (fun g hg e => by have := ho.lt g hg; omega)
  have K1 := hide k1
  have Hb1 := hide (hb1.mono hbs)
  clear hr ho k1 hb1
  go_enter Try.func27, Try.ntmps27
  go_wp2
  go_loopw [0, 7] (fun ov iv wr => ∃ (i : Nat), i ≤ ws.length ∧ iv = .int .i64 (i : Int) ∧ OwnSg 44 base wr ov (out ++ qcS ep r k (ws.take i)) ∧ (∀ g, ov.ownBlock = some g → g ≠ w.heap.size) ∧ Blk wr w.heap.size 32 [.int .i64 r, .int .i64 k, .slice as_ ws.length cs] ∧ Below base w wr) (fun _ iv _ => ws.length - (intOf iv).toNat)
  case atStart => exact ⟨0, Nat.zero_le _, rfl, by simpa [qcS] using Ho.out, Hne.out, K1.out, Hb1.out⟩
  case round =>
    obtain ⟨i, hi, rfl, ho, hne, kk, hb⟩ := hrel
    clear Ho Hne K1 Hb1
    have x0 := kk.cell 0
    have x1 := kk.cell 1
    have x2 := kk.cell 2
    simp only [List.getElem?_cons_zero, List.getElem?_cons_succ] at x0 x1 x2
    have hlen := qcS_len ep r k (ws.take i)
    have htk : (ws.take i).length ≤ ws.length := by simp; omega
    have hwr := hb.size
    by_cases hlt : i < ws.length
    · have hli : (i : Int) < (ws.length : Int) := by omega
      obtain ⟨b, off, rfl, hc1, hc2, hbw, hat⟩ := (Hr.out wr hb).at hlt
      have Hsn := hide (qcS_snoc ep r k ws i hlt)
      have Hat := hide (fun V hV => (Hr.out V hV).at hlt)
      generalize hnm : ws[i] = nm at hat Hsn Hat
      generalize qcS ep r k (ws.take i) = S at ho hlen Hsn
      have Ho := hide ho
      have Hb := hide hb
      have Kk := hide kk
      have Hne := hide hne
      have hsl : (out ++ S).length ≤ 50000000 := by rw [List.length_append]; omega
      have hk1 := kk.lt
      clear ho hb kk hne hlen
      go_wp2
      go_region_held_law (fun w' => w'.cell? ⟨w.heap.size, 0, none⟩ = some (.int .i64 r) ∧ w'.cell? ⟨w.heap.size, 1, none⟩ = some (.int .i64 k) ∧ w'.cell? ⟨w.heap.size, 2, none⟩ = some (.slice (some ⟨b, off, none⟩) ws.length cs) ∧ w'.cell? ⟨b, off + i, none⟩ = some (.string nm)) (go_keep)
        ((refine step_appSig rfl _ _ rfl base u0 wr.heap.size (out ++ S) (1, ep, r, k, nm) (by rfl) (by rfl) (Ho.out.alloc _).drew (Blk.newR wr _ (sgC (1, ep, r, k, nm)) _ rfl).drewR (by omega) (by simp; omega) ?_; intro v3 w3 ho3 hg3 hl3; have hbB : Below base wr w3 := (((Below.refl base wr).alloc (by omega) _).drew).grown hg3 (by simp; omega) (fun g hg => Ho.out.ge g hg); have k3 := grown_blk (Kk.out.below (((Below.refl _ wr).alloc (Nat.le_refl _) _).drew) Kk.out.lt) hg3 (fun e => Hne.out _ e rfl); have y0 := k3.cell 0; have y1 := k3.cell 1; have y2 := k3.cell 2; simp only [List.getElem?_cons_zero, List.getElem?_cons_succ] at y0 y1 y2; have y3 : w3.cell? ⟨b, off + i, none⟩ = some (.string nm) := (by obtain ⟨b', off', e, -, -, -, h⟩ := Hat.out w3 (Hb.out.trans hbB); cases e; exact h)))
      have hne3 : ∀ g, v3.ownBlock = some g → g ≠ w.heap.size := fun g hg e => by
        rcases hl3 with h | h
        · exact Hne.out g (h ▸ hg) e
        · rw [hg] at h; simp at h; omega
      go_wp2
      go_roundw
      case rel => exact ⟨i + 1, by omega, by go_num, by rw [Hsn.out, ← List.append_assoc]; exact ho3, hne3, k3, Hb.out.trans hbB⟩
      case measure => simp [intOf]; omega
    · have ei : i = ws.length := by omega
      subst ei
      rw [List.take_length] at ho
      have Ho := hide ho
      have Hb := hide hb
      clear ho hb kk hne hlen
      go_wp2
      go_ret
      exact ⟨_, rfl, Ho.out, Hb.out⟩
set_option maxRecDepth 20000 in
set_option maxHeartbeats 2000000 in
theorem specTcS_any (vo vs vh : Value) (out : List Sg) (ep r : Int) (ws : List ByteArray) (hs : List Int) (base : Nat) (w : World) (ho : OwnSg 44 base w vo out) (hbs : base ≤ w.heap.size) (hol : out.length + ws.length ≤ 50000000) (hr : ∀ V, Below base w V → RdS V vs ws) (hri : ∀ V, Below base w V → RdI V vh hs) :
    Calls Try.prog 26 #[vo, .int .i64 ep, .agg #[.int .i64 r, vs, vh]] w fun e w' => ∃ v', e = .returned v' ∧ OwnSg 44 base w' v' (out ++ tcS ep r ws hs) ∧ Below base w w' := by
  obtain ⟨as_, cs, rfl⟩ := (hr w (Below.refl _ w)).shape
  obtain ⟨ah, ch, rfl⟩ := (hri w (Below.refl _ w)).shape
  obtain ⟨w1, hw1⟩ : ∃ w1, w.alloc (.cells #[.int .i64 r, .slice as_ ws.length cs, .slice ah hs.length ch] 35) = w1 := ⟨_, rfl⟩
  have hb1 : Below w.heap.size w w1 := by rw [← hw1]; exact (Below.refl _ w).alloc (Nat.le_refl _) _
  have k1 : Blk w1 w.heap.size 35 [.int .i64 r, .slice as_ ws.length cs, .slice ah hs.length ch] := by rw [← hw1]; exact Blk.new w _ _
  have Hr := hide hr
  have Hri := hide hri
  have Ho := hide (ho.below hb1 (Nat.le_refl _))
  have Hne : Hid (∀ g, vo.ownBlock = some g → g ≠ w.heap.size) := hide (fun g hg e => by have := ho.lt g hg; omega)
  have K1 := hide k1
  have Hb1 := hide (hb1.mono hbs)
  clear hr hri ho k1 hb1
  go_enter Try.func26, Try.ntmps26
  go_wp2
  go_loopw [0, 7] (fun ov iv wr => ∃ (i : Nat), i ≤ ws.length ∧ i ≤ hs.length ∧ iv = .int .i64 (i : Int) ∧ OwnSg 44 base wr ov (out ++ tcS ep r (ws.take i) (hs.take i)) ∧ (∀ g, ov.ownBlock = some g → g ≠ w.heap.size) ∧ Blk wr w.heap.size 35 [.int .i64 r, .slice as_ ws.length cs, .slice ah hs.length ch] ∧ Below base w wr) (fun _ iv _ => ws.length - (intOf iv).toNat)
  case atStart => exact ⟨0, Nat.zero_le _, Nat.zero_le _, rfl, by simpa [tcS] using Ho.out, Hne.out, K1.out, Hb1.out⟩
  case round =>
    obtain ⟨i, hi, hi2, rfl, ho, hne, kk, hb⟩ := hrel
    clear Ho Hne K1 Hb1
    have x0 := kk.cell 0
    have x1 := kk.cell 1
    have x2 := kk.cell 2
    simp only [List.getElem?_cons_zero, List.getElem?_cons_succ] at x0 x1 x2
    have hlen := tcS_len ep r (ws.take i) (hs.take i)
    have htk : (ws.take i).length ≤ ws.length := by simp; omega
    have hwr := hb.size
    by_cases hlt : i < ws.length
    · have hli : (i : Int) < (ws.length : Int) := by omega
      by_cases hlh : i < hs.length
      · have hlj : (i : Int) < (hs.length : Int) := by omega
        obtain ⟨b, off, rfl, hc1, hc2, hbw, hat⟩ := (Hr.out wr hb).at hlt
        obtain ⟨b2, off2, rfl, hd1, hd2, hbw2, hat2⟩ := (Hri.out wr hb).at hlh
        have Hsn := hide (tcS_snoc ep r ws hs i hlt hlh)
        have Hat := hide (fun V hV => (Hr.out V hV).at hlt)
        have Hat2 := hide (fun V hV => (Hri.out V hV).at hlh)
        generalize hnm : ws[i] = nm at hat Hsn Hat
        generalize hnn : hs[i] = hn at hat2 Hsn Hat2
        generalize tcS ep r (ws.take i) (hs.take i) = S at ho hlen Hsn
        have Ho := hide ho
        have Hb := hide hb
        have Kk := hide kk
        have Hne := hide hne
        have hsl : (out ++ S).length ≤ 50000000 := by rw [List.length_append]; omega
        have hk1 := kk.lt
        clear ho hb kk hne hlen
        go_wp2
        go_region_held_law (fun w' => w'.cell? ⟨w.heap.size, 0, none⟩ = some (.int .i64 r) ∧ w'.cell? ⟨w.heap.size, 1, none⟩ = some (.slice (some ⟨b, off, none⟩) ws.length cs) ∧ w'.cell? ⟨w.heap.size, 2, none⟩ = some (.slice (some ⟨b2, off2, none⟩) hs.length ch) ∧ w'.cell? ⟨b, off + i, none⟩ = some (.string nm) ∧ w'.cell? ⟨b2, off2 + i, none⟩ = some (.int .i64 hn)) (go_keep)
          ((refine step_appSig rfl _ _ rfl base u0 wr.heap.size (out ++ S) (2, ep, r, hn, nm) (by rfl) (by rfl) (Ho.out.alloc _).drew (Blk.newR wr _ (sgC (2, ep, r, hn, nm)) _ rfl).drewR (by omega) (by simp; omega) ?_; intro v3 w3 ho3 hg3 hl3; have hbB : Below base wr w3 := (((Below.refl base wr).alloc (by omega) _).drew).grown hg3 (by simp; omega) (fun g hg => Ho.out.ge g hg); have k3 := grown_blk (Kk.out.below (((Below.refl _ wr).alloc (Nat.le_refl _) _).drew) Kk.out.lt) hg3 (fun e => Hne.out _ e rfl); have y0 := k3.cell 0; have y1 := k3.cell 1; have y2 := k3.cell 2; simp only [List.getElem?_cons_zero, List.getElem?_cons_succ] at y0 y1 y2; have y3 : w3.cell? ⟨b, off + i, none⟩ = some (.string nm) := (by obtain ⟨b', off', e, -, -, -, h⟩ := Hat.out w3 (Hb.out.trans hbB); cases e; exact h); have y4 : w3.cell? ⟨b2, off2 + i, none⟩ = some (.int .i64 hn) := (by obtain ⟨b2', off2', e, -, -, -, h⟩ := Hat2.out w3 (Hb.out.trans hbB); cases e; exact h)))
        have hne3 : ∀ g, v3.ownBlock = some g → g ≠ w.heap.size := fun g hg e => by
          rcases hl3 with h | h
          · exact Hne.out g (h ▸ hg) e
          · rw [hg] at h; simp at h; omega
        go_wp2
        go_roundw
        case rel => exact ⟨i + 1, by omega, by omega, by go_num, by rw [Hsn.out, ← List.append_assoc]; exact ho3, hne3, k3, Hb.out.trans hbB⟩
        case measure => simp [intOf]; omega
      · have Hen := hide (tcS_end ep r ws hs i (.inr (by omega)))
        have Ho := hide ho
        have Hb := hide hb
        have hlj : ¬ (i : Int) < (hs.length : Int) := by omega
        clear ho hb kk hne hlen
        go_wp2
        go_ret
        exact ⟨_, rfl, by rw [← Hen.out]; exact Ho.out, Hb.out⟩
    · have Hen := hide (tcS_end ep r ws hs i (.inl (by omega)))
      have Ho := hide ho
      have Hb := hide hb
      have hli : ¬ (i : Int) < (ws.length : Int) := by omega
      clear ho hb kk hne hlen
      go_wp2
      go_ret
      exact ⟨_, rfl, by rw [← Hen.out]; exact Ho.out, Hb.out⟩
end Go.Proofs.Ytkidfkngehcjgaa
