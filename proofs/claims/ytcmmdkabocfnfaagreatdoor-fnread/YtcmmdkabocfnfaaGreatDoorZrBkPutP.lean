/- The landed code's PutBlock: its first parts. -/
import Derived.Test.YtcmmdkabocfnfaaGreatDoorZrBkPutB
import Derived.Test.YtcmmdkabocfnfaaGreatDoorZrBkOkI
import Derived.Test.YtcmmdkabocfnfaaGreatDoorZrTxPutI
import Derived.Test.YtcmmdkabocfnfaaGreatDoorZrTxSpec
import Derived.Laws.CopyOwn
namespace Go.Proofs.YtcmmdkabocfnfaaGreatDoor
open Go.RowKit
set_option linter.unusedVariables false

theorem c_three90 {V : World} {x y z : Value} {t : TypeId} {G : Nat} (hG : G = V.heap.size) : (V.alloc (.cells #[x, y, z] t)).cell? ⟨G, 0, none⟩ = some x := by
  subst hG
  rw [World.cell?_alloc_at _ _ _ _ rfl]; rfl
theorem c_three91 {V : World} {x y z : Value} {t : TypeId} {G : Nat} (hG : G = V.heap.size) : (V.alloc (.cells #[x, y, z] t)).cell? ⟨G, 1, none⟩ = some y := by
  subst hG
  rw [World.cell?_alloc_at _ _ _ _ rfl]; rfl
theorem c_three92 {V : World} {x y z : Value} {t : TypeId} {G : Nat} (hG : G = V.heap.size) : (V.alloc (.cells #[x, y, z] t)).cell? ⟨G, 2, none⟩ = some z := by
  subst hG
  rw [World.cell?_alloc_at _ _ _ _ rfl]; rfl
theorem cells_three {w : World} {g : Nat} {a b c : Int} (h0 : w.cell? ⟨g, 0, none⟩ = some (.int .i64 a)) (h1 : w.cell? ⟨g, 1, none⟩ = some (.int .i64 b)) (h2 : w.cell? ⟨g, 2, none⟩ = some (.int .i64 c)) : ∀ i (h : i < [a, b, c].length), w.cell? ⟨g, 0 + i, none⟩ = some (.int .i64 [a, b, c][i]) := by
  intro i hi
  simp only [List.length_cons, List.length_nil] at hi
  rcases (show i = 0 ∨ i = 1 ∨ i = 2 from by omega) with rfl | rfl | rfl
  · exact h0
  · exact h1
  · exact h2
theorem rd_str9 (w : World) (g : Nat) (a : ByteArray) (hg : g < w.heap.size) (h0 : w.cell? ⟨g, 0, none⟩ = some (.string a)) : RdS w (.slice (some ⟨g, 0, none⟩) 1 1) [a] := by
  refine .inr ⟨g, 0, 1, by simp, rfl, by simp, by unfold maxLen; omega, hg, ?_⟩
  intro i hi
  simp only [List.length_cons, List.length_nil] at hi
  have : i = 0 := by omega
  subst this
  exact h0
theorem rd_nil9 (w : World) : RdB w (.slice none 0 0) [] := .inl ⟨none, 0, rfl, rfl, fun _ => rfl⟩
/-- A block's bytes, each part for itself. -/
def hB9 (b : Bk) : List UInt8 := numsB [b.id, b.ep, b.rd] ++ textsB [b.md]
def qB9 (r k : Int) (ws : List ByteArray) : List UInt8 := numsB [r, k] ++ namesB ws
def tB9 (r : Int) (ws : List ByteArray) (hs : List Int) : List UInt8 := numsB [r] ++ namesB ws ++ numsB hs
def xB9 (ts : List Tx5) (k : Nat) : List UInt8 := numsB [(ts.length : Int)] ++ (ts.take k).flatMap txP
def nB9 (b : Bk) (k : Nat) : List UInt8 := numsB [(if b.en = true then 1 else 0), (b.nx.length : Int)] ++ (b.nx.take k).flatMap (fun p => textB p.1 ++ numB p.2)
def eB9 (b : Bk) : List UInt8 := nB9 b b.nx.length ++ textsB [b.rt]
theorem blP_is (b : Bk) (h : blB b = true) : hB9 b ++ (qB9 b.qr b.qb b.qw ++ (tB9 b.tr b.tw b.th ++ (xB9 b.ts b.ts.length ++ eB9 b))) = blP b := by
  unfold blP
  rw [if_pos h]
  simp [hB9, qB9, tB9, xB9, eB9, nB9, n9P, e9P, x9P, t9P, q9P, h9P, hisP, numsB, textsB]
theorem xB9_snoc (ts : List Tx5) (k : Nat) (h : k < ts.length) : xB9 ts (k + 1) = xB9 ts k ++ txP ts[k] := by
  unfold xB9; rw [List.take_succ_eq_append_getElem h]; simp only [List.flatMap_append, List.flatMap_cons, List.flatMap_nil, List.append_nil, List.append_assoc]
theorem nB9_snoc (b : Bk) (k : Nat) (h : k < b.nx.length) : nB9 b (k + 1) = nB9 b k ++ textsB [b.nx[k].1] ++ numsB [b.nx[k].2] := by
  unfold nB9; rw [List.take_succ_eq_append_getElem h]; simp only [numsB, textsB, List.flatMap_append, List.flatMap_cons, List.flatMap_nil, List.append_nil, List.append_assoc]
theorem flat_len9 {α : Type} (f : α → List UInt8) (c : Nat) : ∀ l : List α, (∀ x ∈ l, (f x).length ≤ c) → (l.flatMap f).length ≤ c * l.length
  | [], _ => by simp
  | x :: t, h => by
    have h1 := h x List.mem_cons_self
    have h2 := flat_len9 f c t (fun y hy => h y (List.mem_cons_of_mem _ hy))
    rw [List.flatMap_cons, List.length_append, List.length_cons]
    have : c * (t.length + 1) = c * t.length + c := by rw [Nat.mul_add, Nat.mul_one]
    omega
theorem putNumsR_any (v vh : Value) (l : List UInt8) (ns : List Int) (w : World) (hr : RdB w v l) (hh : RdI w vh ns) (hl : l.length ≤ 20000000) (hn : ns.length ≤ 1000) (hbd : ∀ x ∈ ns, -9223372036854775808 ≤ x ∧ x ≤ 9223372036854775807) :
    Calls Tryz.prog 103 #[v, vh] w fun e w' => ∃ v', e = .returned v' ∧ OwnB w.heap.size w' v' (l ++ numsB ns) ∧ Below w.heap.size w w' := by
  rcases hh with ⟨a, cap, rfl, rfl, -⟩ | ⟨g, off, cap, h0, rfl, h1, h2, h3, h4⟩
  · have Hc := hide (copied_any v l w hr (by omega))
    clear hr
    go_enter Tryz.func103, Tryz.ntmps103
    go_wp2_with (go_at_call 131; refine Hc.out.mono ?_; rintro e w1 ⟨v1, rfl, ho1, hb1⟩)
    refine wp_loop_rounds 1 ?_
    rw [rounds_succ]
    go_wp2
    go_ret
    exact ⟨_, rfl, by simpa [numsB] using ho1, hb1⟩
  · exact putNumsL_any v l ns g off cap w hr hl hn h3 h4 hbd
set_option maxRecDepth 20000 in
set_option maxHeartbeats 4000000 in
theorem implHeadB_any (b : Bk) (v : Bv) (w : World) (hr : RdK w b v) (hk : PutK b) :
    Calls Tryz.prog 47 #[bkV b v] w fun e w' => ∃ v', e = .returned v' ∧ OwnB w.heap.size w' v' (hB9 b) ∧ Below w.heap.size w w' := by
  have HX : Hid (hB9 b = [] ++ numsB [b.id, b.ep, b.rd] ++ textsB [b.md]) := hide rfl
  have Hbd : Hid (∀ x ∈ [b.id, b.ep, b.rd], -9223372036854775808 ≤ x ∧ x ≤ 9223372036854775807) := hide (by
    have h1 := hk.id; have h2 := hk.ep; have h3 := hk.rd
    intro x hx
    simp only [List.mem_cons, List.not_mem_nil, or_false] at hx
    rcases hx with rfl | rfl | rfl <;> omega)
  have hmd := hk.md
  generalize hB9 b = X at HX ⊢
  clear hk
  obtain ⟨id, ep, rd, mk, qr, qb, qw, tr, tw, th, ts, en, nx, rt⟩ := b
  obtain ⟨vq, vw, vh, vt, vn⟩ := v
  obtain ⟨hq, hw, hh, ht, hn⟩ := hr
  simp only [bkV] at *
  obtain ⟨aq, cq, rfl⟩ := hq.shape
  obtain ⟨aw, cw, rfl⟩ := hw.shape
  obtain ⟨ah, ch, rfl⟩ := hh.shape
  obtain ⟨at_, ct, rfl⟩ := ht.shape
  obtain ⟨an, cn, rfl⟩ := hn.shape
  obtain ⟨w1, hw1⟩ : ∃ x, w.alloc (.cells #[.int .i64 id, .int .i64 ep, .int .i64 rd, .string mk, .int .i64 qr, .int .i64 qb, .slice aq qw.length cq, .int .i64 tr, .slice aw tw.length cw, .slice ah th.length ch, .slice at_ ts.length ct, .bool en, .slice an nx.length cn, .string rt] 32) = x := ⟨_, rfl⟩
  have b1 : Below w.heap.size w w1 := by rw [← hw1]; exact (Below.refl _ w).alloc (Nat.le_refl _) _
  have k1 : Blk w1 w.heap.size 32 [.int .i64 id, .int .i64 ep, .int .i64 rd, .string mk, .int .i64 qr, .int .i64 qb, .slice aq qw.length cq, .int .i64 tr, .slice aw tw.length cw, .slice ah th.length ch, .slice at_ ts.length ct, .bool en, .slice an nx.length cn, .string rt] := by rw [← hw1]; exact Blk.new w _ _
  have hs1 : w1.heap.size = w.heap.size + 1 := by rw [← hw1]; simp
  have K1 := hide k1
  have HB1 := hide b1
  have x0 := k1.cell 0
  have x1 := k1.cell 1
  have x2 := k1.cell 2
  have x3 := k1.cell 3
  simp only [List.getElem?_cons_zero, List.getElem?_cons_succ] at x0 x1 x2 x3
  have htot : tot [mk] ≤ 10000000 := by simp only [tot, List.map_cons, List.map_nil, List.sum_cons, List.sum_nil]; omega
  have hla : ([] ++ numsB [id, ep, rd]).length ≤ 100 := by have := numsB_len [id, ep, rd]; simp only [List.length_cons, List.length_nil, List.nil_append] at this ⊢; omega
  clear hq hw hh ht hn k1 b1 hmd
  go_enter Tryz.func47, Tryz.ntmps47
  go_wp2
  clear hw1
  go_region_held_law (fun w' => w'.cell? ⟨w.heap.size, 0, none⟩ = some (.int .i64 id) ∧ w'.cell? ⟨w.heap.size, 1, none⟩ = some (.int .i64 ep) ∧ w'.cell? ⟨w.heap.size, 2, none⟩ = some (.int .i64 rd) ∧ w'.cell? ⟨w.heap.size, 3, none⟩ = some (.string mk))
    (refine ⟨?_, ?_, ?_, ?_⟩ <;> exact (by repeat (first | (with_reducible refine c_one5 ?_; first | with_reducible rfl | omega | (simp; done) | (simp; omega)) | (with_reducible refine c_two50 ?_; first | with_reducible rfl | omega | (simp; done) | (simp; omega)) | (with_reducible refine c_two51 ?_; first | with_reducible rfl | omega | (simp; done) | (simp; omega)) | (with_reducible refine c_three90 ?_; first | with_reducible rfl | omega | (simp; done) | (simp; omega)) | (with_reducible refine c_three91 ?_; first | with_reducible rfl | omega | (simp; done) | (simp; omega)) | (with_reducible refine c_three92 ?_; first | with_reducible rfl | omega | (simp; done) | (simp; omega)) | with_reducible refine c_drew5 ?_ | with_reducible refine c_old5 ?_ | (with_reducible refine c_bel5 hb4 ?_ ?_; · (first | omega | (simp; done) | (simp; omega))) | (with_reducible refine c_bel5 hb3 ?_ ?_; · (first | omega | (simp; done) | (simp; omega))) | with_reducible exact x0 | with_reducible exact x1 | with_reducible exact x2 | with_reducible exact x3))) (first
    | (go_at_call 102; refine (putTexts_any v3 _ _ [mk] _ (ho3.rd.below (by repeat (first | with_reducible exact Below.refl _ _ | with_reducible exact HB4.out | with_reducible exact HB3.out | with_reducible exact HB1.out | with_reducible refine Below.drew ?_ | (with_reducible refine b_al5 ?_ ?_; · (first | omega | (simp; done) | (simp; omega))))) (Nat.le_refl _)) (rd_str9 _ _ mk (by (first | omega | (simp; done) | (simp; omega))) (by repeat (first | (with_reducible refine c_one5 ?_; first | with_reducible rfl | omega | (simp; done) | (simp; omega)) | (with_reducible refine c_two50 ?_; first | with_reducible rfl | omega | (simp; done) | (simp; omega)) | (with_reducible refine c_two51 ?_; first | with_reducible rfl | omega | (simp; done) | (simp; omega)) | (with_reducible refine c_three90 ?_; first | with_reducible rfl | omega | (simp; done) | (simp; omega)) | (with_reducible refine c_three91 ?_; first | with_reducible rfl | omega | (simp; done) | (simp; omega)) | (with_reducible refine c_three92 ?_; first | with_reducible rfl | omega | (simp; done) | (simp; omega)) | with_reducible refine c_drew5 ?_ | with_reducible refine c_old5 ?_ | (with_reducible refine c_bel5 hb4 ?_ ?_; · (first | omega | (simp; done) | (simp; omega))) | (with_reducible refine c_bel5 hb3 ?_ ?_; · (first | omega | (simp; done) | (simp; omega))) | with_reducible exact x0 | with_reducible exact x1 | with_reducible exact x2 | with_reducible exact x3))) (by omega) (by simp) htot).mono ?_; rintro e w4 ⟨v4, rfl, ho4, hb4⟩; have hz4 := hb4.size; (try simp at hz4); have HB4 : Hid (Below w.heap.size w w4) := hide (Below.trans (by repeat (first | with_reducible exact Below.refl _ _ | with_reducible exact HB4.out | with_reducible exact HB3.out | with_reducible exact HB1.out | with_reducible refine Below.drew ?_ | (with_reducible refine b_al5 ?_ ?_; · (first | omega | (simp; done) | (simp; omega))))) (hb4.mono (by (first | omega | (simp; done) | (simp; omega))))))
    | (go_at_call 103; refine (putNumsL_any _ [] [id, ep, rd] _ 0 3 _ (rd_nil9 _) (by simp) (by simp) (by (first | omega | (simp; done) | (simp; omega))) (cells_three (by repeat (first | (with_reducible refine c_one5 ?_; first | with_reducible rfl | omega | (simp; done) | (simp; omega)) | (with_reducible refine c_two50 ?_; first | with_reducible rfl | omega | (simp; done) | (simp; omega)) | (with_reducible refine c_two51 ?_; first | with_reducible rfl | omega | (simp; done) | (simp; omega)) | (with_reducible refine c_three90 ?_; first | with_reducible rfl | omega | (simp; done) | (simp; omega)) | (with_reducible refine c_three91 ?_; first | with_reducible rfl | omega | (simp; done) | (simp; omega)) | (with_reducible refine c_three92 ?_; first | with_reducible rfl | omega | (simp; done) | (simp; omega)) | with_reducible refine c_drew5 ?_ | with_reducible refine c_old5 ?_ | (with_reducible refine c_bel5 hb4 ?_ ?_; · (first | omega | (simp; done) | (simp; omega))) | (with_reducible refine c_bel5 hb3 ?_ ?_; · (first | omega | (simp; done) | (simp; omega))) | with_reducible exact x0 | with_reducible exact x1 | with_reducible exact x2 | with_reducible exact x3)) (by repeat (first | (with_reducible refine c_one5 ?_; first | with_reducible rfl | omega | (simp; done) | (simp; omega)) | (with_reducible refine c_two50 ?_; first | with_reducible rfl | omega | (simp; done) | (simp; omega)) | (with_reducible refine c_two51 ?_; first | with_reducible rfl | omega | (simp; done) | (simp; omega)) | (with_reducible refine c_three90 ?_; first | with_reducible rfl | omega | (simp; done) | (simp; omega)) | (with_reducible refine c_three91 ?_; first | with_reducible rfl | omega | (simp; done) | (simp; omega)) | (with_reducible refine c_three92 ?_; first | with_reducible rfl | omega | (simp; done) | (simp; omega)) | with_reducible refine c_drew5 ?_ | with_reducible refine c_old5 ?_ | (with_reducible refine c_bel5 hb4 ?_ ?_; · (first | omega | (simp; done) | (simp; omega))) | (with_reducible refine c_bel5 hb3 ?_ ?_; · (first | omega | (simp; done) | (simp; omega))) | with_reducible exact x0 | with_reducible exact x1 | with_reducible exact x2 | with_reducible exact x3)) (by repeat (first | (with_reducible refine c_one5 ?_; first | with_reducible rfl | omega | (simp; done) | (simp; omega)) | (with_reducible refine c_two50 ?_; first | with_reducible rfl | omega | (simp; done) | (simp; omega)) | (with_reducible refine c_two51 ?_; first | with_reducible rfl | omega | (simp; done) | (simp; omega)) | (with_reducible refine c_three90 ?_; first | with_reducible rfl | omega | (simp; done) | (simp; omega)) | (with_reducible refine c_three91 ?_; first | with_reducible rfl | omega | (simp; done) | (simp; omega)) | (with_reducible refine c_three92 ?_; first | with_reducible rfl | omega | (simp; done) | (simp; omega)) | with_reducible refine c_drew5 ?_ | with_reducible refine c_old5 ?_ | (with_reducible refine c_bel5 hb4 ?_ ?_; · (first | omega | (simp; done) | (simp; omega))) | (with_reducible refine c_bel5 hb3 ?_ ?_; · (first | omega | (simp; done) | (simp; omega))) | with_reducible exact x0 | with_reducible exact x1 | with_reducible exact x2 | with_reducible exact x3))) Hbd.out).mono ?_; rintro e w3 ⟨v3, rfl, ho3, hb3⟩; have hz3 := hb3.size; (try simp at hz3); have HB3 : Hid (Below w.heap.size w w3) := hide (Below.trans (by repeat (first | with_reducible exact Below.refl _ _ | with_reducible exact HB4.out | with_reducible exact HB3.out | with_reducible exact HB1.out | with_reducible refine Below.drew ?_ | (with_reducible refine b_al5 ?_ ?_; · (first | omega | (simp; done) | (simp; omega))))) (hb3.mono (by (first | omega | (simp; done) | (simp; omega)))))))
  all_goals
    rw [← HX.out] at ho4
    have Ho := hide (OwnB.mono ho4 (show w.heap.size ≤ _ from (by (first | omega | (simp; done) | (simp; omega)))))
    clear ho4 hb4 hb3 ho3
    go_wp2
    go_ret
    exact ⟨v4, rfl, Ho.out, HB4.out⟩
set_option maxRecDepth 20000 in
set_option maxHeartbeats 4000000 in
theorem implQcB_any (r k : Int) (vq : Value) (ws : List ByteArray) (w : World) (hq : RdS w vq ws) (hr0 : -1 ≤ r ∧ r ≤ 10000) (hk0 : -1 ≤ k ∧ k ≤ 100000) (hl : ws.length ≤ 20) (ht : tot ws ≤ 160) :
    Calls Tryz.prog 48 #[qcV r k vq] w fun e w' => ∃ v', e = .returned v' ∧ OwnB w.heap.size w' v' (qB9 r k ws) ∧ Below w.heap.size w w' := by
  have HX : Hid (qB9 r k ws = [] ++ numsB [r, k] ++ namesB ws) := hide rfl
  have Hbd : Hid (∀ x ∈ [r, k], -9223372036854775808 ≤ x ∧ x ≤ 9223372036854775807) := hide (by
    intro x hx
    simp only [List.mem_cons, List.not_mem_nil, or_false] at hx
    rcases hx with rfl | rfl <;> omega)
  generalize qB9 r k ws = X at HX ⊢
  obtain ⟨aq, cq, rfl⟩ := hq.shape
  simp only [qcV]
  obtain ⟨w1, hw1⟩ : ∃ x, w.alloc (.cells #[.int .i64 r, .int .i64 k, .slice aq ws.length cq] 25) = x := ⟨_, rfl⟩
  have b1 : Below w.heap.size w w1 := by rw [← hw1]; exact (Below.refl _ w).alloc (Nat.le_refl _) _
  have k1 : Blk w1 w.heap.size 25 [.int .i64 r, .int .i64 k, .slice aq ws.length cq] := by rw [← hw1]; exact Blk.new w _ _
  have hs1 : w1.heap.size = w.heap.size + 1 := by rw [← hw1]; simp
  have HB1 := hide b1
  have Hq := hide hq
  have x0 := k1.cell 0
  have x1 := k1.cell 1
  have x2 := k1.cell 2
  simp only [List.getElem?_cons_zero, List.getElem?_cons_succ] at x0 x1 x2
  have hla : ([] ++ numsB [r, k]).length ≤ 100 := by have := numsB_len [r, k]; simp only [List.length_cons, List.length_nil, List.nil_append] at this ⊢; omega
  clear hq k1 b1 hr0 hk0
  go_enter Tryz.func48, Tryz.ntmps48
  go_wp2
  clear hw1
  go_region_held_law (fun w' => w'.cell? ⟨w.heap.size, 0, none⟩ = some (.int .i64 r) ∧ w'.cell? ⟨w.heap.size, 1, none⟩ = some (.int .i64 k) ∧ w'.cell? ⟨w.heap.size, 2, none⟩ = some (.slice aq ws.length cq))
    (refine ⟨?_, ?_, ?_⟩ <;> exact (by repeat (first | (with_reducible refine c_two50 ?_; first | with_reducible rfl | omega | (simp; done) | (simp; omega)) | (with_reducible refine c_two51 ?_; first | with_reducible rfl | omega | (simp; done) | (simp; omega)) | with_reducible refine c_drew5 ?_ | with_reducible refine c_old5 ?_ | (with_reducible refine c_bel5 hb4 ?_ ?_; · (first | omega | (simp; done) | (simp; omega))) | (with_reducible refine c_bel5 hb3 ?_ ?_; · (first | omega | (simp; done) | (simp; omega))) | with_reducible exact x0 | with_reducible exact x1 | with_reducible exact x2))) (first
    | (go_at_call 104; refine (implPutNames_any v3 (.slice aq ws.length cq) _ ws _ (ho3.rd.below (by repeat (first | with_reducible exact Below.refl _ _ | with_reducible exact HB4.out | with_reducible exact HB3.out | with_reducible exact HB1.out | with_reducible refine Below.drew ?_ | (with_reducible refine b_al5 ?_ ?_; · (first | omega | (simp; done) | (simp; omega))))) (Nat.le_refl _)) (Hq.out.below (by repeat (first | with_reducible exact Below.refl _ _ | with_reducible exact HB4.out | with_reducible exact HB3.out | with_reducible exact HB1.out | with_reducible refine Below.drew ?_ | (with_reducible refine b_al5 ?_ ?_; · (first | omega | (simp; done) | (simp; omega))))) (Nat.le_refl _)) (by omega) (by omega) (by omega)).mono ?_; rintro e w4 ⟨v4, rfl, ho4, hb4⟩; have hz4 := hb4.size; (try simp at hz4); have HB4 : Hid (Below w.heap.size w w4) := hide (Below.trans (by repeat (first | with_reducible exact Below.refl _ _ | with_reducible exact HB4.out | with_reducible exact HB3.out | with_reducible exact HB1.out | with_reducible refine Below.drew ?_ | (with_reducible refine b_al5 ?_ ?_; · (first | omega | (simp; done) | (simp; omega))))) (hb4.mono (by (first | omega | (simp; done) | (simp; omega))))))
    | (go_at_call 103; refine (putNumsL_any _ [] [r, k] _ 0 2 _ (rd_nil9 _) (by simp) (by simp) (by (first | omega | (simp; done) | (simp; omega))) (cells_two (by repeat (first | (with_reducible refine c_two50 ?_; first | with_reducible rfl | omega | (simp; done) | (simp; omega)) | (with_reducible refine c_two51 ?_; first | with_reducible rfl | omega | (simp; done) | (simp; omega)) | with_reducible refine c_drew5 ?_ | with_reducible refine c_old5 ?_ | (with_reducible refine c_bel5 hb4 ?_ ?_; · (first | omega | (simp; done) | (simp; omega))) | (with_reducible refine c_bel5 hb3 ?_ ?_; · (first | omega | (simp; done) | (simp; omega))) | with_reducible exact x0 | with_reducible exact x1 | with_reducible exact x2)) (by repeat (first | (with_reducible refine c_two50 ?_; first | with_reducible rfl | omega | (simp; done) | (simp; omega)) | (with_reducible refine c_two51 ?_; first | with_reducible rfl | omega | (simp; done) | (simp; omega)) | with_reducible refine c_drew5 ?_ | with_reducible refine c_old5 ?_ | (with_reducible refine c_bel5 hb4 ?_ ?_; · (first | omega | (simp; done) | (simp; omega))) | (with_reducible refine c_bel5 hb3 ?_ ?_; · (first | omega | (simp; done) | (simp; omega))) | with_reducible exact x0 | with_reducible exact x1 | with_reducible exact x2))) Hbd.out).mono ?_; rintro e w3 ⟨v3, rfl, ho3, hb3⟩; have hz3 := hb3.size; (try simp at hz3); have HB3 : Hid (Below w.heap.size w w3) := hide (Below.trans (by repeat (first | with_reducible exact Below.refl _ _ | with_reducible exact HB4.out | with_reducible exact HB3.out | with_reducible exact HB1.out | with_reducible refine Below.drew ?_ | (with_reducible refine b_al5 ?_ ?_; · (first | omega | (simp; done) | (simp; omega))))) (hb3.mono (by (first | omega | (simp; done) | (simp; omega)))))))
  all_goals
    rw [← HX.out] at ho4
    have Ho := hide (OwnB.mono ho4 (show w.heap.size ≤ _ from (by (first | omega | (simp; done) | (simp; omega)))))
    clear ho4 hb4 hb3 ho3
    go_wp2
    go_ret
    exact ⟨v4, rfl, Ho.out, HB4.out⟩
set_option maxRecDepth 20000 in
set_option maxHeartbeats 4000000 in
theorem implTcB_any (r : Int) (vw vh : Value) (ws : List ByteArray) (hs : List Int) (w : World) (hw : RdS w vw ws) (hh : RdI w vh hs) (hr0 : -1 ≤ r ∧ r ≤ 10000) (hl : ws.length ≤ 20) (ht : tot ws ≤ 160) (hlh : hs.length ≤ 20) (hbh : ∀ x ∈ hs, 0 ≤ x ∧ x ≤ 10000) :
    Calls Tryz.prog 49 #[tcV r vw vh] w fun e w' => ∃ v', e = .returned v' ∧ OwnB w.heap.size w' v' (tB9 r ws hs) ∧ Below w.heap.size w w' := by
  have HX : Hid (tB9 r ws hs = [] ++ numsB [r] ++ namesB ws ++ numsB hs) := hide rfl
  have Hbd : Hid (∀ x ∈ [r], -9223372036854775808 ≤ x ∧ x ≤ 9223372036854775807) := hide (by
    intro x hx
    simp only [List.mem_cons, List.not_mem_nil, or_false] at hx
    subst hx; omega)
  have Hbh : Hid (∀ x ∈ hs, -9223372036854775808 ≤ x ∧ x ≤ 9223372036854775807) := hide (fun x hx => by have := hbh x hx; omega)
  generalize tB9 r ws hs = X at HX ⊢
  obtain ⟨aw, cw, rfl⟩ := hw.shape
  obtain ⟨ah, ch, rfl⟩ := hh.shape
  simp only [tcV]
  obtain ⟨w1, hw1⟩ : ∃ x, w.alloc (.cells #[.int .i64 r, .slice aw ws.length cw, .slice ah hs.length ch] 28) = x := ⟨_, rfl⟩
  have b1 : Below w.heap.size w w1 := by rw [← hw1]; exact (Below.refl _ w).alloc (Nat.le_refl _) _
  have k1 : Blk w1 w.heap.size 28 [.int .i64 r, .slice aw ws.length cw, .slice ah hs.length ch] := by rw [← hw1]; exact Blk.new w _ _
  have hs1 : w1.heap.size = w.heap.size + 1 := by rw [← hw1]; simp
  have HB1 := hide b1
  have Hw := hide hw
  have Hh := hide hh
  have x0 := k1.cell 0
  have x1 := k1.cell 1
  have x2 := k1.cell 2
  simp only [List.getElem?_cons_zero, List.getElem?_cons_succ] at x0 x1 x2
  have hla : ([] ++ numsB [r]).length ≤ 100 := by have := numsB_len [r]; simp only [List.length_cons, List.length_nil, List.nil_append] at this ⊢; omega
  have hlb : ([] ++ numsB [r] ++ namesB ws).length ≤ 10000 := by have := namesB_len ws; rw [List.length_append]; omega
  clear hw hh k1 b1 hr0 hbh
  go_enter Tryz.func49, Tryz.ntmps49
  go_wp2
  clear hw1
  go_region_held_law (fun w' => w'.cell? ⟨w.heap.size, 0, none⟩ = some (.int .i64 r) ∧ w'.cell? ⟨w.heap.size, 1, none⟩ = some (.slice aw ws.length cw) ∧ w'.cell? ⟨w.heap.size, 2, none⟩ = some (.slice ah hs.length ch))
    (refine ⟨?_, ?_, ?_⟩ <;> exact (by repeat (first | (with_reducible refine c_one5 ?_; first | with_reducible rfl | omega | (simp; done) | (simp; omega)) | with_reducible refine c_drew5 ?_ | with_reducible refine c_old5 ?_ | (with_reducible refine c_bel5 hb5 ?_ ?_; · (first | omega | (simp; done) | (simp; omega))) | (with_reducible refine c_bel5 hb4 ?_ ?_; · (first | omega | (simp; done) | (simp; omega))) | (with_reducible refine c_bel5 hb3 ?_ ?_; · (first | omega | (simp; done) | (simp; omega))) | with_reducible exact x0 | with_reducible exact x1 | with_reducible exact x2))) (first
    | (go_at_call 103; refine (putNumsR_any v4 (.slice ah hs.length ch) _ hs _ (ho4.rd.below (by repeat (first | with_reducible exact Below.refl _ _ | with_reducible exact HB5.out | with_reducible exact HB4.out | with_reducible exact HB3.out | with_reducible exact HB1.out | with_reducible refine Below.drew ?_ | (with_reducible refine b_al5 ?_ ?_; · (first | omega | (simp; done) | (simp; omega))))) (Nat.le_refl _)) (Hh.out.below (by repeat (first | with_reducible exact Below.refl _ _ | with_reducible exact HB5.out | with_reducible exact HB4.out | with_reducible exact HB3.out | with_reducible exact HB1.out | with_reducible refine Below.drew ?_ | (with_reducible refine b_al5 ?_ ?_; · (first | omega | (simp; done) | (simp; omega))))) (Nat.le_refl _)) (by omega) (by omega) Hbh.out).mono ?_; rintro e w5 ⟨v5, rfl, ho5, hb5⟩; have hz5 := hb5.size; (try simp at hz5); have HB5 : Hid (Below w.heap.size w w5) := hide (Below.trans (by repeat (first | with_reducible exact Below.refl _ _ | with_reducible exact HB5.out | with_reducible exact HB4.out | with_reducible exact HB3.out | with_reducible exact HB1.out | with_reducible refine Below.drew ?_ | (with_reducible refine b_al5 ?_ ?_; · (first | omega | (simp; done) | (simp; omega))))) (hb5.mono (by (first | omega | (simp; done) | (simp; omega))))))
    | (go_at_call 104; refine (implPutNames_any v3 (.slice aw ws.length cw) _ ws _ (ho3.rd.below (by repeat (first | with_reducible exact Below.refl _ _ | with_reducible exact HB5.out | with_reducible exact HB4.out | with_reducible exact HB3.out | with_reducible exact HB1.out | with_reducible refine Below.drew ?_ | (with_reducible refine b_al5 ?_ ?_; · (first | omega | (simp; done) | (simp; omega))))) (Nat.le_refl _)) (Hw.out.below (by repeat (first | with_reducible exact Below.refl _ _ | with_reducible exact HB5.out | with_reducible exact HB4.out | with_reducible exact HB3.out | with_reducible exact HB1.out | with_reducible refine Below.drew ?_ | (with_reducible refine b_al5 ?_ ?_; · (first | omega | (simp; done) | (simp; omega))))) (Nat.le_refl _)) (by omega) (by omega) (by omega)).mono ?_; rintro e w4 ⟨v4, rfl, ho4, hb4⟩; have hz4 := hb4.size; (try simp at hz4); have HB4 : Hid (Below w.heap.size w w4) := hide (Below.trans (by repeat (first | with_reducible exact Below.refl _ _ | with_reducible exact HB5.out | with_reducible exact HB4.out | with_reducible exact HB3.out | with_reducible exact HB1.out | with_reducible refine Below.drew ?_ | (with_reducible refine b_al5 ?_ ?_; · (first | omega | (simp; done) | (simp; omega))))) (hb4.mono (by (first | omega | (simp; done) | (simp; omega))))))
    | (go_at_call 103; refine (putNumsL_any _ [] [r] _ 0 1 _ (rd_nil9 _) (by simp) (by simp) (by (first | omega | (simp; done) | (simp; omega))) (cells_one (by repeat (first | (with_reducible refine c_one5 ?_; first | with_reducible rfl | omega | (simp; done) | (simp; omega)) | with_reducible refine c_drew5 ?_ | with_reducible refine c_old5 ?_ | (with_reducible refine c_bel5 hb5 ?_ ?_; · (first | omega | (simp; done) | (simp; omega))) | (with_reducible refine c_bel5 hb4 ?_ ?_; · (first | omega | (simp; done) | (simp; omega))) | (with_reducible refine c_bel5 hb3 ?_ ?_; · (first | omega | (simp; done) | (simp; omega))) | with_reducible exact x0 | with_reducible exact x1 | with_reducible exact x2))) Hbd.out).mono ?_; rintro e w3 ⟨v3, rfl, ho3, hb3⟩; have hz3 := hb3.size; (try simp at hz3); have HB3 : Hid (Below w.heap.size w w3) := hide (Below.trans (by repeat (first | with_reducible exact Below.refl _ _ | with_reducible exact HB5.out | with_reducible exact HB4.out | with_reducible exact HB3.out | with_reducible exact HB1.out | with_reducible refine Below.drew ?_ | (with_reducible refine b_al5 ?_ ?_; · (first | omega | (simp; done) | (simp; omega))))) (hb3.mono (by (first | omega | (simp; done) | (simp; omega)))))))
  all_goals
    rw [← HX.out] at ho5
    have Ho := hide (OwnB.mono ho5 (show w.heap.size ≤ _ from (by (first | omega | (simp; done) | (simp; omega)))))
    clear ho5 hb5 ho4 hb4 hb3 ho3
    go_wp2
    go_ret
    exact ⟨v5, rfl, Ho.out, HB5.out⟩
end Go.Proofs.YtcmmdkabocfnfaaGreatDoor
