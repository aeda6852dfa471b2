/- How large blocks are, each of their lists. -/
import Derived.Test.YtlfoaobgdipdlabKsMem
import Derived.Test.YtlfoaobgdipdlabBkSzM
import Derived.Test.YtlfoaobgdipdlabBkOpen
namespace Go.Proofs.Ytlfoaobgdipdlab
open Go.RowKit
set_option linter.unusedVariables false

set_option maxRecDepth 20000 in
set_option maxHeartbeats 4000000 in
theorem szBlockS_any (v : Value) (l : List Bk) (m : Nat) (w : World) (hr : RdKs w v l) (hm : m ≤ 100000000) (hl : l.length ≤ maxLen) (hs : ∀ b ∈ l, FitK b) :
    Calls Try.prog 5 #[v, .int .i64 (m : Int)] w fun e w' => ∃ r : Int, e = .returned (.int .i64 r) ∧ (0 ≤ r → l.length ≤ m ∧ (∀ b ∈ l, b.qw.length ≤ m ∧ b.tw.length ≤ m ∧ b.th.length ≤ m ∧ b.ts.length ≤ m ∧ b.nx.length ≤ m) ∧ r ≤ (m : Int)) ∧ Below w.heap.size w w' := by
  have em : maxLen ≤ 9223372036854775807 := by unfold maxLen; omega
  by_cases hn : m < l.length
  · obtain ⟨a, cap, rfl⟩ := hr.shape
    clear hr hs
    go_enter Try.func5, Try.ntmps5
    go_wp2
    go_ret
    exact ⟨_, rfl, fun h => by omega, Below.refl _ _⟩
  · rcases hr with ⟨a, cap, rfl, rfl, -⟩ | ⟨b, off, cap, h0, rfl, h1, h2, h3, h4⟩
    · go_enter Try.func5, Try.ntmps5
      go_wp2
      refine wp_loop_rounds 1 ?_
      rw [rounds_succ]
      go_wp2
      go_ret
      exact ⟨_, rfl, fun _ => ⟨by simp, by simp, by simp⟩, Below.refl _ _⟩
    · have Hs := hide hs
      have H4 := hide h4
      clear hs h4 h0
      go_enter Try.func5, Try.ntmps5
      go_wp2
      go_loopw [1, 5] (fun mv iv wr => ∃ k r : Nat, k ≤ l.length ∧ iv = .int .i64 (k : Int) ∧ mv = .int .i64 (r : Int) ∧ r ≤ m ∧ (∀ b ∈ l.take k, b.qw.length ≤ m ∧ b.tw.length ≤ m ∧ b.th.length ≤ m ∧ b.ts.length ≤ m ∧ b.nx.length ≤ m) ∧ Below w.heap.size w wr) (fun _ iv _ => l.length - (intOf iv).toNat)
      case atStart => exact ⟨0, m - l.length, Nat.zero_le _, rfl, by go_num, by omega, by simp, Below.refl _ _⟩
      case round =>
        obtain ⟨k, r, hk, rfl, rfl, hrm, hall, hb⟩ := hrel
        have Hall := hide hall
        clear hall
        by_cases hlt : k < l.length
        · obtain ⟨lv, hat, hrl⟩ := H4.out k hlt
          obtain ⟨c0, c1, c2, c3, c4, c5, c6, c7, c8, c9, c10, c11, c12, c13⟩ := (hat.below hb h3).cells
          have hf := Hs.out l[k] (List.getElem_mem hlt)
          have HZ := hide (szBlockM_any l[k] lv r wr (hrl.below hb (Nat.le_refl _)) (by omega) hf.q hf.w hf.h hf.t hf.n hf.qs hf.ws hf.ts hf.ns hf.ms hf.rs)
          have Hsn : Hid (l[k].qw.length ≤ m ∧ l[k].tw.length ≤ m ∧ l[k].th.length ≤ m ∧ l[k].ts.length ≤ m ∧ l[k].nx.length ≤ m → ∀ b ∈ l.take (k + 1), b.qw.length ≤ m ∧ b.tw.length ≤ m ∧ b.th.length ≤ m ∧ b.ts.length ≤ m ∧ b.nx.length ≤ m) := hide (fun h b hb => by
            rw [List.take_succ_eq_append_getElem hlt] at hb
            rcases List.mem_append.1 hb with h1 | h1
            · exact Hall.out b h1
            · rw [List.mem_singleton.1 h1]; exact h)
          have Hsh := hide hrl.shapes9
          have hli : (k : Int) < (l.length : Int) := by omega
          clear hf hrl hat
          generalize l[k] = ak at c0 c1 c2 c3 c4 c5 c6 c7 c8 c9 c10 c11 c12 c13 HZ Hsh Hsn
          obtain ⟨aq, cq, aw, cw, ah, ch, at_, ct, an, cn, rfl⟩ := Hsh.out
          clear Hsh
          obtain ⟨id, ep, rd, md, qr, qb, qw, tr, tw, th, ts, en, nx, rt⟩ := ak
          simp only [bkV] at c0 c1 c2 c3 c4 c5 c6 c7 c8 c9 c10 c11 c12 c13 HZ Hsn
          go_wp2_with fail
          refine HZ.out.mono ?_
          rintro e w2 ⟨q, rfl, hq, hb2⟩
          have HB2 := hide (hb.trans (hb2.mono hb.size))
          have Hq := hide hq
          clear c0 c1 c2 c3 c4 c5 c6 c7 c8 c9 c10 c11 c12 c13 hq hb2
          by_cases hneg : q < 0
          · go_wp2
            go_ret
            exact ⟨_, rfl, fun h => by omega, HB2.out⟩
          · obtain ⟨r2, hr2⟩ : ∃ r2 : Nat, q = (r2 : Int) := ⟨q.toNat, by omega⟩
            subst hr2
            go_wp2
            go_roundw
            case rel =>
              have h9 := Hq.out (by omega)
              exact ⟨k + 1, r2, by omega, by go_num, rfl, by omega, Hsn.out (by omega), HB2.out⟩
            case measure => simp [intOf]; omega
        · have hf : Hid (l.length ≤ m ∧ (∀ b ∈ l, b.qw.length ≤ m ∧ b.tw.length ≤ m ∧ b.th.length ≤ m ∧ b.ts.length ≤ m ∧ b.nx.length ≤ m) ∧ (r : Int) ≤ (m : Int)) := hide (by
            have h := Hall.out
            rw [List.take_of_length_le (by omega)] at h
            exact ⟨by omega, h, by omega⟩)
          go_wp2
          go_ret
          exact ⟨_, rfl, fun _ => hf.out, hb⟩
end Go.Proofs.Ytlfoaobgdipdlab
