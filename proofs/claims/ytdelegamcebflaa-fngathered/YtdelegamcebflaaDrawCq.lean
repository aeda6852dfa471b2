/- What is drawn for GatherQc: those who vote, votes, a round and a block. -/
import Derived.Test.YtdelegamcebflaaDrawCt
namespace Go.Proofs.Ytdelegamcebflaa
open Go.RowKit
set_option linter.unusedVariables false

/-- Triples are few, their names short. -/
def SmallR (n : Nat) (l : List Tr) : Prop := l.length ≤ n ∧ ∀ p ∈ l, p.2.2.size ≤ 9
theorem SmallR.put {n : Nat} {l : List Tr} (h : SmallR n l) (p : Tr) (hp : p.2.2.size ≤ 9) : SmallR (n + 1) (l ++ [p]) :=
  ⟨by have := h.1; simp; omega, fun q hq => by
    rcases List.mem_append.1 hq with h' | h'
    · exact h.2 q h'
    · rw [List.mem_singleton.1 h']; exact hp⟩
theorem SmallR.more {n m : Nat} {l : List Tr} (h : SmallR n l) (hm : n ≤ m) : SmallR m l := ⟨by have := h.1; omega, h.2⟩
theorem OwnV.keptV {base : Nat} {w w' : World} {v : Value} {l : List Vl} {row : Option Nat} (h : OwnV base w v l) (hg : w.grownBy w' row) (hne : ∀ r, row = some r → v.ownBlock ≠ some r) : OwnV base w' v l :=
  World.ownsRow.kept h hg (by
    cases hv : v.ownBlock with
    | none => exact .inl rfl
    | some r => exact .inr (fun e => hne r e.symm hv))
set_option maxRecDepth 20000 in
set_option maxHeartbeats 4000000 in
theorem drawGatherQc_any (w : World) (cv : Value) (code : List UInt8) (hr : RdB w cv code) (hl : code.length ≤ 1048576) :
    Calls Try.prog 5 #[cv] w fun e w' => ∃ (v1 v2 : Value) (l : List Vl) (vs : List Tr) (r b : Int), e = .returned (.tuple #[v1, v2, .int .i64 r, .int .i64 b]) ∧ RdV w' v1 l ∧ RdR w' v2 vs ∧ SmallV l ∧ SmallR 20 vs ∧ (-1 ≤ r ∧ r ≤ 3) ∧ (-1 ≤ b ∧ b ≤ 3) ∧ Below w.heap.size w w' := by
  have Hn := hide (l1New_any w cv code hr hl)
  clear hr
  go_enter Try.func5, Try.ntmps5
  go_wp2_with fail
  refine Hn.out.mono ?_
  rintro e w1 ⟨rfl, hc1, hb1⟩
  have hg := hc1.lt
  have Ho0 := hide (own_nilR 34 w1 w1.heap.size (Nat.le_refl _))
  have b0 : Below w1.heap.size w1 (w1.alloc (.cells #[] 34)) := (Below.refl _ w1).alloc (Nat.le_refl _) _
  have Hc0 := hide (hc1.below b0 hg)
  have Hg0 := hide (grw_of_below (some w.heap.size) b0 (Nat.le_refl _))
  clear hc1 b0
  go_wp2_with fail
  refine (l1Below_any _ _ _ _ _ _ Hc0.out hl (by omega) (by omega)).mono ?_
  rintro e w2 ⟨x, rfl, hx, -, hc2, hg2⟩
  have hx12 : x < 12 := by have := hx (by omega); omega
  have Ho2 := hide (Ho0.out.notg hg2 hg)
  have Hc2 := hide hc2
  have Hg2 := hide (grw_trans Hg0.out hg2)
  clear hx hc2 hg2 Ho0 Hc0 Hg0
  have hz1 : w.heap.size < w1.heap.size := hg
  go_wp2
  go_loopw [7, 8] (fun ov iv wr => ∃ (k : Nat) (vs : List Tr), k ≤ x ∧ iv = .int .i64 (k : Int) ∧ OwnR 34 w1.heap.size wr ov vs ∧ SmallR (x - k) vs ∧ Cur w wr w.heap.size cv code ∧ w1.grownBy wr (some w.heap.size)) (fun _ iv _ => (intOf iv).toNat)
  case atStart => exact ⟨x, [], Nat.le_refl _, rfl, Ho2.out, ⟨by simp, by simp⟩, Hc2.out, Hg2.out⟩
  case round =>
    obtain ⟨k, vs, hk, rfl, ho, hsm, hc, hgr⟩ := hrel
    clear Ho2 Hc2 Hg2
    have hzr := hgr.size
    by_cases hlt : 0 < k
    · have hki : (0 : Int) < (k : Int) := by omega
      have hvl : vs.length ≤ 12 := by have := hsm.1; omega
      have Hsm := hide hsm
      have Ho := hide ho
      have Hc := hide hc
      have Hgr := hide hgr
      clear ho hsm hc hgr
      go_wp2_with fail
      refine (l1Below_any _ _ _ _ _ _ Hc.out hl (by omega) (by omega)).mono ?_
      rintro e w3 ⟨y, rfl, hy, -, hc3, hg3⟩
      have hy2 : y ≤ 1 := by have := hy (by omega); omega
      have hs3 := hg3.size
      have o3 := Ho.out.notg hg3 hg
      obtain ⟨w4, hw4⟩ : ∃ w4, w3.alloc (.cells #[.int .i64 0, .int .i64 0, .int .i64 1] 3) = w4 := ⟨_, rfl⟩
      have b4 : Below w3.heap.size w3 w4 := by rw [← hw4]; exact (Below.refl _ w3).alloc (Nat.le_refl _) _
      have HI4 : Hid (IntsAt w4 w3.heap.size [0, 0, 1]) := hide (by rw [← hw4]; exact ints_new w3 [0, 0, 1] 3)
      have Hc4 := hide (hc3.below b4 hc3.lt)
      have Ho4 := hide (o3.below b4 (Nat.le_refl _))
      have Hg4 := hide (grw_below (grw_trans Hgr.out hg3) b4 (by omega))
      have hs4 := b4.size
      clear o3 hc3 hg3 b4 Ho Hc Hgr hy
      go_wp2_with fail
      refine (l1Int_any w _ w.heap.size w3.heap.size cv code [0, 0, 1] Hc4.out hl HI4.out (by omega) (by simp) (by simp) 3).mono ?_
      rintro e w5 ⟨n, rfl, -, hc5, hg5⟩
      have hs5 := hg5.size
      have Ho5 := hide (Ho4.out.notg hg5 hg)
      have Hc5 := hide hc5
      have Hg5 := hide (grw_trans Hg4.out hg5)
      clear hc5 hg5 Ho4 Hc4 Hg4 HI4 hw4
      go_wp2_with fail
      refine (l1Name_any w _ w.heap.size cv code Hc5.out hl).mono ?_
      rintro e w6 ⟨s, rfl, hsz, hc6, hg6⟩
      have hs6 := hg6.size
      have Ho6 := hide (Ho5.out.notg hg6 hg)
      have Hc6 := hide hc6
      have Hg6 := hide (grw_trans Hg5.out hg6)
      have Hsm6 := hide (Hsm.out.put ((((1 + y : Nat) : Int)), n, s) hsz)
      have hw1y : (1 : Int) + (y : Int) = ((1 + y : Nat) : Int) := by omega
      have hyb : 1 + y ≤ 2 := by omega
      generalize 1 + y = z at Hsm6 hw1y hyb
      clear hc6 hg6 Ho5 Hc5 Hg5 hsz Hsm
      go_wp2_with (at_builtin; refine app_ownVote _ rfl _ _ rfl w1.heap.size _ w6.heap.size vs ((z : Int), n, s) rfl rfl (Ho6.out.alloc _) (Blk.newR w6 _ (trC ((z : Int), n, s)) _ rfl) (by omega) (by simp; omega) ?_; intro v7 w7 ho7 hg7 hl7)
      have hb7 : Below w1.heap.size w6 w7 := ((Below.refl w1.heap.size w6).alloc (by omega) (.cells #[.int .i64 (z : Int), .int .i64 n, .string s] 34)).grown hg7 (by simp; omega) (fun r hr => Ho6.out.ge r hr)
      have HC7 := hide (Hc6.out.below hb7 hg)
      have HG7 := hide (grw_below Hg6.out hb7 (Nat.le_refl _))
      have HO7 := hide ho7
      clear ho7 hg7 hl7 hb7
      go_roundw
      case rel => exact ⟨k - 1, _, by omega, by go_num, HO7.out, Hsm6.out.more (by omega), HC7.out, HG7.out⟩
      case measure => simp [intOf]; omega
    · have ek : k = 0 := by omega
      subst ek
      have Hsm := hide (hsm.more (m := 12) (by omega))
      obtain ⟨av, cv0, rfl⟩ := ho.rd.shape
      have Ho := hide ho
      have Hc := hide hc
      have Hgr := hide hgr
      clear ho hsm hc hgr
      go_wp2_with fail
      obtain ⟨wr0, hwr0⟩ : ∃ x, x = wr := ⟨_, rfl⟩
      rw [← hwr0]
      rw [← hwr0] at Ho Hc Hgr hzr
      clear hwr0
      refine (l7Any_any w _ w.heap.size cv code Hc.out hl).mono ?_
      rintro e w3 ⟨v3, l, rfl, o3, hsm3, hc3, hg3⟩
      obtain ⟨a3, c3, rfl⟩ := o3.rd.shape
      have hs3 := hg3.size
      have Ho3 := hide (Ho.out.notg hg3 hg)
      have O3 := hide o3
      have Hc3 := hide hc3
      have Hg3 := hide (grw_trans Hgr.out hg3)
      have Hne3 : Hid (∀ q, (Value.slice av vs.length cv0).ownBlock = some q → (Value.slice a3 l.length c3).ownBlock ≠ some q) := hide (fun q hq e => by
        have h1 := Ho.out.lt q hq
        have h2 := o3.ge q e
        omega)
      have hl6 : l.length ≤ 6 := hsm3.1
      have Hs3 := hide hsm3
      clear o3 hc3 hg3 Ho Hc Hgr hsm3
      go_wp2_with fail
      refine (l1Once_any _ _ _ _ _ _ Hc3.out hl (by omega) (by omega)).mono ?_
      rintro e w4 ⟨bb, rfl, hc4, hg4⟩
      have hs4 := hg4.size
      have Ho4 := hide (Ho3.out.notg hg4 hg)
      have O4 := hide (O3.out.notg hg4 (by omega))
      have Hc4 := hide hc4
      have Hg4 := hide (grw_trans Hg3.out hg4)
      clear hc4 hg4 Ho3 O3 Hc3 Hg3
      cases bb
      · go_wp2
        go_loopw [7, 10] (fun ov iv wr => ∃ (i : Nat) (us : List Tr), i ≤ l.length ∧ iv = .int .i64 (i : Int) ∧ OwnR 34 w1.heap.size wr ov us ∧ SmallR (12 + i) us ∧ OwnV wr0.heap.size wr (.slice a3 l.length c3) l ∧ (∀ q, ov.ownBlock = some q → (Value.slice a3 l.length c3).ownBlock ≠ some q) ∧ Cur w wr w.heap.size cv code ∧ w1.grownBy wr (some w.heap.size)) (fun _ iv _ => l.length - (intOf iv).toNat)
        case atStart => exact ⟨0, vs, Nat.zero_le _, rfl, Ho4.out, Hsm.out, O4.out, Hne3.out, Hc4.out, Hg4.out⟩
        case round =>
          obtain ⟨i, us, hi, rfl, ho, hsm, hv, hne, hc, hgr⟩ := hrel
          clear Ho4 O4 Hc4 Hg4 Hne3
          have hzr := hgr.size
          by_cases hlt : i < l.length
          · obtain ⟨b, off, rfl, hcc1, hcc2, hbw, hcell, -⟩ := hv.rd.at hlt
            have hli : (i : Int) < (l.length : Int) := by omega
            have hul : us.length ≤ 20 := by have := hsm.1; omega
            have Hcell : Hid (∀ V, OwnV wr0.heap.size V (.slice (some ⟨b, off, none⟩) l.length c3) l → V.cell? ⟨b, off + i * 2, none⟩ = some (.string l[i].1)) := hide (fun V h => by
              obtain ⟨b', off', e, -, -, -, h', -⟩ := h.rd.at hlt
              simp only [Option.some.injEq, Addr.mk.injEq, and_true] at e
              obtain ⟨rfl, rfl⟩ := e
              exact h')
            have hnm := (Hs3.out.2 l[i] (List.getElem_mem _)).1
            generalize l[i].1 = nm at hcell Hcell hnm
            have Hsm5 := hide (hsm.put (1, 0, nm) hnm)
            have Hsm5' := hide (hsm.more (m := 12 + i + 1) (by omega))
            have Ho := hide ho
            have Hv := hide hv
            have Hne := hide hne
            have Hc := hide hc
            have Hgr := hide hgr
            clear ho hsm hv hne hc hgr hcell
            go_wp2_with fail
            refine (l1Once_any _ _ _ _ _ _ Hc.out hl (by omega) (by omega)).mono ?_
            rintro e w5 ⟨b5, rfl, hc5, hg5⟩
            have hs5 := hg5.size
            have Ho5 := hide (Ho.out.notg hg5 hg)
            have V5 := hide (Hv.out.notg hg5 (by omega))
            have Hc5 := hide hc5
            have Hg5 := hide (grw_trans Hgr.out hg5)
            have x0 := Hcell.out _ V5.out
            clear hc5 hg5 Ho Hv Hc Hgr
            cases b5
            · go_wp2_with (at_builtin; refine app_ownVote _ rfl _ _ rfl w1.heap.size _ w5.heap.size us (1, 0, nm) rfl rfl (Ho5.out.alloc _) (Blk.newR w5 _ (trC (1, 0, nm)) _ rfl) (by omega) (by simp; omega) ?_; intro v7 w7 ho7 hg7 hl7)
              have hb7 : Below w1.heap.size w5 w7 := ((Below.refl w1.heap.size w5).alloc (by omega) (.cells #[.int .i64 1, .int .i64 0, .string nm] 34)).grown hg7 (by simp; omega) (fun r hr => Ho5.out.ge r hr)
              have HC7 := hide (Hc5.out.below hb7 hg)
              have HG7 := hide (grw_below Hg5.out hb7 (Nat.le_refl _))
              have HO7 := hide ho7
              have HV7 := hide ((OwnV.below V5.out ((Below.refl _ w5).alloc (Nat.le_refl _) (.cells #[.int .i64 1, .int .i64 0, .string nm] 34)) (Nat.le_refl _)).keptV hg7 Hne.out)
              have Hne7 : Hid (∀ q, v7.ownBlock = some q → (Value.slice (some ⟨b, off, none⟩) l.length c3).ownBlock ≠ some q) := hide (fun q hq e => by
                rcases hl7 with h' | h'
                · exact Hne.out q (h'.symm.trans hq) e
                · have e1 : q = w5.heap.size + 1 := by rw [h'] at hq; simpa using hq.symm
                  have e2 := V5.out.lt q e
                  omega)
              clear ho7 hg7 hl7 hb7
              go_roundw
              case rel => exact ⟨i + 1, _, by omega, by go_num, HO7.out, Hsm5.out, HV7.out, Hne7.out, HC7.out, HG7.out⟩
              case measure => simp [intOf]; omega
            · go_wp2
              go_roundw
              case rel => exact ⟨i + 1, us, by omega, by go_num, Ho5.out, Hsm5'.out, V5.out, Hne.out, Hc5.out, Hg5.out⟩
              case measure => simp [intOf]; omega
          · have ei : i = l.length := by omega
            have Hsm5 := hide (hsm.more (m := 20) (by omega))
            obtain ⟨au, cu, rfl⟩ := ho.rd.shape
            obtain ⟨w5, hw5⟩ : ∃ x, wr.alloc (.cells #[.int .i64 0, .int .i64 0, .int .i64 0, .int .i64 0, .int .i64 1] 3) = x := ⟨_, rfl⟩
            have b5 : Below wr.heap.size wr w5 := by rw [← hw5]; exact (Below.refl _ wr).alloc (Nat.le_refl _) _
            have HI5 : Hid (IntsAt w5 wr.heap.size [0, 0, 0, 0, 1]) := hide (by rw [← hw5]; exact ints_new wr [0, 0, 0, 0, 1] 3)
            have Hc5 := hide (hc.below b5 hc.lt)
            have R5 := hide (ho.below b5 (Nat.le_refl _))
            have V5 := hide (hv.below b5 (Nat.le_refl _))
            clear ho hsm hv hne hc hgr b5
            go_wp2_with fail
            refine (l1Int_any w _ w.heap.size wr.heap.size cv code [0, 0, 0, 0, 1] Hc5.out hl HI5.out (by omega) (by simp) (by simp) 5).mono ?_
            rintro e w6 ⟨q, rfl, hq, hc6, hg6⟩
            have hq2 : -1 ≤ q ∧ q ≤ 3 := by simp at hq; omega
            have R6 := hide (R5.out.notg hg6 hg).rd
            have V6 := hide (V5.out.notg hg6 (by omega)).rd
            have HB6 := hide hc6.bel
            clear hq hc6 hg6 hw5
            go_wp2
            refine bodyPost_ret (v := .tuple #[.slice a3 l.length c3, .slice au us.length cu, .int .i64 1, .int .i64 q]) (by simp [results, Try.f5, go_sem]) rfl ?_
            exact ⟨_, _, l, us, 1, q, rfl, V6.out, R6.out, Hs3.out, Hsm5.out, by omega, hq2, HB6.out⟩
      · obtain ⟨w5, hw5⟩ : ∃ x, w4.alloc (.cells #[.int .i64 1, .int .i64 1, .int .i64 2, .int .i64 0] 3) = x := ⟨_, rfl⟩
        have b5 : Below w4.heap.size w4 w5 := by rw [← hw5]; exact (Below.refl _ w4).alloc (Nat.le_refl _) _
        have HI5 : Hid (IntsAt w5 w4.heap.size [1, 1, 2, 0]) := hide (by rw [← hw5]; exact ints_new w4 [1, 1, 2, 0] 3)
        have hc5 := Hc4.out.below b5 Hc4.out.lt
        have R5 := hide (Ho4.out.below b5 (Nat.le_refl _))
        have V5 := hide (O4.out.below b5 (Nat.le_refl _))
        have Hc5 := hide hc5
        have hz5 := b5.size
        clear hc5 b5
        go_wp2_with fail
        refine (l1Int_any w _ w.heap.size w4.heap.size cv code [1, 1, 2, 0] Hc5.out hl HI5.out (by omega) (by simp) (by simp) 4).mono ?_
        rintro e w6 ⟨r, rfl, hr, hc6, hg6⟩
        have hr2 : -1 ≤ r ∧ r ≤ 3 := by simp at hr; omega
        have R6 := hide (R5.out.notg hg6 hg)
        have V6 := hide (V5.out.notg hg6 (by omega))
        have hz6 := hg6.size
        obtain ⟨w7, hw7⟩ : ∃ x, w6.alloc (.cells #[.int .i64 0, .int .i64 0, .int .i64 1, .int .i64 (-1)] 3) = x := ⟨_, rfl⟩
        have b7 : Below w6.heap.size w6 w7 := by rw [← hw7]; exact (Below.refl _ w6).alloc (Nat.le_refl _) _
        have HI7 : Hid (IntsAt w7 w6.heap.size [0, 0, 1, -1]) := hide (by rw [← hw7]; exact ints_new w6 [0, 0, 1, -1] 3)
        have Hc7 := hide (hc6.below b7 hc6.lt)
        have R7 := hide (R6.out.below b7 (Nat.le_refl _))
        have V7 := hide (V6.out.below b7 (Nat.le_refl _))
        clear hr hc6 hg6 b7 hw5
        go_wp2_with fail
        refine (l1Int_any w _ w.heap.size w6.heap.size cv code [0, 0, 1, -1] Hc7.out hl HI7.out (by omega) (by simp) (by simp) 4).mono ?_
        rintro e w8 ⟨q, rfl, hq, hc8, hg8⟩
        have hq2 : -1 ≤ q ∧ q ≤ 3 := by simp at hq; omega
        have R8 := hide (R7.out.notg hg8 hg).rd
        have V8 := hide (V7.out.notg hg8 (by omega)).rd
        have HB8 := hide hc8.bel
        clear hq hc8 hg8 hw7
        go_wp2
        refine bodyPost_ret (v := .tuple #[.slice a3 l.length c3, .slice av vs.length cv0, .int .i64 r, .int .i64 q]) (by simp [results, Try.f5, go_sem]) rfl ?_
        exact ⟨_, _, l, vs, r, q, rfl, V8.out, R8.out, Hs3.out, Hsm.out.more (by omega), hr2, hq2, HB8.out⟩
end Go.Proofs.Ytdelegamcebflaa
