/- The landed code's Digest. -/
import Derived.Test.YtdelegamcebflaaDoorJoin8
import Derived.Test.YtdelegamcebflaaDoorPadImpl
import Derived.Test.YtdelegamcebflaaDoorShaBlock
import Derived.Test.YtdelegamcebflaaDoorShaWd
import Derived.Test.YtdelegamcebflaaDoorShaBy
import Derived.Deep.RegionWith
namespace Go.Proofs.YtdelegamcebflaaDoor
open Go.RowKit
set_option linter.unusedVariables false

theorem dig_step {w wr wa wb : World} {P : List UInt8} {L : List Nat} {Tn : S8} {g : Nat} (ha : Ar wr w.heap.size L) (hL : L.length = 8) (hab : Ab wr g P) (hs : w.heap.size < wr.heap.size) (hb : Below w.heap.size w wr) (hba : Below wr.drew.heap.size wr.drew wa) (hbb : Below wa.heap.size wa wb) (hg : w.heap.size + 1 ≤ g) :
    Ar (wb.setCells w.heap.size 0 (Tn.vals .u32).toList) w.heap.size Tn.list ∧ Ab (wb.setCells w.heap.size 0 (Tn.vals .u32).toList) g P ∧ w.heap.size < (wb.setCells w.heap.size 0 (Tn.vals .u32).toList).heap.size ∧ Below w.heap.size w (wb.setCells w.heap.size 0 (Tn.vals .u32).toList) := by
  have hdr : Below wr.heap.size wr wr.drew := (Below.refl _ _).drew
  have e0 : wr.drew.heap.size = wr.heap.size := rfl
  have s1 := hba.size
  have s2 := hbb.size
  have s3 := (below_setCells (Below.refl 0 wb) w.heap.size (Nat.zero_le _) (Tn.vals .u32).toList 0).size
  refine ⟨?_, (((hab.below hdr (Nat.le_refl _)).below hba (Nat.le_refl _)).below hbb (Nat.le_refl _)).setsOther _ _ _ (by omega), by omega, below_setCells ((hb.drew.trans (hba.mono (by omega))).trans (hbb.mono (by omega))) _ (Nat.le_refl _) _ _⟩
  rw [vals_uv]
  exact (((ha.below hdr hs).below hba (by omega)).below hbb (by omega)).sets _ (by rw [hL]; rfl)

set_option maxRecDepth 20000 in
set_option maxHeartbeats 1000000 in
theorem implDigest_any (v : Value) (l : List UInt8) (w : World) (hr : RdB w v l) (hl : l.length ≤ 4000000) (hgl : Gl w) :
    Calls Tryd.prog 31 #[v] w fun e w' => e = .returned (.string ⟨(bytesS (shaFold (padB l) (padQ l.length))).toArray⟩) ∧ Below w.heap.size w w' := by
  have c0 := hgl.start 0 (uv hC.a) rfl
  have c1 := hgl.start 1 (uv hC.b) rfl
  have c2 := hgl.start 2 (uv hC.c) rfl
  have c3 := hgl.start 3 (uv hC.d) rfl
  have c4 := hgl.start 4 (uv hC.e) rfl
  have c5 := hgl.start 5 (uv hC.f) rfl
  have c6 := hgl.start 6 (uv hC.g) rfl
  have c7 := hgl.start 7 (uv hC.h) rfl
  simp only [Nat.zero_add, uv] at c0 c1 c2 c3 c4 c5 c6 c7
  generalize hHC : hC = HC at c0 c1 c2 c3 c4 c5 c6 c7
  have HHC := hide hHC
  clear hHC
  obtain ⟨A, B, C, D, E, F, G, H⟩ := HC
  obtain ⟨av, cv, hv⟩ := hr.shape
  have Hr := hide hr
  have Hgl := hide hgl
  clear hr hgl
  rw [hv] at Hr ⊢
  clear hv
  obtain ⟨P, hP⟩ : ∃ P, padB l = P := ⟨_, rfl⟩
  obtain ⟨Q, hQ⟩ : ∃ Q, padQ l.length = Q := ⟨_, rfl⟩
  have hPQ : P.length = 64 * Q := by rw [← hP, ← hQ]; exact padB_q l
  have hQ1 : 1 ≤ Q := by rw [← hQ]; unfold padQ; omega
  have hQ2 : Q ≤ 70000 := by rw [← hQ]; unfold padQ; omega
  rw [hP, hQ]
  have HP := hide hP
  have HPQ := hide hPQ
  clear hP hQ hPQ
  go_enter Tryd.func31, Tryd.ntmps31
  go_wp2_with fail
  refine (implPadded_any _ l _ (Hr.out.below ((Below.refl w.heap.size w).alloc (Nat.le_refl _) _) (Nat.le_refl _)) hl).mono ?_
  rintro e w2 ⟨pv, rfl, ho, hb2⟩
  rw [HP.out] at ho
  have hPQ := HPQ.out
  have hs2 := hb2.size
  simp only [World.size_alloc] at hs2
  obtain ⟨g, cap, hpv, hcap, hcm⟩ := ho.shape (by intro e; rw [e] at hPQ; simp at hPQ; omega)
  have hab : Ab w2 g P ∧ w.heap.size + 1 ≤ g ∧ cap ≤ maxLen := ho.ab (by simpa using hpv) (by simp) (by omega)
  rw [hpv]
  have Ha : Hid (Ar w2 w.heap.size (shaFold P 0).list) := hide ((Ar.new w _ _ _ _ (by show _ = (hC.list.map uv).toArray; rw [HHC.out]; rfl) rfl).below hb2 (by simp))
  have Hab := hide hab.1
  have Hg := hide hab.2.1
  have Hcm := hide hab.2.2
  have Hb : Hid (Below w.heap.size w w2) := hide (((Below.refl w.heap.size w).alloc (Nat.le_refl _) _).trans (hb2.mono (by simp)))
  have Hs := hide (show w.heap.size < w2.heap.size by omega)
  have Hgl2 := hide (Hgl.out.below Hb.out (Nat.le_refl _))
  have hcap' : 64 * Q ≤ cap := by omega
  rw [hPQ]
  clear hPQ hab ho hb2 hs2 hpv c0 c1 c2 c3 c4 c5 c6 c7 hcap Hr
  go_wp2
  go_loopw [5] (fun iv wr => ∃ t at' : Nat, at' = 64 * t ∧ t ≤ Q ∧ iv = .int .i64 (at' : Int) ∧ Ar wr w.heap.size (shaFold P t).list ∧ Ab wr g P ∧ w.heap.size < wr.heap.size ∧ Below w.heap.size w wr) (fun iv _ => 64 * Q - (intOf iv).toNat)
  case atStart => exact ⟨0, 0, by omega, by omega, rfl, Ha.out, Hab.out, Hs.out, Hb.out⟩
  case round =>
    clear Ha Hab Hb Hs Hgl2
    obtain ⟨t, at', hat, ht, rfl, ha, hab, hs, hb⟩ := hrel
    have Hgl2 := hide (Hgl.out.below hb (Nat.le_refl _))
    by_cases hlt : t < Q
    · have hi1 : (at' : Int) < ((64 * Q : Nat) : Int) := by omega
      obtain ⟨en, hen⟩ : ∃ en, at' + 64 = en := ⟨_, rfl⟩
      have hi2 : IntKind.i64.wrap ((at' : Int) + 64) = (en : Int) := by rw [IntKind.wrap_i64]; omega
      have hi3 : (at' : Int) ≤ (en : Int) := by omega
      have hi4 : (en : Int) ≤ (cap : Int) := by omega
      have hi5 : at' < cap := by omega
      have hi6 : en ≤ cap := by omega
      have hi7 : en - at' = 64 := by omega
      have hi8 : at' ≤ en := by omega
      have hi9 : ¬ cap = at' := by omega
      have hfl := shaFold_lt P t
      have Hfn := hide (show shaFold P (t + 1) = blockS (shaFold P t) (wordsB (blk P t)) from rfl)
      have hPQ := HPQ.out
      have Hbl := hide (blk_len P t (by omega))
      have Hcell : Hid (∀ i (h : i < (blk P t).length), wr.cell? ⟨g, at' + i, none⟩ = some (.int .u8 ((blk P t)[i].toNat : Int))) := hide (by intro i h; rw [blk_at P t i (by omega) h, hat]; exact hab.2 (64 * t + i) (by have := Hbl.out; omega))
      generalize hT : shaFold P t = T at ha hfl Hfn
      generalize hB : blk P t = Bk at Hfn Hbl Hcell
      clear hT hB
      obtain ⟨a, b, c, d, e, f, g', h⟩ := T
      obtain ⟨d0, d1, d2, d3, d4, d5, d6, d7⟩ := ha.eight
      have Ha := hide ha
      have Hab := hide hab
      have Hs := hide hs
      have Hb := hide hb
      have Hat := hide hat
      clear ha hab hs hb hat hPQ
      generalize hTn : blockS ⟨a, b, c, d, e, f, g', h⟩ (wordsB Bk) = Tn at Hfn
      have HTn := hide hTn
      clear hTn
      go_wp2
      have Hcall := hide (shaWords_any g at' (cap - at') Bk wr.drew Hbl.out (by omega) (by have := Hcm.out; omega) Hab.out.1 (fun i h => ((Sm.refl wr).drew.cell _).trans (Hcell.out i h)))
      go_region_with (first
        | (go_at_call 48; refine Hcall.out.mono ?_; rintro e wa ⟨rfl, hba⟩; have Haa := hide ((Ha.out.sm (Sm.refl wr).drew).below hba Hs.out); obtain ⟨f0, f1, f2, f3, f4, f5, f6, f7⟩ := Haa.out.eight; have Hgla := hide ((Hgl2.out.below ((Below.refl wr.heap.size wr).drew) (Nat.le_refl _)).below hba (Nat.le_refl _)))
        | (go_at_call 47; refine (shaBlock_any a b c d e f g' h hfl (wordsB Bk) (wordsB_len _) (wordsB_lt _) _ Hgla.out).mono ?_; rintro e wb ⟨rfl, hbb⟩; rw [HTn.out]; have hstore := store_eight wb w.heap.size Tn (show wb.there w.heap.size 0 8 from (Haa.out.below hbb (Nat.lt_of_lt_of_le Hs.out hba.size)).there)))
      all_goals
        go_wp2
        go_roundw
        case rel => exact ⟨t + 1, en, by have := Hat.out; omega, by omega, congrArg (Value.int .i64) (by omega), by rw [Hfn.out]; exact dig_step Ha.out rfl Hab.out Hs.out Hb.out hba hbb Hg.out⟩
        case measure => simp [intOf]; have := Hat.out; omega
    · have etq : t = Q := by omega
      rw [etq] at ha hat
      generalize hT : shaFold P Q = T at ha
      have HT := hide hT
      clear hT etq
      obtain ⟨a, b, c, d, e, f, g', h⟩ := T
      obtain ⟨d0, d1, d2, d3, d4, d5, d6, d7⟩ := ha.eight
      have Hb := hide hb
      have Hs := hide hs
      have hge : ((64 * Q : Nat) : Int) ≤ (at' : Int) := by omega
      have hlq : decide ((at' : Int) < 64 * (Q : Int)) = false := by rw [decide_eq_false_iff_not]; omega
      clear hab hb hs ha hat
      go_wp2_with fail
      refine (shaBytes_any a b c d e f g' h _).mono ?_
      rintro e wb ⟨rfl, hbb⟩
      go_wp2
      go_ret
      exact ⟨by rw [HT.out]; rfl, Hb.out.trans (hbb.mono (Nat.le_of_lt Hs.out))⟩
end Go.Proofs.YtdelegamcebflaaDoor
