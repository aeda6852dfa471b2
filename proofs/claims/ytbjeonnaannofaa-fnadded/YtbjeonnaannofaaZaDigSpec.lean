/- The model's Digest. -/
import Derived.Test.YtbjeonnaannofaaZaBlSpec
import Derived.Test.YtbjeonnaannofaaZaBytes32
namespace Go.Proofs.Ytbjeonnaannofaa
open Go.RowKit
set_option linter.unusedVariables false

theorem RdB.drew {w : World} {v : Value} {l : List UInt8} (h : RdB w v l) : RdB w.drew v l := h.below ((Below.refl w.heap.size w).drew) (Nat.le_refl _)
theorem u8_at (x d : Nat) : IntKind.u8.wrap ((x : Int) / (d : Int)) = (((UInt8.ofNat (x / d % 256)).toNat : Nat) : Int) := by
  rw [IntKind.wrap_u8', byte_at]
theorem u8_at1 (x : Nat) : IntKind.u8.wrap (x : Int) = (((UInt8.ofNat (x % 256)).toNat : Nat) : Int) := by
  rw [IntKind.wrap_u8', byte_at1]

set_option maxRecDepth 20000 in
set_option maxHeartbeats 2000000 in
theorem specDigest_any (v : Value) (l : List UInt8) (w : World) (hr : RdB w v l) (hl : l.length ≤ 4000000) :
    Calls Try.prog 137 #[v] w fun e w' => e = .returned (.string ⟨(bytesS (shaFold (padB l) (padQ l.length))).toArray⟩) ∧ Below w.heap.size w w' := by
  have Hp := hide (specPadded_any v l w hr hl)
  clear hr
  obtain ⟨P, hP⟩ : ∃ P, padB l = P := ⟨_, rfl⟩
  obtain ⟨Q, hQ⟩ : ∃ Q, padQ l.length = Q := ⟨_, rfl⟩
  have hPQ : P.length = 64 * Q := by rw [← hP, ← hQ]; exact padB_q l
  have hQ1 : 1 ≤ Q := by rw [← hQ]; unfold padQ; omega
  have hQ2 : Q ≤ 70000 := by rw [← hQ]; unfold padQ; omega
  rw [hP] at Hp ⊢
  rw [hQ]
  have HPQ := hide hPQ
  clear hP hQ hPQ
  go_enter Try.func137, Try.ntmps137
  go_wp2_with fail
  refine Hp.out.mono ?_
  rintro e w2 ⟨pv, rfl, ho, hb2⟩
  have hPQ := HPQ.out
  obtain ⟨g, cap, hpv, hcap, hcm⟩ := ho.shape (by intro e; rw [e] at hPQ; simp at hPQ; omega)
  have hab := ho.ab (by simpa using hpv) (Nat.le_refl _) (by omega)
  rw [hpv, hPQ]
  have hcap' : 64 * Q ≤ cap := by omega
  have Hab := hide hab.1
  have Hcm := hide hab.2.2
  have Hb2 := hide hb2
  have hs2 := hb2.size
  clear hab ho hb2 hpv hcap hPQ Hp
  go_wp2_with fail
  refine (l2K_any _).mono ?_
  rintro e w3 ⟨rfl, hk3, hb3⟩
  have hs3 := hb3.size
  simp only [World.size_alloc] at hs3
  have Ha : Hid (An w3 w2.heap.size (shaFold P 0).list) := hide ((An.new w2 _ _ _ _ rfl rfl).below hb3 (by simp))
  have Hb3 : Hid (Below w2.heap.size w2 w3) := hide (((Below.refl w2.heap.size w2).alloc (Nat.le_refl _) _).trans (hb3.mono (by simp)))
  have Hk := hide hk3
  have Hab3 := hide (Hab.out.below Hb3.out (Nat.le_refl _))
  clear hk3 hb3 Hab
  have hkg : w2.heap.size + 1 < w3.heap.size := by have := Hk.out.1; simp only [World.size_alloc] at this; exact this
  have Hk' : Hid (An w3 (w2.heap.size + 1) kC) := hide (by have := Hk.out; simp only [World.size_alloc] at this; exact this)
  clear Hk
  go_wp2
  go_loopw [4, 6] (fun ov iv' wr => ∃ (t at' gh ch : Nat), at' = 64 * t ∧ t ≤ Q ∧ iv' = .int .i64 (at' : Int) ∧ ov = .slice (some ⟨gh, 0, none⟩) 8 ch ∧ An wr gh (shaFold P t).list ∧ Below w3.heap.size w3 wr) (fun _ iv' _ => 64 * Q - (intOf iv').toNat)
  case atStart => exact ⟨0, 0, w2.heap.size, 8, by omega, by omega, rfl, rfl, Ha.out, Below.refl _ _⟩
  case round =>
    clear Ha
    obtain ⟨t, at', gh, ch, hat, ht, rfl, rfl, han, hb⟩ := hrel
    by_cases hlt : t < Q
    · have hi1 : (at' : Int) < ((64 * Q : Nat) : Int) := by omega
      obtain ⟨en, hen⟩ : ∃ en, at' + 64 = en := ⟨_, rfl⟩
      have hi2 : (at' : Int) + 64 = (en : Int) := by omega
      have hi3 : (at' : Int) ≤ (en : Int) := by omega
      have hi4 : (en : Int) ≤ (cap : Int) := by omega
      have hi5 : at' < cap := by omega
      have hi6 : en ≤ cap := by omega
      have hi7 : en - at' = 64 := by omega
      have hi8 : at' ≤ en := by omega
      have hi9 : ¬ cap = at' := by omega
      have hPQ := HPQ.out
      have Hfn := hide (show shaFold P (t + 1) = blockS (shaFold P t) (wordsB (blk P t)) from rfl)
      have hbl := blk_len P t (by omega)
      have hab := Hab3.out.below hb (Nat.le_refl _)
      have hcell : ∀ i (h : i < (blk P t).length), wr.cell? ⟨g, at' + i, none⟩ = some (.int .u8 ((blk P t)[i].toNat : Int)) := by intro i h; rw [blk_at P t i (by omega) h, hat]; exact hab.2 (64 * t + i) (by omega)
      have Hcall := hide (specBlock_any gh ch g at' (cap - at') (w2.heap.size + 1) 64 (shaFold P t) (blk P t) wr (shaFold_lt P t) han (Hk'.out.below hb hkg) hbl (by omega) (by have := Hcm.out; omega) hab.1 hcell)
      rw [← Hfn.out] at Hcall
      have Hb := hide hb
      have Hat := hide hat
      have hsw := hb.size
      clear hat han hb hab hcell hbl hPQ Hfn
      go_wp2_with fail
      refine Hcall.out.mono ?_
      rintro e wb ⟨g', cp, rfl, han', hg', hbb⟩
      go_wp2
      go_roundw
      case rel => exact ⟨t + 1, en, g', cp, by have := Hat.out; omega, by omega, rfl, rfl, han', Hb.out.trans (hbb.mono hsw)⟩
      case measure => simp [intOf]; have := Hat.out; omega
    · obtain ⟨wz, rfl⟩ : ∃ wz, wz = wr := ⟨_, rfl⟩
      have etq : t = Q := by omega
      rw [etq] at han hat
      have hlq : decide ((at' : Int) < 64 * (Q : Int)) = false := by rw [decide_eq_false_iff_not]; omega
      have hge : ((64 * Q : Nat) : Int) ≤ (at' : Int) := by omega
      obtain ⟨L, hL⟩ : ∃ L, (shaFold P Q).list = L := ⟨_, rfl⟩
      have hLl : L.length = 8 := by rw [← hL]; rfl
      have hbs : bytesS (shaFold P Q) = L.flatMap be4 := by unfold bytesS; rw [hL]
      have Hbs := hide hbs
      rw [hL] at han
      have Hbq : Hid (Below w.heap.size w wz) := hide (Hb2.out.trans ((Hb3.out.mono hs2).trans (hb.mono (by have := Hb3.out.size; omega))))
      have hsz : w.heap.size ≤ wz.heap.size := Hbq.out.size
      have Han := hide han
      have hghl : gh < wz.heap.size := han.1
      have Ho := hide (own_nil wz wz.heap.size (Nat.le_refl _))
      have Hbr := hide ((Below.refl wz.heap.size wz).alloc (Nat.le_refl _) (.cells #[] 5))
      clear hat han hb hL hbs etq
      go_wp2
      go_loopw [7, 8] (fun ov iv' wq => ∃ k : Nat, k ≤ 8 ∧ iv' = .int .i64 (k : Int) ∧ OwnB wz.heap.size wq ov ((L.take k).flatMap be4) ∧ Below wz.heap.size wz wq) (fun _ iv' _ => 8 - (intOf iv').toNat)
      case atStart => exact ⟨0, by omega, rfl, by simpa using Ho.out, Hbr.out⟩
      case round =>
        clear Ho Hbr
        obtain ⟨k, hk, rfl, ho, hb⟩ := hrel
        have hsq := hb.size
        have Ho := hide ho
        have Hb := hide hb
        by_cases hk8 : k < 8
        · have hki : (k : Int) < 8 := by omega
          have cx := (Han.out.below hb hghl).2 k (by omega)
          have Hsn := hide (flat_snoc L k (by omega))
          have hTl : ((L.take k).flatMap be4).length ≤ 32 := by rw [flatB_len]; simp; omega
          generalize L[k]'(by omega) = x at cx Hsn
          generalize hT : (L.take k).flatMap be4 = T at Ho Hsn hTl
          have y0 : IntKind.u8.wrap ((x : Int) / 16777216) = (((UInt8.ofNat (x / 16777216 % 256)).toNat : Nat) : Int) := u8_at x 16777216
          have y1 : IntKind.u8.wrap ((x : Int) / 65536) = (((UInt8.ofNat (x / 65536 % 256)).toNat : Nat) : Int) := u8_at x 65536
          have y2 : IntKind.u8.wrap ((x : Int) / 256) = (((UInt8.ofNat (x / 256 % 256)).toNat : Nat) : Int) := u8_at x 256
          have y3 := u8_at1 x
          have Hx := hide (show be4 x = [UInt8.ofNat (x / 16777216 % 256), UInt8.ofNat (x / 65536 % 256), UInt8.ofNat (x / 256 % 256), UInt8.ofNat (x % 256)] from rfl)
          generalize UInt8.ofNat (x / 16777216 % 256) = b0 at y0 Hx
          generalize UInt8.ofNat (x / 65536 % 256) = b1 at y1 Hx
          generalize UInt8.ofNat (x / 256 % 256) = b2 at y2 Hx
          generalize UInt8.ofNat (x % 256) = b3 at y3 Hx
          rw [Hx.out] at Hsn
          clear hT ho hb Hx
          go_wp2
          go_region_held_law (fun w' => w'.cell? ⟨gh, k, none⟩ = some (.int .i64 (x : Int))) (go_keep)
            ((refine step_app_own rfl _ _ rfl wz.heap.size u7 _ T [b0, b1, b2, b3] (by rfl) (by rfl) (Ho.out.alloc _).drew (rd_four wr _ _ _ _ b0 b1 b2 b3 _ rfl rfl rfl rfl rfl).drew (by simp) (by simp; omega) (by simp; omega) ?_; intro v3 w3 ho3 hb3; have hbB : Below wz.heap.size wr w3 := (((Below.refl _ wr).alloc hsq _).drew).trans hb3; have kx := (hbB.cell (p := ⟨gh, k, none⟩) hghl).trans cx))
          go_wp2
          go_roundw
          case rel => exact ⟨k + 1, by omega, by go_num, by rw [Hsn.out]; exact ho3, Hb.out.trans hbB⟩
          case measure => simp [intOf]; omega
        · have e8 : k = 8 := by omega
          rw [List.take_of_length_le (by omega)] at ho
          have hcv := str_own _ _ _ ho.rd (own_some ho (by rw [flatB_len]; omega))
          clear ho hb
          go_wp2
          go_ret
          exact ⟨by rw [Hbs.out]; rfl, Hbq.out.trans (Hb.out.mono hsz)⟩
end Go.Proofs.Ytbjeonnaannofaa
