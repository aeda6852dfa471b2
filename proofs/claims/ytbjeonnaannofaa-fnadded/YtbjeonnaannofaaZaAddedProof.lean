/- A block that is put into a drawn tree is there, and the tree is right; chains are as they were, if it was right ahead of it, too: the law FnAdded returns true at every code, with no condition. -/
import Derived.Test.YtbjeonnaannofaaRows
import Derived.Test.YtbjeonnaannofaaZaBig
import Derived.Test.YtbjeonnaannofaaZaDrawAd
import Derived.Test.YtbjeonnaannofaaZaAdPure
import Derived.Test.YtbjeonnaannofaaZaAdCodeT
import Derived.Test.YtbjeonnaannofaaZaTrSpec
import Derived.Test.YtbjeonnaannofaaZaBkSameP
import Derived.Test.YtbjeonnaannofaaZaBkSameI
import Derived.WalkKit
import Derived.ProofKit
import Derived.OpenShut
import Derived.ShutString
import Derived.ChangeOld
import Derived.Below
import Derived.SliceStrings
namespace Go.Proofs.Ytbjeonnaannofaa
open Go.ChangeShapes Go.WideShapes Go.ChangeAt Go.RowKit
open Go.ChangeMaps (open_string shut_string)
set_option linter.unusedVariables false

theorem fnAdded_own : ownKnob Try.prog.godebug = none := by kernel_rfl
theorem fnAdded_laidOut : laidOutB Try.prog = true := by kernel_rfl

theorem load_bk {ops : Array Oper} {rest : List Oper} {op : Oper} {a : Act} {w : World} {Q : Exit → Act → World → Prop} (x : Operand) (ho : op.op = .load 37 x) (B : Nat) (hx : a.eval x = .pointer (some ⟨B, 0, none⟩)) {c0 c1 c2 c3 c4 c5 c6 c7 c8 c9 c10 c11 c12 c13 M : Value} (h : Blk w B 37 [c0, c1, c2, c3, c4, c5, c6, c7, c8, c9, c10, c11, c12, c13]) (hM : Value.agg #[c0, c1, c2, c3, c4, c5, c6, c7, c8, c9, c10, c11, c12, c13] = M)
    (hw : Region.wanted op (yielded ops a.tmps) = true) (hK : wpList Try.prog ops Q rest (a.put op.dst M) w) : wpList Try.prog ops Q (op :: rest) a w := by
  subst hM
  unfold wpList
  rw [if_pos hw]
  exact .inl (wp_load_mid 37 x ho B 0 hx [c0, c1, c2, c3, c4, c5, c6, c7, c8, c9, c10, c11, c12, c13] _ (fun j v hv => by rw [Nat.zero_add]; exact (h.cell j).trans hv) Try.underlying37 rfl (by kernel_rfl) hK)
set_option maxRecDepth 20000 in
set_option maxHeartbeats 8000000 in
theorem fnAdded_walk (a0 : Option Addr) (len0 cap0 : Nat) (z0 : List Int) (w : World) (w0 : IsRow .u8 w a0 len0 cap0 z0) :
    Calls Try.prog 4 #[.slice a0 len0 cap0] w fun e w' => e = .returned (.bool true) ∧ Below w.heap.size w w' := by
  obtain ⟨cd, rfl, hr⟩ := w0.rd
  clear w0
  have hcap : cd.length ≤ 9223372036854775807 := by
    rcases hr with ⟨_, _, _, e, _⟩ | ⟨_, _, cap, _, _, h1, h2, _⟩
    · subst e; simp
    · unfold maxLen at h2; omega
  have Hbig := hide (big_any _ cd w hr hcap)
  by_cases hbig : 1048576 < cd.length
  · rw [decide_eq_true hbig] at Hbig
    clear hr
    go_enter Try.func4, Try.ntmps4
    go_wp2_with fail
    refine Hbig.out.mono ?_
    rintro e w' ⟨rfl, rfl⟩
    go_wp2
    go_ret
    exact ⟨rfl, Below.refl _ _⟩
  rw [decide_eq_false hbig] at Hbig
  have HD := hide (drawAddTo_any w _ cd hr (by omega))
  clear hr hcap hbig
  go_enter Try.func4, Try.ntmps4
  go_wp2_with fail
  refine Hbig.out.mono ?_
  rintro e w1 ⟨rfl, rfl⟩
  clear Hbig
  go_wp2_with fail
  refine HD.out.mono ?_
  rintro e w2 ⟨v, l, b, bv, rfl, hr2, hlen, hlk, hrb, hfw, hb2⟩
  obtain ⟨va, vc, rfl⟩ := hr2.shape
  obtain ⟨aq, cq, aw, cw, ah, ch, at_, ct, an, cn, rfl⟩ := hrb.shapes9
  have hfl : ∀ x ∈ l, FewK x := fun x hx => (hlk x hx).few
  have hbl : ∀ x ∈ l, -9223372036854775808 ≤ x.tr ∧ x.tr ≤ 9223372036854775807 := fun x hx => (hlk x hx).bd
  have hbb : -9223372036854775808 ≤ b.tr ∧ b.tr ≤ 9223372036854775807 := by have := hfw.2; omega
  have HI := hide (fun V (hV : Below w2.heap.size w2 V) => implAddTo_any (.slice va l.length vc) l b _ V (hr2.below hV (Nat.le_refl _)) (hrb.below hV (Nat.le_refl _)) (by omega) hfl hfw.1 hbl hbb)
  have HS := hide (fun V (hV : Below w2.heap.size w2 V) => specAddTo_any (.slice va l.length vc) l b _ V (hr2.below hV (Nat.le_refl _)) (hrb.below hV (Nat.le_refl _)) (by omega) hfl hfw.1 hbl hbb)
  have HTS := hide (fun V (hV : Below w2.heap.size w2 V) => specTreeOk_any (.slice va l.length vc) l V (hr2.below hV (Nat.le_refl _)) (by omega) hfl hbl)
  have HTL := hide (fun V (hV : Below w2.heap.size w2 V) => implTreeOk_any (.slice va l.length vc) l V (hr2.below hV (Nat.le_refl _)) (by omega) hfl hbl)
  have HCL := hide (fun id V (hV : Below w2.heap.size w2 V) => implChainOf_any (.slice va l.length vc) l id V (hr2.below hV (Nat.le_refl _)) (by omega) hfl hbl)
  have HRB := hide (fun V (hV : Below w2.heap.size w2 V) => hrb.below hV (Nat.le_refl _))
  have HRL := hide (fun V (hV : Below w2.heap.size w2 V) => hr2.below hV (Nat.le_refl _))
  have HFA : Hid ((adS l b).1.length ≤ 1002 ∧ (∀ x ∈ (adS l b).1, FewK x) ∧ (∀ x ∈ (adS l b).1, -9223372036854775808 ≤ x.tr ∧ x.tr ≤ 9223372036854775807)) := hide (by
    have hx : ∀ x ∈ (adS l b).1, x = b ∨ x ∈ l := by
      cases h : (adS l b).2
      · rw [ad_no h]; exact fun x hx => .inr hx
      · exact (ad_yes h).2.2.2
    refine ⟨?_, fun x h => ?_, fun x h => ?_⟩
    · unfold adS
      split
      · simp only; omega
      · split
        · simp only [insK_len]; omega
        · simp only; omega
    · rcases hx x h with rfl | h
      · exact hfw.1
      · exact hfl x h
    · rcases hx x h with rfl | h
      · exact hbb
      · exact hbl x h)
  have HY := hide (fun h => ad_yes (l := l) (b := b) h)
  have HN := hide (fun h => ad_no (l := l) (b := b) h)
  have Hfb := hide hfw.1
  simp only [bkV] at HI HS ⊢
  generalize hx1 : (adS l b).1 = x at HI HS HFA HY HN
  generalize (adS l b).2 = ok at HI HS HY HN
  clear hx1
  obtain ⟨w3, hw3⟩ : ∃ y, w2.alloc (.cells #[.int .i64 b.id, .int .i64 b.ep, .int .i64 b.rd, .string b.md, .int .i64 b.qr, .int .i64 b.qb, .slice aq b.qw.length cq, .int .i64 b.tr, .slice aw b.tw.length cw, .slice ah b.th.length ch, .slice at_ b.ts.length ct, .bool b.en, .slice an b.nx.length cn, .string b.rt] 37) = y := ⟨_, rfl⟩
  have b3 : Below w2.heap.size w2 w3 := by rw [← hw3]; exact (Below.refl _ w2).alloc (Nat.le_refl _) _
  have k3 : Blk w3 w2.heap.size 37 [.int .i64 b.id, .int .i64 b.ep, .int .i64 b.rd, .string b.md, .int .i64 b.qr, .int .i64 b.qb, .slice aq b.qw.length cq, .int .i64 b.tr, .slice aw b.tw.length cw, .slice ah b.th.length ch, .slice at_ b.ts.length ct, .bool b.en, .slice an b.nx.length cn, .string b.rt] := by rw [← hw3]; exact Blk.new w2 _ _
  have HB2 := hide hb2
  have Hb3 := hide b3
  have Hw3 := hide hw3
  have K3 := hide k3
  clear HD hr2 hrb hfl hbl hbb hb2 k3 b3 hlk hw3 hfw
  go_upto_region 4 with fail
  rw [Hw3.out]
  clear Hw3
  obtain ⟨M, hM⟩ : ∃ y, Value.agg #[.int .i64 b.id, .int .i64 b.ep, .int .i64 b.rd, .string b.md, .int .i64 b.qr, .int .i64 b.qb, .slice aq b.qw.length cq, .int .i64 b.tr, .slice aw b.tw.length cw, .slice ah b.th.length ch, .slice at_ b.ts.length ct, .bool b.en, .slice an b.nx.length cn, .string b.rt] = y := ⟨_, rfl⟩
  rw [hM] at HI HS ⊢
  go_wp2_with (refine load_bk _ rfl w2.heap.size rfl K3.out hM (by rfl) ?_)
  refine (HI.out w3 Hb3.out).mono ?_
  rintro e w4 ⟨v4, rfl, o4, hb4⟩
  obtain ⟨xa, xc, rfl⟩ := o4.rd.shape
  have b4 := Hb3.out.trans (hb4.mono Hb3.out.size)
  have K4 := hide (K3.out.below hb4 K3.out.lt)
  have R4 := hide o4.rd
  have Hb4 := hide b4
  clear o4 hb4 b4 K3 HI
  go_wp2_with (refine load_bk _ rfl w2.heap.size rfl K4.out hM (by rfl) ?_)
  refine (HS.out w4 Hb4.out).mono ?_
  rintro e w5 ⟨v5, rfl, o5, hb5⟩
  obtain ⟨ya, yc, rfl⟩ := o5.rd.shape
  have b5 := Hb4.out.trans (hb5.mono Hb4.out.size)
  have K5 := hide (K4.out.below hb5 K4.out.lt)
  have R5 := hide (R4.out.below hb5 (Nat.le_refl _))
  have Hb5 := hide b5
  clear o5 hb5 b5 K4 R4 HS Hb4 Hb3
  cases ok
  · have hxl := HN.out rfl
    have hll : ((x.length : Int) == (l.length : Int)) = true := by rw [hxl]; simp
    clear hxl HN HY
    go_wp2
    go_ret
    exact ⟨rfl, HB2.out.trans (Hb5.out.mono HB2.out.size)⟩
  · have hy := HY.out rfl
    have Hba := hide (ba_in hy.1 hy.2.1)
    have Hy := hide hy
    have hxl := HFA.out.1
    have HBA := hide (fun V (hV : Below w5.heap.size w5 V) => implBlockAt_any (.slice xa x.length xc) x b.id V (R5.out.below hV (Nat.le_refl _)) (by omega) HFA.out.2.1)
    have HTX := hide (fun V (hV : Below w5.heap.size w5 V) => implTreeOk_any (.slice xa x.length xc) x V (R5.out.below hV (Nat.le_refl _)) (by omega) HFA.out.2.1 HFA.out.2.2)
    have HCX := hide (fun id V (hV : Below w5.heap.size w5 V) => implChainOf_any (.slice xa x.length xc) x id V (R5.out.below hV (Nat.le_refl _)) (by omega) HFA.out.2.1 HFA.out.2.2)
    rw [hy.1] at HTX
    clear hy HN HY
    have x0 := K5.out.cell 0
    simp only [List.getElem?_cons_zero] at x0
    go_wp2_with fail
    refine (HBA.out w5 (Below.refl _ _)).mono ?_
    rintro e w6 ⟨v6, he, o6, -, hb6⟩
    rw [Hba.out.1, decide_eq_true Hba.out.2] at he
    rw [Hba.out.1] at o6
    subst he
    obtain ⟨aq6, cq6, aw6, cw6, ah6, ch6, at6, ct6, an6, cn6, rfl⟩ := o6.rd.shapes9
    have b6 := Hb5.out.trans (hb6.mono Hb5.out.size)
    have k6 := K5.out.below hb6 K5.out.lt
    simp only [bkV]
    obtain ⟨w7, hw7⟩ : ∃ y, w6.alloc (.cells #[.int .i64 b.id, .int .i64 b.ep, .int .i64 b.rd, .string b.md, .int .i64 b.qr, .int .i64 b.qb, .slice aq6 b.qw.length cq6, .int .i64 b.tr, .slice aw6 b.tw.length cw6, .slice ah6 b.th.length ch6, .slice at6 b.ts.length ct6, .bool b.en, .slice an6 b.nx.length cn6, .string b.rt] 37) = y := ⟨_, rfl⟩
    have b7 : Below w6.heap.size w6 w7 := by rw [← hw7]; exact (Below.refl _ w6).alloc (Nat.le_refl _) _
    have Y7 : Hid (Blk w7 w6.heap.size 37 [.int .i64 b.id, .int .i64 b.ep, .int .i64 b.rd, .string b.md, .int .i64 b.qr, .int .i64 b.qb, .slice aq6 b.qw.length cq6, .int .i64 b.tr, .slice aw6 b.tw.length cw6, .slice ah6 b.th.length ch6, .slice at6 b.ts.length ct6, .bool b.en, .slice an6 b.nx.length cn6, .string b.rt]) := hide (by rw [← hw7]; exact Blk.new w6 _ _)
    have K7 := hide (k6.below b7 k6.lt)
    have RY := hide (o6.rd.below b7 (Nat.le_refl _))
    have Hb7 := hide (b6.trans (b7.mono b6.size))
    have Hc7 := hide (hb6.trans (b7.mono hb6.size))
    have Hw7 := hide hw7
    have HSB := hide (fun V (h2 : Below w2.heap.size w2 V) (h7 : Below w7.heap.size w7 V) => implSameBlock_any b b _ _ V (RY.out.below h7 (Nat.le_refl _)) (HRB.out V h2) Hfb.out Hfb.out)
    rw [sb9_self] at HSB
    simp only [bkV] at HSB
    clear x0 o6 hb6 b6 k6 K5 b7 hw7 Hba HBA
    go_upto_region 9 with fail
    rw [Hw7.out]
    clear Hw7
    obtain ⟨My, hMy⟩ : ∃ y, Value.agg #[.int .i64 b.id, .int .i64 b.ep, .int .i64 b.rd, .string b.md, .int .i64 b.qr, .int .i64 b.qb, .slice aq6 b.qw.length cq6, .int .i64 b.tr, .slice aw6 b.tw.length cw6, .slice ah6 b.th.length ch6, .slice at6 b.ts.length ct6, .bool b.en, .slice an6 b.nx.length cn6, .string b.rt] = y := ⟨_, rfl⟩
    rw [hM, hMy] at HSB
    rw [hMy]
    go_wp2_with fail
    refine (HTS.out w7 Hb7.out).mono ?_
    rintro e w8 ⟨rfl, hb8⟩
    have Hb8 := hide (Hb7.out.trans (hb8.mono Hb7.out.size))
    have Hc8 := hide (Hc7.out.trans (hb8.mono Hc7.out.size))
    have K8 := hide (K7.out.below hb8 K7.out.lt)
    have Y8 := hide (Y7.out.below hb8 Y7.out.lt)
    have Hd8 := hide hb8
    clear hb8 K7 Y7 Hb7 Hc7 HTS
    cases htl : treeB l
    · rw [htl] at HTL
      go_wp2_with (first
        | (go_at_call 10; (with_reducible refine (HTL.out _ d10).mono ?_); rintro e w11 ⟨rfl, hb11⟩; have d11 := d10.trans (hb11.mono d10.size))
        | (go_at_call 10; (with_reducible refine (HTX.out _ c9).mono ?_); rintro e w10 ⟨rfl, hb10⟩; have d10 := d9.trans (hb10.mono d9.size))
        | (go_at_call 18; (with_reducible refine (HSB.out _ Hb8.out Hd8.out).mono ?_); rintro e w9 ⟨rfl, hb9⟩; have d9 := Hb8.out.trans (hb9.mono Hb8.out.size); have c9 := Hc8.out.trans (hb9.mono Hc8.out.size))
        | (refine load_bk _ rfl w2.heap.size rfl K8.out hM (by rfl) ?_)
        | (refine load_bk _ rfl w6.heap.size rfl Y8.out hMy (by rfl) ?_))
      go_ret
      exact ⟨rfl, HB2.out.trans (d11.mono HB2.out.size)⟩
    · have Hco := hide (co_sub htl Hy.out.1 Hy.out.2.2.1)
      have Hcn := hide (co_new htl Hy.out.1 Hy.out.2.2.1 Hy.out.2.2.2 Hy.out.2.1)
      have Hcl : Hid (∀ id, (coA l id).length ≤ 1001) := hide (fun id => by rw [co_tree htl, List.length_map]; have := chA_len (treeP_of htl) id; omega)
      clear HTL Hy
      go_wp2
      go_loopw [11] (fun iv wr => ∃ i : Nat, i ≤ l.length ∧ iv = .int .i64 (i : Int) ∧ Below w8.heap.size w8 wr) (fun iv _ => l.length - (intOf iv).toNat)
      case atStart => exact ⟨0, Nat.zero_le _, rfl, Below.refl _ _⟩
      case round =>
        obtain ⟨i, hi, rfl, hbr⟩ := hrel
        have Hbr := hide (Hb8.out.trans (hbr.mono Hb8.out.size))
        have Hcr := hide (Hc8.out.trans (hbr.mono Hc8.out.size))
        have Hdr := hide (Hd8.out.trans (hbr.mono Hd8.out.size))
        have H8r := hide hbr
        have Kr := hide (K8.out.below hbr K8.out.lt)
        have Yr := hide (Y8.out.below hbr Y8.out.lt)
        clear hbr
        by_cases hlt : i < l.length
        · obtain ⟨gl, off, hag, hgl, hcell⟩ := (HRL.out w2 (Below.refl _ _)).parts9 (by omega)
          have hci : w2.cell? ⟨gl, off + i * 14, none⟩ = some (.int .i64 l[i].id) := by
            obtain ⟨lv, hat, _⟩ := hcell i hlt
            exact hat.cells.1
          subst hag
          have HSS : Hid (∀ V, Below w2.heap.size w2 V → V.cell? ⟨gl, off + i * 14, none⟩ = some (.int .i64 l[i].id)) := hide (fun V hV => (hV.cell (p := ⟨gl, off + i * 14, none⟩) hgl).trans hci)
          have Hci := Hco.out i hlt
          have HX9 := hide (fun V (hV : Below w5.heap.size w5 V) => HCX.out l[i].id V hV)
          have HL9 := hide (fun V (hV : Below w2.heap.size w2 V) => HCL.out l[i].id V hV)
          rw [Hci] at HX9
          have hcl := Hcl.out l[i].id
          have hli : (i : Int) < (l.length : Int) := by omega
          have bD : Below wr.heap.size wr wr.drew := (Below.refl _ wr).drew
          have HbD := hide (Hbr.out.trans (bD.mono Hbr.out.size))
          have HcD := hide (Hcr.out.trans (bD.mono Hcr.out.size))
          have H8D := hide (H8r.out.trans (bD.mono H8r.out.size))
          clear hci hcell hgl Hci
          generalize coA l l[i].id = C at HX9 HL9 hcl
          have HSI := hide (fun (v1 v2 : Value) (V : World) (h1 : RdI V v1 C) (h2 : RdI V v2 C) => sameInts_any v1 v2 C V h1 h2 (by omega))
          generalize l[i].id = ix at HSS HX9 HL9
          go_wp2
          go_region_held_law (fun w' => w'.cell? ⟨gl, off + i * 14, none⟩ = some (.int .i64 ix)) ((refine HSS.out _ ?_; repeat (first | with_reducible exact HbD.out | with_reducible exact Hbr.out | with_reducible exact p2 | with_reducible exact q2 | with_reducible exact p1 | with_reducible exact q1 | with_reducible exact p3 | with_reducible exact q3 | refine Below.drew ?_)))
            ((first
            | (go_at_call 19; (with_reducible refine (HSI.out _ _ _ (ox.rd.below hbl2 (Nat.le_refl _)) ol2.rd).mono ?_); rintro e w13 ⟨rfl, hb13⟩; have p3 := p2.trans (hb13.mono p2.size); have r3 := r2.trans (hb13.mono r2.size))
            | (go_at_call 19; (with_reducible refine (HSI.out _ _ _ ox2.rd (ol.rd.below hbx2 (Nat.le_refl _))).mono ?_); rintro e w13 ⟨rfl, hb13⟩; have q3 := q2.trans (hb13.mono q2.size); have r3 := s2.trans (hb13.mono s2.size))
            | (go_at_call 11; (with_reducible refine (HL9.out _ p1).mono ?_); rintro e w12 ⟨vl, rfl, ol2, hbl2⟩; have p2 := p1.trans (hbl2.mono p1.size); have r2 := r1.trans (hbl2.mono r1.size); have hsl := ol2.rd.shape; obtain ⟨al2, cl2, rfl⟩ := hsl)
            | (go_at_call 11; (with_reducible refine (HX9.out _ s0).mono ?_); rintro e w12 ⟨vx, rfl, ox2, hbx2⟩; have q2 := q1.trans (hbx2.mono q1.size); have s2 := s1.trans (hbx2.mono s1.size); have hsl := ox2.rd.shape; obtain ⟨al2, cl2, rfl⟩ := hsl)
            | (go_at_call 11; (with_reducible refine (HX9.out _ HcD.out).mono ?_); rintro e w11 ⟨vx, rfl, ox, hbx⟩; have p1 := HbD.out.trans (hbx.mono HbD.out.size); have r1 := H8D.out.trans (hbx.mono H8D.out.size); have hsl := ox.rd.shape; obtain ⟨al1, cl1, rfl⟩ := hsl)
            | (go_at_call 11; (with_reducible refine (HL9.out _ HbD.out).mono ?_); rintro e w11 ⟨vl, rfl, ol, hbl⟩; have q1 := HbD.out.trans (hbl.mono HbD.out.size); have s0 := HcD.out.trans (hbl.mono HcD.out.size); have s1 := H8D.out.trans (hbl.mono H8D.out.size); have hsl := ol.rd.shape; obtain ⟨al1, cl1, rfl⟩ := hsl)))
          all_goals
            go_wp2
            go_roundw
            case rel => exact ⟨i + 1, by omega, by go_num, r3⟩
            case measure => simp [intOf]; omega
        · have xk := Kr.out.cell 0
          have xq := Kr.out.cell 5
          simp only [List.getElem?_cons_zero, List.getElem?_cons_succ] at xk xq
          have HX9 := hide (HCX.out b.id wr Hcr.out)
          rw [Hcn.out] at HX9
          have HL9 := hide (fun V (hV : Below w2.heap.size w2 V) => HCL.out b.qb V hV)
          have hcl := Hcl.out b.qb
          generalize coA l b.qb = C at HX9 HL9 hcl
          have HRr := hide (Below.refl wr.heap.size wr)
          clear xq
          go_wp2_with fail
          refine HX9.out.mono ?_
          rintro e w11 ⟨vx, rfl, ox, hbx⟩
          have hsh := ox.rd.shape
          rw [List.length_append, List.length_cons, List.length_nil, Nat.zero_add] at hsh
          obtain ⟨ax, cx, rfl⟩ := hsh
          have Hb11 := hide (Hbr.out.trans (hbx.mono Hbr.out.size))
          have Hc11 := hide (Hcr.out.trans (hbx.mono Hcr.out.size))
          have Hd11 := hide (Hdr.out.trans (hbx.mono Hdr.out.size))
          have K11 := hide (Kr.out.below hbx Kr.out.lt)
          have Y11 := hide (Yr.out.below hbx Yr.out.lt)
          have hpos : (0 : Int) < ((C.length + 1 : Nat) : Int) := by omega
          have ew : IntKind.i64.wrap ((C.length : Int) + 1) = ((C.length + 1 : Nat) : Int) := by rw [IntKind.wrap_i64]; omega
          clear ox hbx xk
          go_wp2_with (first
            | (go_at_call 11; (with_reducible refine (HL9.out _ d13).mono ?_); rintro e w14 ⟨vl, rfl, ol, hb14⟩; have d14 := d13.trans (hb14.mono d13.size); obtain ⟨al, cl, rfl⟩ := ol.rd.shape)
            | (go_at_call 10; (with_reducible refine (HTX.out _ c12).mono ?_); rintro e w13 ⟨rfl, hb13⟩; have d13 := d12.trans (hb13.mono d12.size); have k13 := k12.below hb13 k12.lt; have xq := k13.cell 5; simp only [List.getElem?_cons_zero, List.getElem?_cons_succ] at xq)
            | (go_at_call 18; (with_reducible refine (HSB.out _ Hb11.out Hd11.out).mono ?_); rintro e w12 ⟨rfl, hb12⟩; have d12 := Hb11.out.trans (hb12.mono Hb11.out.size); have c12 := Hc11.out.trans (hb12.mono Hc11.out.size); have k12 := K11.out.below hb12 K11.out.lt)
            | (refine load_bk _ rfl w2.heap.size rfl K11.out hM (by rfl) ?_)
            | (refine load_bk _ rfl w6.heap.size rfl Y11.out hMy (by rfl) ?_))
          go_ret
          exact ⟨rfl, HB2.out.trans (d14.mono HB2.out.size)⟩

set_option maxRecDepth 100000 in
theorem fnAdded_lifted (os : Os) (started : os.Started) (H : Type) (enc : TypeId × Value → H) :
    ReturnsInHanded {} Try.checked os 4 .any (Rows.fnAddedSpec.pre6 enc Try.prog Try.f4 Rows.fnAddedRow.domain false) (Rows.fnAddedSpec.post enc Try.prog Try.f4 false true false false) := by
  refine returnsInHanded_of_change (C := Try.checked) fnAdded_own started (by kernel_rfl) Try.func4
    (ChangeSpec.witness6 (enc := enc) (C := Try.checked) false ⟨#[], #[.slice none 0 0], []⟩ 8 (by kernel_rfl) (by kernel_rfl) (by kernel_rfl) (by kernel_rfl)) ?_
  intro W base args ds gs before hval0 hW hcnd _
  have hval : ∀ (j : Nat) t v, Try.f4.params[j]? = some t → args[j]? = some v → Value.okWide Try.prog W .any base t v := hval0
  have hW' := hW
  obtain ⟨p, q, hA0, hV, rfl, hfz, hnd⟩ := hW
  have hA : DataW.TrodAll enc Try.prog W 0 (fun _ => true) true Try.f4.params.toList args.toList ds p := hA0
  rw [Try.params4] at hA hval
  obtain ⟨v0, vs0, d0, ds0, p0, q0, hargs, rfl, rfl, h0, r0⟩ := trodAll_cons hA
  obtain ⟨rfl, rfl, rfl⟩ := trodAll_nil r0
  obtain rfl : args = #[v0] := by cases args; simp_all
  obtain ⟨rfl, rfl⟩ := trodVars_none hV
  obtain ⟨a0, len0, cap0, rfl⟩ := okWide_slice Try.underlying22 (hval 0 22 v0 rfl rfl)
  have k0 := h0
  have lt0 : ∀ x ∈ p0, x.block < W.heap.size := by obtain ⟨m, hm⟩ := k0; exact DataW.trod_lt m _ _ _ hm
  obtain ⟨z0, w0⟩ : ∃ zs, IsRow .u8 W a0 len0 cap0 zs := by
    obtain ⟨fuel, hf⟩ := h0
    rcases open_ints Try.underlying22 Try.underlying5 (by kernel_rfl) hf with ⟨hcs, _⟩ | ⟨x, l, c, zs, hcs, _, hl, hm, hz, _, hcell, hwz⟩
    · simp [Value.cells] at hcs
      obtain ⟨rfl, rfl, rfl⟩ := hcs
      exact ⟨[], .inl ⟨rfl, rfl, rfl, rfl⟩⟩
    · simp [Value.cells] at hcs
      obtain ⟨rfl, rfl, rfl⟩ := hcs
      exact ⟨zs, .inr ⟨_, rfl, hl, hm, by simpa using hz, hcell, hwz⟩⟩
  clear hA0 hval0
  refine (fnAdded_walk a0 len0 cap0 z0 W w0).mono fun e W' ⟨he, bel⟩ => ?_
  subst he
  exact ⟨_, rfl, _, _, _, [], _, [], hW', trodAll_mk1 (shut_bool Try.underlying4 _), (trodAll_cons_mk (Below.trod fnAdded_laidOut (by kernel_rfl) (of_decide_eq_true (by kernel_rfl)) k0 bel lt0) trodAll_mk0), rfl, bel.frame _, fun h => by cases h⟩

theorem fnAdded_holds : Rows.FnAddedSaid :=
  OpenClaim.holds_of_wide 4 Try.f4 rfl rfl rfl rfl rfl rfl rfl ⟨rfl, rfl, rfl, rfl, rfl⟩ rfl rfl rfl rfl rfl (by kernel_rfl) Try.func4 (by kernel_rfl)
    (of_decide_eq_true (by kernel_rfl)) (by unfold Func.isWrapper; first | (rw [if_pos (by decide +kernel)]; kernel_rfl) | (rw [if_neg (by decide +kernel)]; exact ⟨rfl, rfl⟩))
    (fun os started H enc _ => fnAdded_lifted os started H enc)

end Go.Proofs.Ytbjeonnaannofaa
