/- The model's GatherQc. -/
import Derived.Test.YtdelegamcebflaaCtSpec
import Derived.Test.YtdelegamcebflaaDrawCq
import Derived.Lib.QuietBelow
import Derived.BigQuiet
import Derived.Deep.RegionLaw
namespace Go.Proofs.Ytdelegamcebflaa
open Go.RowKit Go.Sort
set_option linter.unusedVariables false

/-- Whether a name has such a vote. -/
def votedB (vs : List Tr) (r b : Int) (n : ByteArray) : Bool := vs.any (fun t => decide (t = (r, b, n)))
/-- Those of the list who voted so. -/
def whoQ (l : List Vl) (vs : List Tr) (r b : Int) : List ByteArray := (l.map (·.1)).filter (votedB vs r b)
theorem whoQ_len (l : List Vl) (vs : List Tr) (r b : Int) : (whoQ l vs r b).length ≤ l.length := by
  have := List.length_filter_le (votedB vs r b) (l.map (·.1))
  rw [List.length_map] at this
  exact this
theorem whoQ_in (l : List Vl) (vs : List Tr) (r b : Int) (k : Nat) (h : k < l.length) (hs : votedB vs r b l[k].1 = true) : whoQ (l.take (k + 1)) vs r b = whoQ (l.take k) vs r b ++ [l[k].1] := by
  unfold whoQ
  rw [List.take_succ_eq_append_getElem h, List.map_append, List.filter_append]
  simp [hs]
theorem whoQ_out (l : List Vl) (vs : List Tr) (r b : Int) (k : Nat) (h : k < l.length) (hs : votedB vs r b l[k].1 = false) : whoQ (l.take (k + 1)) vs r b = whoQ (l.take k) vs r b := by
  unfold whoQ
  rw [List.take_succ_eq_append_getElem h, List.map_append, List.filter_append]
  simp [hs]
theorem voted_snoc (vs : List Tr) (r b : Int) (n : ByteArray) (k : Nat) (h : k < vs.length) : votedB (vs.take (k + 1)) r b n = (votedB (vs.take k) r b n || decide (vs[k] = (r, b, n))) := by
  unfold votedB
  rw [List.take_succ_eq_append_getElem h, List.any_append]
  simp
theorem step_appS {ops : Array Oper} {o : Oper} {a : Act} {w : World} {K : Act → World → Prop} {Q : Exit → Act → World → Prop} {E : Prop} (hgd : o.guard = none) (s x : Operand)
    (ho : o.op = .call { callee := .builtin .append, args := #[s, x], argTypes := #[28, 28] })
    (base : Nat) (v : Value) (B : Nat) (l : List ByteArray) (p : ByteArray) (hs : a.eval s = v) (hx : a.eval x = .slice (some ⟨B, 0, none⟩) 1 1) (hown : OwnS base w v l) (hblk : Blk w B 9 [.string p])
    (hlen : l.length ≤ 100000000) (hbase : base ≤ w.heap.size)
    (h : ∀ v' w', OwnS base w' v' (l ++ [p]) → w.grownBy w' v.ownBlock → (v'.ownBlock = v.ownBlock ∨ v'.ownBlock = some w.heap.size) → K (a.put o.dst v') w') : if Region.wanted o (yielded ops a.tmps) = true then Oper.wp Try.prog o a w K Q else E := by
  have hw : Region.wanted o (yielded ops a.tmps) = true := by simp [Region.wanted, hgd]
  rw [if_pos hw]
  obtain ⟨i0, hi, hz0, hz1, hz2⟩ := info_parts Try.infoStr
  obtain ⟨v', w', hr, h2, h3, h4, h5⟩ := run_append_own_at (P := Try.prog) w base 28 o.type 9 i0 (.string ByteArray.empty) 1 16 Try.underlying28 hi hz0 hz1 hz2 rfl (by decide) v l.length (l.map Value.string) hown ⟨B, 0, none⟩ 1 1 [.string p] rfl (fun j u hj => by rw [add_flatR, Nat.zero_add, hblk.cell j]; exact hj) (fun u hu => by
    simp only [List.mem_cons, List.not_mem_nil, or_false] at hu
    subst hu; rfl) (by unfold maxLen; omega) (by omega) hbase
  unfold Oper.wp execOp
  simp only [ho, resolve, invoke, builtin, Sem.run_bind, Sem.run_pure, Result.andThen_ok, List.map_toArray, List.map_cons, List.map_nil, hs, hx, hr]
  exact h v' w' (by unfold OwnS; rw [List.length_append, List.map_append]; simpa using h2) h3 h5
theorem Blk.keptC {W W' : World} {row : Option Nat} {B : Nat} {t : TypeId} {cs : List Value} (h : Blk W B t cs) (hg : W.grownBy W' row) (hne : ∀ q, row = some q → q ≠ B) : Blk W' B t cs := (hg.block B h.lt (fun e => hne B e.symm rfl)).trans h
/-- What GatherQc answers. -/
def gaQ (l : List Vl) (vs : List Tr) (r b : Int) : (Int × Int × List ByteArray) × Bool := if qcB l r b (whoQ l vs r b) = true ∧ rootB r b (whoQ l vs r b) = false then ((r, b, whoQ l vs r b), true) else ((0, 0, []), false)
set_option maxRecDepth 20000 in
set_option maxHeartbeats 4000000 in
theorem specGatherQc_any (v vv : Value) (l : List Vl) (vs : List Tr) (r b : Int) (w : World) (hr : RdV w v l) (hrv : RdR w vv vs) (hl : l.length ≤ 1000000) (hlv : vs.length ≤ 4000000) (hs : ∀ p ∈ l, p.1.size ≤ maxLen) (hm : ModV l) :
    Calls Try.prog 7 #[v, vv, .int .i64 r, .int .i64 b] w fun e w' => ∃ vw, e = .returned (.tuple #[qcV (gaQ l vs r b).1.1 (gaQ l vs r b).1.2.1 vw, .bool (gaQ l vs r b).2]) ∧ OwnS w.heap.size w' vw (gaQ l vs r b).1.2.2 ∧ Below w.heap.size w w' := by
  obtain ⟨al, cl, rfl⟩ := hr.shape
  obtain ⟨av, cv, rfl⟩ := hrv.shape
  have Hr := hide hr
  have Hrv := hide hrv
  clear hr hrv
  go_enter Try.func7, Try.ntmps7
  go_wp2
  obtain ⟨w2, hw2⟩ : ∃ x, (w.alloc (.cells #[.int .i64 0, .int .i64 0, .slice none 0 0] 30)).alloc (.cells #[.int .i64 r, .int .i64 b, .slice none 0 0] 30) = x := ⟨_, rfl⟩
  rw [hw2]
  have hb2 : Below w.heap.size w w2 := by rw [← hw2]; exact ((Below.refl _ w).alloc (Nat.le_refl _) _).alloc (by simp) _
  have hs2 : w2.heap.size = w.heap.size + 2 := by rw [← hw2]; simp
  have kR : Blk w2 w.heap.size 30 [.int .i64 0, .int .i64 0, .slice none 0 0] := by
    rw [← hw2]
    exact (Blk.new w 30 [.int .i64 0, .int .i64 0, .slice none 0 0]).below ((Below.refl (w.heap.size + 1) _).alloc (by simp) _) (by omega)
  have kQ : Blk w2 (w.heap.size + 1) 30 [.int .i64 r, .int .i64 b, .slice none 0 0] := by
    rw [← hw2]
    have h := Blk.new (w.alloc (.cells #[.int .i64 0, .int .i64 0, .slice none 0 0] 30)) 30 [.int .i64 r, .int .i64 b, .slice none 0 0]
    simp only [World.size_alloc] at h
    exact h
  have HB2 := hide hb2
  have HS2 := hide hs2
  have KR := hide kR
  have KQ := hide kQ
  have Hsz := hide hs
  have Hmod := hide hm
  clear hb2 hs2 kR kQ hs hm
  go_loopw [11] (fun iv wr => ∃ (i : Nat) (a : Option Addr) (c : Nat), i ≤ l.length ∧ iv = .int .i64 (i : Int) ∧ Blk wr (w.heap.size + 1) 30 [.int .i64 r, .int .i64 b, .slice a (whoQ (l.take i) vs r b).length c] ∧ OwnS (w.heap.size + 2) wr (.slice a (whoQ (l.take i) vs r b).length c) (whoQ (l.take i) vs r b) ∧ Below (w.heap.size + 1) w2 wr) (fun iv _ => l.length - (intOf iv).toNat)
  case atStart => exact ⟨0, none, 0, Nat.zero_le _, rfl, KQ.out, World.ownsRow_nil _ _ _ _, Below.refl _ _⟩
  case round =>
    obtain ⟨i, a, c, hi, rfl, kq, ho, hb⟩ := hrel
    clear KQ hw2
    obtain ⟨w4, rfl⟩ : ∃ x, x = wr := ⟨_, rfl⟩
    have hs2 := HS2.out
    have hzr := hb.size
    have hBw : Below w.heap.size w w4 := HB2.out.trans (hb.mono (by omega))
    by_cases hlt : i < l.length
    · obtain ⟨bl, ol, rfl, hc1, hc2, hbl, hcl, -⟩ := Hr.out.at hlt
      have hli : (i : Int) < (l.length : Int) := by omega
      have c0 := (hBw.cell (p := ⟨bl, ol + i * 2, none⟩) hbl).trans hcl
      have hwl := whoQ_len (l.take i) vs r b
      have htk : (l.take i).length ≤ l.length := by simp; omega
      have Hin := hide (whoQ_in l vs r b i hlt)
      have Hout := hide (whoQ_out l vs r b i hlt)
      generalize whoQ (l.take i) vs r b = N at kq ho hwl Hin Hout
      generalize l[i].1 = nm at c0 hcl Hin Hout
      have Kq := hide kq
      have Ho := hide ho
      have Hb := hide hb
      have HBw := hide hBw
      clear kq ho hb hBw hcl
      go_wp2
      go_loopw [12, 13] (fun hv kv wr => ∃ k : Nat, k ≤ vs.length ∧ kv = .int .i64 (k : Int) ∧ hv = .bool (votedB (vs.take k) r b nm) ∧ Below w4.heap.size w4 wr) (fun _ kv _ => vs.length - (intOf kv).toNat)
      case atStart => exact ⟨0, Nat.zero_le _, rfl, rfl, Below.refl _ _⟩
      case round =>
        obtain ⟨k, hk, rfl, rfl, hq⟩ := hrel
        by_cases hkl : k < vs.length
        · obtain ⟨bv, ov, rfl, hv1, hv2, hbv, hat⟩ := Hrv.out.at hkl
          have hki : (k : Int) < (vs.length : Int) := by omega
          obtain ⟨t0, t1, t2⟩ := hat.below (HBw.out.trans (hq.mono HBw.out.size)) hbv
          have n0 := (hq.cell (p := ⟨bl, ol + i * 2, none⟩) (show bl < w4.heap.size by omega)).trans c0
          have Hsn := hide (voted_snoc vs r b nm k hkl)
          generalize vs[k] = t at t0 t1 t2 Hsn hat
          obtain ⟨ta, tb, tn⟩ := t
          simp only at t0 t1 t2
          have g0 := cell_regrown t0
          have g1 := cell_regrown t1
          have g2 := cell_regrown t2
          have gn := cell_regrown n0
          clear t0 t1 t2 n0 hat
          generalize votedB (vs.take k) r b nm = D at Hsn ⊢
          have Hq := hide hq
          clear hq
          cases D
          · rw [Bool.false_or] at Hsn
            by_cases h1 : ta = r
            · rw [h1] at g0 Hsn
              clear h1
              by_cases h2 : tb = b
              · rw [h2] at g1 Hsn
                clear h2
                by_cases h3 : tn = nm
                · rw [h3] at g2 Hsn
                  clear h3
                  rw [decide_eq_true rfl] at Hsn
                  go_wp2
                  refine wp_region_quiet_below (by kernel_rfl) (by kernel_rfl) ?_
                  repeat (go_big_quiet_step (fail))
                  refine wpQuiet_nil ?_
                  intro _ hw'
                  obtain ⟨⟨dq, osq⟩, hw''⟩ := hw'
                  subst hw''
                  go_wp2
                  go_roundw
                  case rel => exact ⟨k + 1, by omega, by go_num, by rw [Hsn.out], Hq.out.trans ((below_regrown wr dq osq).mono Hq.out.size)⟩
                  case measure => simp [intOf]; omega
                · rw [decide_eq_false (by intro e; simp only [Prod.mk.injEq] at e; exact h3 e.2.2)] at Hsn
                  have hD := bytes_ne h3
                  clear h3
                  go_wp2
                  refine wp_region_quiet_below (by kernel_rfl) (by kernel_rfl) ?_
                  repeat (go_big_quiet_step (fail))
                  refine wpQuiet_nil ?_
                  intro _ hw'
                  obtain ⟨⟨dq, osq⟩, hw''⟩ := hw'
                  subst hw''
                  go_wp2
                  go_roundw
                  case rel => exact ⟨k + 1, by omega, by go_num, by rw [Hsn.out], Hq.out.trans ((below_regrown wr dq osq).mono Hq.out.size)⟩
                  case measure => simp [intOf]; omega
              · rw [decide_eq_false (by intro e; simp only [Prod.mk.injEq] at e; exact h2 e.2.1)] at Hsn
                have hD : (tb == b) = false := by rw [beq_eq_false_iff_ne]; exact h2
                clear h2
                go_wp2
                refine wp_region_quiet_below (by kernel_rfl) (by kernel_rfl) ?_
                repeat (go_big_quiet_step (fail))
                refine wpQuiet_nil ?_
                intro _ hw'
                obtain ⟨⟨dq, osq⟩, hw''⟩ := hw'
                subst hw''
                go_wp2
                go_roundw
                case rel => exact ⟨k + 1, by omega, by go_num, by rw [Hsn.out], Hq.out.trans ((below_regrown wr dq osq).mono Hq.out.size)⟩
                case measure => simp [intOf]; omega
            · rw [decide_eq_false (by intro e; simp only [Prod.mk.injEq] at e; exact h1 e.1)] at Hsn
              have hD : (ta == r) = false := by rw [beq_eq_false_iff_ne]; exact h1
              clear h1
              go_wp2
              refine wp_region_quiet_below (by kernel_rfl) (by kernel_rfl) ?_
              repeat (go_big_quiet_step (fail))
              refine wpQuiet_nil ?_
              intro _ hw'
              obtain ⟨⟨dq, osq⟩, hw''⟩ := hw'
              subst hw''
              go_wp2
              go_roundw
              case rel => exact ⟨k + 1, by omega, by go_num, by rw [Hsn.out], Hq.out.trans ((below_regrown wr dq osq).mono Hq.out.size)⟩
              case measure => simp [intOf]; omega
          · rw [Bool.true_or] at Hsn
            go_wp2
            refine wp_region_quiet_below (by kernel_rfl) (by kernel_rfl) ?_
            repeat (go_big_quiet_step (fail))
            refine wpQuiet_nil ?_
            intro _ hw'
            obtain ⟨⟨dq, osq⟩, hw''⟩ := hw'
            subst hw''
            go_wp2
            go_roundw
            case rel => exact ⟨k + 1, by omega, by go_num, by rw [Hsn.out], Hq.out.trans ((below_regrown wr dq osq).mono Hq.out.size)⟩
            case measure => simp [intOf]; omega
        · have ek : k = vs.length := by omega
          subst ek
          rw [List.take_length]
          have Kq4 := hide (Kq.out.below hq Kq.out.lt)
          have Ho4 := hide (Ho.out.below hq (Nat.le_refl _))
          have n0 := (hq.cell (p := ⟨bl, ol + i * 2, none⟩) (show bl < w4.heap.size by omega)).trans c0
          have Hq := hide hq
          have hzq := hq.size
          clear hq
          cases hD : votedB vs r b nm
          · have Hout := hide (Hout.out hD)
            clear Hin hD n0
            go_wp2
            go_roundw
            case rel => exact ⟨i + 1, a, c, by omega, by go_num, by rw [Hout.out]; exact Kq4.out, by rw [Hout.out]; exact Ho4.out, Hb.out.trans (Hq.out.mono (by omega))⟩
            case measure => simp [intOf]; omega
          · have Hin := hide (Hin.out hD)
            clear Hout hD
            have x2 := Kq4.out.cell 2
            have f2 := Kq4.out.frozen 2
            simp only [List.getElem?_cons_zero, List.getElem?_cons_succ] at x2
            have hbl4 : bl < wr.heap.size := by omega
            go_wp2
            have Hown : Hid (OwnS (w.heap.size + 2) (wr.alloc (.cells #[.string nm] 9)).drew (.slice a N.length c) N) := hide ((Ho4.out.below ((Below.refl _ wr).alloc (Nat.le_refl _) _) (Nat.le_refl _)).below (Below.refl _ _).drew (Nat.le_refl _))
            have Hblk : Hid (Blk (wr.alloc (.cells #[.string nm] 9)).drew (w.heap.size + 1) 30 [.int .i64 r, .int .i64 b, .slice a N.length c]) := hide ((Kq4.out.below ((Below.refl _ wr).alloc (Nat.le_refl _) _) (Kq4.out.lt)).below (Below.refl (wr.heap.size + 1) _).drew (by have := Kq4.out.lt; omega))
            have x2a := (Kq4.out.below ((Below.refl _ wr).alloc (Nat.le_refl _) (.cells #[.string nm] 9)) Kq4.out.lt).cell 2
            simp only [List.getElem?_cons_zero, List.getElem?_cons_succ] at x2a
            go_region_law ((refine step_appS rfl _ _ rfl (w.heap.size + 2) (.slice a N.length c) wr.heap.size N nm (by rfl) (by rfl) Hown.out (Blk.newR wr _ [.string nm] _ rfl) (by omega) (by simp; omega) ?_; intro v7 w7 ho7 hg7 hl7; have k7 := Hblk.out.keptC hg7 (fun q hq => by have := Hown.out.ge q hq; omega); have hsh := ho7.rd.shape; rw [List.length_append, List.length_cons, List.length_nil, Nat.zero_add] at hsh; obtain ⟨a7, c7, hv7⟩ := hsh; subst hv7; have x7 := k7.cell 2; have f7 := k7.frozen 2; simp only [List.getElem?_cons_zero, List.getElem?_cons_succ] at x7))
            all_goals
              have hb7 : Below (w.heap.size + 1) wr w7 := ((((Below.refl (w.heap.size + 1) wr).alloc (by omega) (.cells #[.string nm] 9)).drew).grown hg7 (by simp; omega) (fun q hq => by have := Hown.out.ge q hq; omega))
              have HB7 := hide ((Hb.out.trans ((Hq.out.mono (by omega)).trans hb7)).setCell (p := ⟨w.heap.size + 1, 2, none⟩) (Nat.le_refl _) (.slice a7 (N.length + 1) c7))
              have HK7 := hide (k7.setC 2 (.slice a7 (N.length + 1) c7))
              have HO7 := hide (ho7.olderC (g := w.heap.size + 1) (by omega) 2 (.slice a7 (N.length + 1) c7))
              have HlN : Hid ((N ++ [nm]).length = N.length + 1) := hide (by simp)
              clear hb7 k7 ho7 hg7 hl7
              go_wp2
              go_roundw
              case rel => exact ⟨i + 1, a7, c7, by omega, by go_num, by rw [Hin.out, HlN.out]; exact HK7.out, by rw [Hin.out, HlN.out]; exact HO7.out, HB7.out⟩
              case measure => simp [intOf]; omega
    · have ei : i = l.length := by omega
      subst ei
      rw [List.take_length] at kq ho
      have hwl := whoQ_len l vs r b
      have hws : ∀ s ∈ whoQ l vs r b, s.size ≤ maxLen := fun s hs => by
        obtain ⟨p, hp, rfl⟩ := List.mem_map.1 (List.mem_filter.1 hs).1
        exact Hsz.out p hp
      have HG : Hid (gaQ l vs r b = if qcB l r b (whoQ l vs r b) = true ∧ rootB r b (whoQ l vs r b) = false then ((r, b, whoQ l vs r b), true) else ((0, 0, []), false)) := hide rfl
      generalize whoQ l vs r b = N at kq ho hwl hws HG
      have HQ := hide (specQcOk_any (.slice al l.length cl) (.slice a N.length c) l r b N w4 (Hr.out.below hBw (Nat.le_refl _)) ho.rd (by omega) (by omega) hws Hmod.out)
      have HRt := hide (fun V (h : RdS V (.slice a N.length c) N) => specL8Root_any r b (.slice a N.length c) N V h (by omega))
      simp only [qcV] at HQ HRt
      generalize qcB l r b N = Q0 at HQ HG
      generalize rootB r b N = R0 at HRt HG
      have x0 := kq.cell 0
      have x1 := kq.cell 1
      have x2 := kq.cell 2
      simp only [List.getElem?_cons_zero, List.getElem?_cons_succ] at x0 x1 x2
      have kR4 := KR.out.below hb (by omega)
      have Kq := hide kq
      have Ho := hide ho
      have HBw := hide hBw
      have KR4 := hide kR4
      clear kq ho hb hBw hws kR4 KR
      go_wp2_with fail
      refine HQ.out.mono ?_
      rintro e w5 ⟨rfl, hb5⟩
      have hB5 := HBw.out.trans (hb5.mono HBw.out.size)
      have k5 := Kq.out.below hb5 Kq.out.lt
      have r5 := KR4.out.below hb5 KR4.out.lt
      have o5 := Ho.out.below hb5 (Nat.le_refl _)
      have y0 := k5.cell 0
      have y1 := k5.cell 1
      have y2 := k5.cell 2
      have z0 := r5.cell 0
      have z1 := r5.cell 1
      have z2 := r5.cell 2
      have f0 := r5.frozen 0
      have f1 := r5.frozen 1
      have f2 := r5.frozen 2
      simp only [List.getElem?_cons_zero, List.getElem?_cons_succ] at y0 y1 y2 z0 z1 z2
      clear x0 x1 x2 Kq KR4 Ho HQ
      cases Q0
      · rw [if_neg (by simp)] at HG
        have HBF := hide (((hB5.setCell (p := ⟨w.heap.size, 0, none⟩) (Nat.le_refl _) (.int .i64 0)).setCell (p := ⟨w.heap.size, 1, none⟩) (Nat.le_refl _) (.int .i64 0)).setCell (p := ⟨w.heap.size, 2, none⟩) (Nat.le_refl _) (.slice none 0 0))
        clear k5 r5 o5 hb5 hB5
        go_wp2
        refine bodyPost_ret (v := .tuple #[.agg #[.int .i64 0, .int .i64 0, .slice none 0 0], .bool false]) (by simp [results, Try.f7, go_sem, z0, z1, z2]) rfl ?_
        rw [HG.out]
        exact ⟨_, rfl, World.ownsRow_nil _ _ _ _, HBF.out⟩
      · have HR5 := hide (HRt.out _ o5.rd)
        go_wp2_with fail
        refine HR5.out.mono ?_
        rintro e w6 ⟨rfl, hb6⟩
        have hB6 := hB5.trans (hb6.mono hB5.size)
        have k6 := k5.below hb6 k5.lt
        have r6 := r5.below hb6 r5.lt
        have o6 := o5.below hb6 (Nat.le_refl _)
        have p0 := k6.cell 0
        have p1 := k6.cell 1
        have p2 := k6.cell 2
        have u0 := r6.cell 0
        have u1 := r6.cell 1
        have u2 := r6.cell 2
        have g0 := r6.frozen 0
        have g1 := r6.frozen 1
        have g2 := r6.frozen 2
        simp only [List.getElem?_cons_zero, List.getElem?_cons_succ] at p0 p1 p2 u0 u1 u2
        clear y0 y1 y2 z0 z1 z2 f0 f1 f2 k5 r5 o5 hb5 hB5 HR5
        cases R0
        · rw [if_pos (by simp)] at HG
          have HBF := hide (((hB6.setCell (p := ⟨w.heap.size, 0, none⟩) (Nat.le_refl _) (.int .i64 r)).setCell (p := ⟨w.heap.size, 1, none⟩) (Nat.le_refl _) (.int .i64 b)).setCell (p := ⟨w.heap.size, 2, none⟩) (Nat.le_refl _) (.slice a N.length c))
          have HOF := hide ((((o6.olderC (g := w.heap.size) (by omega) 0 (.int .i64 r)).olderC (g := w.heap.size) (by omega) 1 (.int .i64 b)).olderC (g := w.heap.size) (by omega) 2 (.slice a N.length c)).mono (show w.heap.size ≤ w.heap.size + 2 by omega))
          clear k6 r6 o6 hb6 hB6
          go_wp2
          refine bodyPost_ret (v := .tuple #[.agg #[.int .i64 r, .int .i64 b, .slice a N.length c], .bool true]) (by simp [results, Try.f7, go_sem, u0, u1, u2]) rfl ?_
          rw [HG.out]
          exact ⟨_, rfl, HOF.out, HBF.out⟩
        · rw [if_neg (by simp)] at HG
          have HBF := hide (((hB6.setCell (p := ⟨w.heap.size, 0, none⟩) (Nat.le_refl _) (.int .i64 0)).setCell (p := ⟨w.heap.size, 1, none⟩) (Nat.le_refl _) (.int .i64 0)).setCell (p := ⟨w.heap.size, 2, none⟩) (Nat.le_refl _) (.slice none 0 0))
          clear k6 r6 o6 hb6 hB6
          go_wp2
          refine bodyPost_ret (v := .tuple #[.agg #[.int .i64 0, .int .i64 0, .slice none 0 0], .bool false]) (by simp [results, Try.f7, go_sem, u0, u1, u2]) rfl ?_
          rw [HG.out]
          exact ⟨_, rfl, World.ownsRow_nil _ _ _ _, HBF.out⟩
end Go.Proofs.Ytdelegamcebflaa
