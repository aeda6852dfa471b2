/- Ledgers held against each other, by the landed code. -/
import Derived.Test.YteefibiikampbaaGreatDoorZfLgNextI
import Derived.Test.YteefibiikampbaaGreatDoorZfLdMid
import Derived.Test.YteefibiikampbaaGreatDoorZfLgAllI
import Derived.Test.YteefibiikampbaaGreatDoorZfSfAcS
set_option maxRecDepth 20000
set_option maxHeartbeats 4000000
namespace Go.Proofs.YteefibiikampbaaGreatDoor
open Go.RowKit
set_option linter.unusedVariables false
theorem implNext_any (e:Int) (v:Value) (l:List Ac) (w:World) (hr:RdA w v l) (hl:l.length<=4000000) (hall:∀ a ∈ l,a.1.size<=maxLen/\a.2.2.2.2.length<=4000000) :
    Calls Tryz.prog 68 #[lgV e v] w fun en w'=>∃ v',en=.returned (lgV (neA e l).1 v')/\OwnA w.heap.size w' v' (neA e l).2/\Below w.heap.size w w':=by
  obtain ⟨av,cv,rfl⟩:=hr.shape
  have hall2:∀ a ∈ l,a.2.2.2.2.length<=4000000:=fun a ha=>(hall a ha).2
  have hfa:=fr_all (wrap64 (e+1)) l hall
  obtain ⟨w2,hw2⟩:∃ w2,(w.alloc (.cells #[.int .i64 e,.slice av l.length cv] 36)).alloc (.cells #[.int .i64 0,.slice none 0 0] 36)=w2:=⟨_,rfl⟩
  have hs2:w2.heap.size=w.heap.size+2:=by rw [<- hw2];simp
  have hb2:Below w.heap.size w w2:=by rw [<- hw2];exact ((Below.refl _ w).alloc (Nat.le_refl _) _).alloc (by simp) _
  have k1:Blk w2 w.heap.size 36 [.int .i64 e,.slice av l.length cv]:=by
    rw [<- hw2]
    exact (Blk.new w 36 [.int .i64 e,.slice av l.length cv]).alloc _
  have k2:Blk w2 (w.heap.size+1) 36 [.int .i64 0,.slice none 0 0]:=by
    rw [<- hw2]
    have h:=Blk.new (w.alloc (.cells #[.int .i64 e,.slice av l.length cv] 36)) 36 [.int .i64 0,.slice none 0 0]
    simp only [World.size_alloc] at h
    exact h
  have c0:=k1.cell 0
  have c1:=k1.cell 1
  simp only [List.getElem?_cons_zero,List.getElem?_cons_succ] at c0 c1
  have r2:=hr.below hb2 (Nat.le_refl _)
  have HC:=hide (implBehindL_any e _ l w2 r2 hl hall2)
  have HO:=hide (fun w hr=>implLedgerOk_any e (.slice av l.length cv) l w hr hl hall)
  have HN:=hide (fun v w hr=>implLedgerOk_any (wrap64 (e+1)) v (l.map (frA (wrap64 (e+1)))) w hr (by simpa using hl) hfa)
  have HD:=hide (fun w hr=>implCopiedLg_any e (.slice av l.length cv) l w hr hl hall2)
  simp only [lgV] at HC HO HN HD ⊢
  have Hb2:=hide hb2
  have K1:=hide k1
  have K2:=hide k2
  have Hr2:=hide r2
  clear hr hb2 k1 k2 hall hall2 hfa r2
  go_enter Tryz.func68,Tryz.ntmps68
  go_wp2_with fail
  refine HC.out.mono ?_
  rintro en w3 ⟨v3,rfl,ho3,hb3⟩
  have hB3:=Hb2.out.trans (hb3.mono Hb2.out.size)
  have hs3:=hb3.size
  obtain ⟨a3,cv3,rfl⟩:=ho3.rd.shape
  obtain ⟨n,hn⟩:∃ n,(l.map (frA (wrap64 (e+1)))).length=n:=⟨_,rfl⟩
  rw [hn] at ho3
  obtain ⟨w4,hw4⟩:∃ w4,w3.alloc (.cells #[.int .i64 (wrap64 (e+1)),.slice a3 n cv3] 36)=w4:=⟨_,rfl⟩
  have b4:Below w3.heap.size w3 w4:=by rw [<- hw4];exact (Below.refl _ w3).alloc (Nat.le_refl _) _
  have hB4:Below w.heap.size w w4:=hB3.trans (b4.mono hB3.size)
  have n4:Blk w4 w3.heap.size 36 [.int .i64 (wrap64 (e+1)),.slice a3 n cv3]:=by rw [<- hw4];exact Blk.new w3 _ _
  have k14:=(K1.out.below hb3 K1.out.lt).below b4 (K1.out.below hb3 K1.out.lt).lt
  have k24:=(K2.out.below hb3 K2.out.lt).below b4 (K2.out.below hb3 K2.out.lt).lt
  have o4:=ho3.below b4 (Nat.le_refl _)
  have r4:=(Hr2.out.below hb3 (Nat.le_refl _)).below b4 (Nat.le_refl _)
  have hs4:w4.heap.size=w3.heap.size+1:=by rw [<- hw4];simp
  rw [hn]
  have d0:=k14.cell 0
  have d1:=k14.cell 1
  simp only [List.getElem?_cons_zero,List.getElem?_cons_succ] at d0 d1
  have Hno:Hid (lgB e l=false->neA e l=(e,l)):=hide neA_old
  have Hno2:Hid (lgB (wrap64 (e+1)) (l.map (frA (wrap64 (e+1))))=false->neA e l=(e,l)):=hide neA_new
  have Hyes:Hid (lgB e l=true->lgB (wrap64 (e+1)) (l.map (frA (wrap64 (e+1))))=true->neA e l=(wrap64 (e+1),l.map (frA (wrap64 (e+1))))):=hide neA_yes
  clear c0 c1 K1 K2 HC hb3 hB3 ho3 b4 Hr2
  go_wp2_with fail
  refine (HO.out _ r4).mono ?_
  rintro en w5 ⟨rfl,hb5⟩
  have hB5:Below w.heap.size w w5:=hB4.trans (hb5.mono hB4.size)
  have k15:=k14.below hb5 k14.lt
  have k25:=k24.below hb5 k24.lt
  have n5:=n4.below hb5 n4.lt
  have o5:=o4.below hb5 (Nat.le_refl _)
  have r5:=r4.below hb5 (Nat.le_refl _)
  clear d0 d1 k14 k24 n4 o4 r4 hB4
  cases h1:lgB e l
  · have Hne:=hide (Hno.out h1)
    have d0:=k15.cell 0
    have d1:=k15.cell 1
    simp only [List.getElem?_cons_zero,List.getElem?_cons_succ] at d0 d1
    clear Hno Hno2 Hyes h1
    go_wp2_with fail
    refine (HD.out _ r5).mono ?_
    rintro en w6 ⟨v6,rfl,ho6,hb6⟩
    have k26:=k25.below hb6 k25.lt
    obtain ⟨a6,cv6,rfl⟩:=ho6.rd.shape
    have r0:=k26.cell 0
    have r1:=k26.cell 1
    have g0:=k26.frozen 0
    have g1:=k26.frozen 1
    simp only [List.getElem?_cons_zero,List.getElem?_cons_succ] at r0 r1
    have hz5:=hb5.size
    have Ho:=hide (((ho6.older (g:=w.heap.size+1) (by omega) 0 (.int .i64 e)).older (g:=w.heap.size+1) (by omega) 1 (.slice a6 l.length cv6)).mono (show w.heap.size<=_ by omega))
    have HB:=hide (((hB5.trans (hb6.mono hB5.size)).setCell (p:=⟨w.heap.size+1,0,none⟩) (show w.heap.size<=w.heap.size+1 by omega) (.int .i64 e)).setCell (p:=⟨w.heap.size+1,1,none⟩) (show w.heap.size<=w.heap.size+1 by omega) (.slice a6 l.length cv6))
    clear ho6 hb6 k26
    go_wp2
    refine bodyPost_ret (v:=.agg #[.int .i64 e,.slice a6 l.length cv6]) (by simp [results,Tryz.f68,go_sem,r0,r1]) rfl ?_
    rw [Hne.out]
    exact ⟨_,rfl,Ho.out,HB.out⟩
  · have d0:=n5.cell 0
    have d1:=n5.cell 1
    simp only [List.getElem?_cons_zero,List.getElem?_cons_succ] at d0 d1
    have Hyes:=hide (Hyes.out h1)
    clear Hno h1
    go_wp2_with fail
    refine (HN.out _ _ o5.rd).mono ?_
    rintro en w7 ⟨rfl,hb7⟩
    have hB7:Below w.heap.size w w7:=hB5.trans (hb7.mono hB5.size)
    have k17:=k15.below hb7 k15.lt
    have k27:=k25.below hb7 k25.lt
    have n7:=n5.below hb7 n5.lt
    have o7:=o5.below hb7 (Nat.le_refl _)
    have r7:=r5.below hb7 (Nat.le_refl _)
    have hz7:=hb7.size
    clear d0 d1 k15 k25 n5 o5 r5
    cases h2:lgB (wrap64 (e+1)) (l.map (frA (wrap64 (e+1))))
    · have Hne:=hide (Hno2.out h2)
      have d0:=k17.cell 0
      have d1:=k17.cell 1
      simp only [List.getElem?_cons_zero,List.getElem?_cons_succ] at d0 d1
      clear Hno2 Hyes h2
      go_wp2_with fail
      refine (HD.out _ r7).mono ?_
      rintro en w6 ⟨v6,rfl,ho6,hb6⟩
      have k26:=k27.below hb6 k27.lt
      obtain ⟨a6,cv6,rfl⟩:=ho6.rd.shape
      have r0:=k26.cell 0
      have r1:=k26.cell 1
      have g0:=k26.frozen 0
      have g1:=k26.frozen 1
      simp only [List.getElem?_cons_zero,List.getElem?_cons_succ] at r0 r1
      have hz5:=hb5.size
      have Ho:=hide (((ho6.older (g:=w.heap.size+1) (by omega) 0 (.int .i64 e)).older (g:=w.heap.size+1) (by omega) 1 (.slice a6 l.length cv6)).mono (show w.heap.size<=_ by omega))
      have HB:=hide (((hB7.trans (hb6.mono hB7.size)).setCell (p:=⟨w.heap.size+1,0,none⟩) (show w.heap.size<=w.heap.size+1 by omega) (.int .i64 e)).setCell (p:=⟨w.heap.size+1,1,none⟩) (show w.heap.size<=w.heap.size+1 by omega) (.slice a6 l.length cv6))
      clear ho6 hb6 k26
      go_wp2
      refine bodyPost_ret (v:=.agg #[.int .i64 e,.slice a6 l.length cv6]) (by simp [results,Tryz.f68,go_sem,r0,r1]) rfl ?_
      rw [Hne.out]
      exact ⟨_,rfl,Ho.out,HB.out⟩
    · have Hne:=hide (Hyes.out h2)
      have d0:=n7.cell 0
      have d1:=n7.cell 1
      have r0:=k27.cell 0
      have r1:=k27.cell 1
      have g0:=k27.frozen 0
      have g1:=k27.frozen 1
      simp only [List.getElem?_cons_zero,List.getElem?_cons_succ] at d0 d1 r0 r1
      have hz5:=hb5.size
      have Ho:=hide (((o7.older (g:=w.heap.size+1) (by omega) 0 (.int .i64 (wrap64 (e+1)))).older (g:=w.heap.size+1) (by omega) 1 (.slice a3 n cv3)).mono (show w.heap.size<=_ by omega))
      have HB:=hide ((hB7.setCell (p:=⟨w.heap.size+1,0,none⟩) (show w.heap.size<=w.heap.size+1 by omega) (.int .i64 (wrap64 (e+1)))).setCell (p:=⟨w.heap.size+1,1,none⟩) (show w.heap.size<=w.heap.size+1 by omega) (.slice a3 n cv3))
      clear Hno2 Hyes h2 o7 r7 k17 k27 n7
      go_wp2
      refine bodyPost_ret (v:=.agg #[.int .i64 (wrap64 (e+1)),.slice a3 n cv3]) (by simp [results,Tryz.f68,go_sem,r0,r1]) rfl ?_
      rw [Hne.out]
      exact ⟨_,rfl,Ho.out,HB.out⟩
end Go.Proofs.YteefibiikampbaaGreatDoor
namespace Go.Proofs.YteefibiikampbaaGreatDoor
open Go.RowKit Go.Sort
set_option linter.unusedVariables false
set_option linter.unusedSimpArgs false
theorem RdKs.fo14 {w:World} {a:Option Addr} {cap:Nat} {l:List Bk} (h:RdKs w (.slice a l.length cap) l) (hl:0 < l.length):∃ b off,a=some ⟨b,off,none⟩/\b < w.heap.size/\∀ i (h:i < l.length),∃ bv,BkAt w b (off+i * 14) l[i] bv/\RdK w l[i] bv:=by
  rcases h with ⟨a',cap',e,rfl,hn⟩ | ⟨b,off,cap',h0,e,h1,h2,h3,h4⟩
  · simp at hl
  · simp only [Value.slice.injEq] at e
    exact ⟨b,off,e.1,h3,h4⟩
theorem foIsPlace_any (a:Option Addr) (c:Nat) (bs:List Bk) (x:Int) (w:World) (hn:bs.length<=4000000) :
    Calls Tryz.prog 66 #[.slice a bs.length c,.int .i64 x] w fun e w'=>e=.returned (.bool (plB bs x))/\w'=w:=by
  have hw:IntKind.i64.wrap ((bs.length:Int) - 1)=(bs.length:Int) - 1:=by rw [IntKind.wrap_i64];omega
  go_enter Tryz.func66,Tryz.ntmps66
  go_wp2_with fail
  refine (implWithinC_any _ _ _ _).mono ?_
  rintro e w ⟨rfl,rfl⟩
  go_wp2
  go_ret
  exact ⟨rfl,rfl⟩
theorem implIsEnd_any (ep:Int) (va vf vn vs vm:Value) (adb:Option Addr) (cpb:Nat) (bs:List Bk) (id:Int) (w:World) (hB:RdKs w (.slice adb bs.length cpb) bs) (hl:bs.length<=4000000) :
    Calls Tryz.prog 126 #[.agg #[.int .i64 ep,va,vf,vn,.slice adb bs.length cpb,vs,vm],.int .i64 id] w fun e w'=>e=.returned (.bool (edB bs id))/\Below w.heap.size w w':=by
  obtain ⟨w1,hw1⟩:∃ x,w.alloc (.cells #[.int .i64 ep,va,vf,vn,.slice adb bs.length cpb,vs,vm] 44)=x:=⟨_,rfl⟩
  have b1:Below w.heap.size w w1:=by rw [<- hw1];exact (Below.refl _ w).alloc (Nat.le_refl _) _
  have k1:Blk w1 w.heap.size 44 [.int .i64 ep,va,vf,vn,.slice adb bs.length cpb,vs,vm]:=by rw [<- hw1];exact Blk.new w _ _
  have x4:=k1.cell 4
  simp only [List.getElem?_cons_zero,List.getElem?_cons_succ] at x4
  have HP:=hide (fun V=>foIsPlace_any adb cpb bs id V hl)
  have B1:=hide b1
  clear k1
  cases hp:plB bs id
  · rw [ed_no hp]
    rw [hp] at HP
    clear hp b1
    go_enter Tryz.func126,Tryz.ntmps126
    go_upto_region 1 with fail
    (try rw [hw1])
    clear hw1
    go_wp2_with fail
    refine (HP.out _).mono ?_
    rintro e V ⟨rfl,rfl⟩
    go_wp2
    go_ret
    exact ⟨rfl,B1.out⟩
  · obtain ⟨k,hk,rfl⟩:=pl_yes hp
    rw [ed_at hk]
    rw [hp] at HP
    obtain ⟨b0,off,rfl,h3,hcell⟩:=hB.fo14 (by omega)
    obtain ⟨bv,hat,-⟩:=hcell k hk
    have y:=((hat.below b1 h3) 11 (by omega)).trans (show (bkC bs[k] bv)[11]?=some (.bool bs[k].en) from rfl)
    have hk0:(0:Int)<=(k:Int):=by omega
    have hki:(k:Int) < (bs.length:Int):=by omega
    clear hp b1 hat hcell hB
    generalize bs[k].en=en at y ⊢
    go_enter Tryz.func126,Tryz.ntmps126
    go_upto_region 1 with fail
    (try rw [hw1])
    clear hw1
    go_wp2_with fail
    refine (HP.out _).mono ?_
    rintro e V ⟨rfl,rfl⟩
    go_wp2
    go_ret
    exact ⟨rfl,B1.out⟩
theorem endedPart_any (ep:Int) (va vf vn vs vm:Value) (adb:Option Addr) (cpb:Nat) (bs:List Bk) (ad:Option Addr) (cd:Nat) (d:List Int) (w:World) (hB:RdKs w (.slice adb bs.length cpb) bs) (hl:bs.length<=4000000) (hD:RdI w (.slice ad d.length cd) d) (hd:d.length<=4000000) :
    Calls Tryz.prog 84 #[.agg #[.int .i64 ep,va,vf,vn,.slice adb bs.length cpb,vs,vm],.slice ad d.length cd] w fun e w'=>∃ (a:Option Addr) (c:Nat),e=.returned (.slice a (enD bs d).length c)/\RdI w (.slice a (enD bs d).length c) (enD bs d)/\Below w.heap.size w w':=by
  obtain ⟨w1,hw1⟩:∃ x,w.alloc (.cells #[.int .i64 ep,va,vf,vn,.slice adb bs.length cpb,vs,vm] 44)=x:=⟨_,rfl⟩
  have b1:Below w.heap.size w w1:=by rw [<- hw1];exact (Below.refl _ w).alloc (Nat.le_refl _) _
  have K1:=hide (show Blk w1 w.heap.size 44 [.int .i64 ep,va,vf,vn,.slice adb bs.length cpb,vs,vm] from by rw [<- hw1];exact Blk.new w _ _)
  have IW:=hide (show (Tryz.prog.info? 44).map (·.size)=some ([.int .i64 ep,va,vf,vn,.slice adb bs.length cpb,vs,vm]:List Value).length from sfWd7)
  have HE:=hide (fun (id:Int) V (hV:Below w.heap.size w V)=>implIsEnd_any ep va vf vn vs vm adb cpb bs id V (hB.below hV (Nat.le_refl _)) hl)
  have B1:=hide b1
  have HD:=hide hD
  obtain ⟨cw,hcw⟩:∃ x,([.int .i64 ep,va,vf,vn,.slice adb bs.length cpb,vs,vm]:List Value)=x:=⟨_,rfl⟩
  have hcw2:(.agg #[.int .i64 ep,va,vf,vn,.slice adb bs.length cpb,vs,vm]:Value)=.agg cw.toArray:=by rw [<- hcw]
  rw [hcw] at K1 IW
  rw [hcw2] at HE ⊢
  rw [show (w.alloc (.cells #[.int .i64 ep,va,vf,vn,.slice adb bs.length cpb,vs,vm] 44))=w.alloc (.cells cw.toArray 44) from by rw [<- hcw]] at hw1
  clear hB b1 hcw hcw2 hD
  have hcap:=HD.out.cap
  go_enter Tryz.func84,Tryz.ntmps84
  go_upto_region 1 with fail
  (try rw [hw1])
  clear hw1
  go_wp2
  go_loopw [5] (fun iv wr=>∃ i:Nat,i<=d.length/\iv=.int .i64 (i:Int)/\enN bs d d.length=enN bs d i/\Below w1.heap.size w1 wr) (fun iv _=>(intOf iv).toNat)
  case atStart=>exact ⟨d.length,Nat.le_refl _,rfl,rfl,Below.refl _ _⟩
  case round =>
    obtain ⟨i,hi,rfl,hn,hb⟩:=hrel
    cases i with
    | zero =>
      have h0:¬ (0:Int) < ((0:Nat):Int):=by omega
      have Hl:Hid ((enD bs d).length=0):=hide (by rw [enD_len,hn];rfl)
      have He:Hid (enD bs d=[]):=hide (List.length_eq_zero_iff.1 Hl.out)
      have Hb:=hide (B1.out.trans (hb.mono B1.out.size))
      clear hn hb
      go_wp2
      go_ret
      exact ⟨none,0,by rw [Hl.out];rfl,by rw [He.out];exact .inl ⟨none,0,rfl,rfl,fun _=>rfl⟩,Hb.out⟩
    | succ j =>
      have hj:j < d.length:=by omega
      have h0:(0:Int) < ((j+1:Nat):Int):=by omega
      have hw0:IntKind.i64.wrap (((j+1:Nat):Int) - 1)=(j:Int):=by rw [IntKind.wrap_i64];omega
      have hBr:=B1.out.trans (hb.mono B1.out.size)
      obtain ⟨b,off,rfl,hc1,hc2,hlt,hc⟩:=HD.out.at hj
      have c0:=cell_regrown ((hBr.cell (p:=⟨b,off+j,none⟩) hlt).trans hc)
      have HC1:=hide (range_regrown (blk_range (K1.out.below hb K1.out.lt)) (Nat.lt_of_lt_of_le K1.out.lt hb.size))
      have HE1:=hide (fun (dd:Nat) (os:Array Obj)=>Calls.regrown_of (HE.out d[j] (grow (redrawn wr dd) os) (hBr.trans ((below_regrown wr dd os).mono hBr.size))))
      have Hy:Hid (edB bs d[j]=true->enN bs d d.length=j+1):=hide (fun h=>by rw [hn];exact enN_yes hj h)
      have Hn:Hid (edB bs d[j]=false->enN bs d d.length=enN bs d j):=hide (fun h=>by rw [hn];exact enN_no hj h)
      have Hb:=hide hb
      have HBr:=hide hBr
      have hj0:(0:Int)<=(j:Int):=by omega
      have hji:(j:Int) < (d.length:Int):=by omega
      have hjc:((j+1:Nat):Int)<=(cd:Int):=by omega
      have hjc2:j+1<=cd:=by omega
      have hp0:(0:Int)<=((j+1:Nat):Int):=by omega
      clear hn hb hBr hc
      generalize edB bs d[j]=X at HE1 Hy Hn
      generalize d[j]=id at c0 HE1
      generalize hJ:((j+1:Nat):Int)=J at h0 hw0 hjc hp0
      go_wp2
      refine wp_region_quiet_below (by kernel_rfl) (by kernel_rfl) ?_
      (try dsimp only [List.append])
      repeat (first | (refine quiet_load_mid 44 _ rfl w.heap.size 0 rfl cw _ HC1.out Tryz.underlying44 rfl IW.out (by rfl) ?_;change wpQuiet _ _ _ _ _ (Act.put _ (some 12) _);simp only [Act.put,List.setIfInBounds_toArray,List.set_cons_zero,List.set_cons_succ]) | go_big_quiet_step (first | (go_at_call 126;exact HE1.out _ _)))
      refine wpQuiet_nil ?_
      intro _ hw'
      obtain ⟨⟨dq,osq⟩,hw''⟩:=hw'
      subst hw''
      have Hb2:=hide (Hb.out.trans ((below_regrown wr dq osq).mono Hb.out.size))
      cases X
      · have hn:=hide (Hn.out rfl)
        clear Hy Hn
        go_wp2
        go_roundw
        case rel=>exact ⟨j,by omega,by first | rfl | (subst hJ;go_num),hn.out,Hb2.out⟩
        case measure=>subst hJ;simp [intOf]
      · have hy:=hide (Hy.out rfl)
        clear Hy Hn
        subst hJ
        go_wp2
        go_ret
        have hlen:(enD bs d).length=j+1:=by rw [enD_len,hy.out]
        have hpre:=HD.out.pre (m:=j+1) rfl hj
        refine ⟨some ⟨b,off,none⟩,cd,by rw [hlen];rfl,?_,B1.out.trans (Hb2.out.mono B1.out.size)⟩
        rw [hlen]
        unfold enD
        rw [hy.out]
        exact hpre
theorem fewG_of {l:List Ac} {e:Int} (h:FewG (e,l)):l.length<=3999999/\∀ a ∈ l,a.1.size<=maxLen/\a.2.2.2.2.length<=3999999:=h
theorem folded_any (e0:Int) (vf vn vs vm:Value) (av:Option Addr) (cv:Nat) (l0:List Ac) (adb:Option Addr) (cpb:Nat) (bs:List Bk) (ad:Option Addr) (cd:Nat) (d:List Int) (w:World) (hgh:Gh w) (hA:RdA w (.slice av l0.length cv) l0) (hg0:FewG (e0,l0)) (hB:RdKs w (.slice adb bs.length cpb) bs) (hl:bs.length<=4000000) (hfb:∀ b ∈ bs,FewK b) (hD:RdI w (.slice ad d.length cd) d) (hd:d.length<=4000000) :
    Calls Tryz.prog 35 #[.agg #[.int .i64 e0,.slice av l0.length cv,vf,vn,.slice adb bs.length cpb,vs,vm],.slice ad d.length cd] w fun en w' =>
      (okD bs d=true/\∃ v',en=.returned (.tuple #[lgV (foD bs e0 l0 d).1 v',.bool true])/\OwnA w.heap.size w' v' (foD bs e0 l0 d).2/\Below w.heap.size w w') \/
      (okD bs d=false/\∃ (x:Int) (v':Value),en=.returned (.tuple #[.agg #[.int .i64 x,v'],.bool false])/\(∃ a n c,v'=.slice a n c)/\Below w.heap.size w w'):=by
  obtain ⟨w2,hw2⟩:∃ x,(w.alloc (.cells #[.int .i64 e0,.slice av l0.length cv,vf,vn,.slice adb bs.length cpb,vs,vm] 44)).alloc (.cells #[.int .i64 0,.slice none 0 0] 36)=x:=⟨_,rfl⟩
  have hs1:(w.alloc (.cells #[.int .i64 e0,.slice av l0.length cv,vf,vn,.slice adb bs.length cpb,vs,vm] 44)).heap.size=w.heap.size+1:=by simp
  have hb2:Below w.heap.size w w2:=by rw [<- hw2];exact ((Below.refl _ w).alloc (Nat.le_refl _) _).alloc (by rw [hs1];omega) _
  have hs2:w2.heap.size=w.heap.size+2:=by rw [<- hw2];simp
  have KW:=hide (show Blk w2 w.heap.size 44 [.int .i64 e0,.slice av l0.length cv,vf,vn,.slice adb bs.length cpb,vs,vm] from by rw [<- hw2];exact (Blk.new w _ _).below ((Below.refl (w.heap.size+1) _).alloc (by rw [hs1];exact Nat.le_refl _) _) (by omega))
  have KR:=hide (show Blk w2 (w.heap.size+1) 36 [.int .i64 0,.slice none 0 0] from by rw [<- hw2,<- hs1];exact Blk.new _ _ _)
  obtain ⟨hg1,hg2⟩:=fewG_of hg0
  have HC:=hide (implCopiedLg_any e0 (.slice av l0.length cv) l0 w2 (hA.below hb2 (Nat.le_refl _)) (by omega) (fun a ha=>by have:=(hg2 a ha).2;omega))
  have HP:=hide (fun (id:Int) V=>foIsPlace_any adb cpb bs id V hl)
  have HAl:=hide (fun (e:Int) (v vt:Value) (l:List Ac) (ts:List Tx5) V (hV:Below w.heap.size w V)=>implAll_any e v vt l ts V (hgh.below hV))
  have HNe:=hide (fun (e:Int) (v:Value) (l:List Ac) V=>implNext_any e v l V)
  have HF:=hide (fun k=>foD_few (bs:=bs) hg0 (d.take k))
  simp only [lgV] at HC HAl HNe
  have Hb2:=hide hb2
  have HB:=hide hB
  have HD:=hide hD
  have HK:=hide hfb
  have c0:=KW.out.cell 0
  have c1:=KW.out.cell 1
  simp only [List.getElem?_cons_zero,List.getElem?_cons_succ] at c0 c1
  clear hs1 hb2 hA hB hD hfb hgh hg1 hg2 hg0
  go_enter Tryz.func35,Tryz.ntmps35
  go_upto_region 1 with fail
  (try rw [hw2])
  clear hw2
  obtain ⟨M,hM⟩:∃ x,(.agg #[.int .i64 e0,.slice av l0.length cv,vf,vn,.slice adb bs.length cpb,vs,vm]:Value)=x:=⟨_,rfl⟩
  rw [hM]
  clear hM
  go_wp2_with fail
  refine HC.out.mono ?_
  rintro en w3 ⟨v3,rfl,o3,hb3⟩
  obtain ⟨a3,c3,rfl⟩:=o3.rd.shape
  obtain ⟨w4,hw4⟩:∃ w4,w3.alloc (.cells #[.int .i64 e0,.slice a3 l0.length c3] 36)=w4:=⟨_,rfl⟩
  have b4:Below w3.heap.size w3 w4:=by rw [<- hw4];exact (Below.refl _ w3).alloc (Nat.le_refl _) _
  have k4:Blk w4 w3.heap.size 36 [.int .i64 e0,.slice a3 l0.length c3]:=by rw [<- hw4];exact Blk.new w3 _ _
  have s4:w4.heap.size=w3.heap.size+1:=by rw [<- hw4];simp
  have x4:=o3.ox.below b4 (Nat.le_refl _)
  have hB4:=hb3.trans (b4.mono hb3.size)
  have hz3:=hb3.size
  clear o3 hb3 b4 c0 c1 HC
  have K5:=hide k4
  have X5:=hide x4
  have B5:=hide hB4
  clear k4 x4 hB4
  go_upto_region 2 with fail
  (try rw [hw4])
  clear hw4
  go_wp2
  go_loopw [14] (fun iv wr=>∃ (i:Nat) (e:Int) (P:List Ac) (a:Option Addr) (c base hi:Nat),i<=d.length/\iv=.int .i64 (i:Int)/\foD bs e0 l0 (d.take i)=(e,P)/\(∀ j (h:j < d.length),j < i->plB bs d[j]=true)/\Blk wr w3.heap.size 36 [.int .i64 e,.slice a P.length c]/\OwnX base hi wr (.slice a P.length c) P/\w2.heap.size<=base/\(w3.heap.size < base\/hi<=w3.heap.size)/\Below w2.heap.size w2 wr) (fun iv _=>d.length - (intOf iv).toNat)
  case atStart=>exact ⟨0,e0,l0,a3,c3,w2.heap.size,w3.heap.size,by omega,rfl,rfl,(fun j _ h=>by omega),K5.out,X5.out,Nat.le_refl _,.inr (Nat.le_refl _),B5.out⟩
  case round =>
    obtain ⟨i,e,P,a,c,base,hi,hi1,rfl,hfo,hlo,kO,x,hbase,hdis,hb⟩:=hrel
    clear K5 X5 B5
    have hwr:=hb.size
    have hO:=kO.lt
    have hBw:=Hb2.out.trans (hb.mono Hb2.out.size)
    have few:=HF.out i
    rw [hfo] at few
    have Hlo:=hide hlo
    clear hlo
    by_cases hlt:i < d.length
    · obtain ⟨b,off,rfl,hc1,hc2,hdlt,hc⟩:=HD.out.at hlt
      have cd0:=(hBw.cell (p:=⟨b,off+i,none⟩) hdlt).trans hc
      have kW:=KW.out.below hb KW.out.lt
      have cb:=kW.cell 4
      simp only [List.getElem?_cons_zero,List.getElem?_cons_succ] at cb
      have hki:(i:Int) < (d.length:Int):=by omega
      have hk0:(0:Int)<=(i:Int):=by omega
      have HP1:=hide (HP.out d[i])
      cases hp:plB bs d[i]
      · have hno:=hide (okD_no hlt hp)
        rw [hp] at HP1
        have d0:=kO.cell 0
        have d1:=kO.cell 1
        have kR:=KR.out.below hb KR.out.lt
        have r0:=kR.cell 0
        have r1:=kR.cell 1
        have g0:=kR.frozen 0
        have g1:=kR.frozen 1
        simp only [List.getElem?_cons_zero,List.getElem?_cons_succ] at d0 d1 r0 r1
        have HBx:=hide ((hBw.setCell (p:=⟨w.heap.size+1,0,none⟩) (show w.heap.size<=w.heap.size+1 by omega) (.int .i64 e)).setCell (p:=⟨w.heap.size+1,1,none⟩) (show w.heap.size<=w.heap.size+1 by omega) (.slice a P.length c))
        clear kO x kR kW hb hBw few hc hfo hp
        generalize d[i]=id at cd0 HP1
        go_wp2_with fail
        refine (HP1.out _).mono ?_
        rintro en V ⟨rfl,rfl⟩
        go_wp2
        refine bodyPost_ret (v:=.tuple #[.agg #[.int .i64 e,.slice a P.length c],.bool false]) (by simp [results,Tryz.f35,go_sem,r0,r1]) rfl ?_
        exact .inr ⟨hno.out,e,_,rfl,⟨_,_,_,rfl⟩,HBx.out⟩
      · rw [hp] at HP1
        have Hp:=hide hp
        obtain ⟨k,hk,hid⟩:=pl_yes hp
        obtain ⟨b1,off1,rfl,h3,hcell⟩:=HB.out.fo14 (by omega)
        obtain ⟨bv,hat,hrk⟩:=hcell k hk
        have hfk:=HK.out bs[k] (List.getElem_mem hk)
        have ya:=hat.below hBw h3
        have ct:=(ya 10 (by omega)).trans (show (bkC bs[k] bv)[10]?=some bv.t from rfl)
        have cen:=(ya 11 (by omega)).trans (show (bkC bs[k] bv)[11]?=some (.bool bs[k].en) from rfl)
        have hrt:=hrk.t
        obtain ⟨ta,tc,hte⟩:=hrt.shape
        rw [hte] at ct hrt
        have Hsn:=hide (foD_snoc bs e0 l0 d i hlt)
        have hkb:(k:Int) < (bs.length:Int):=by omega
        have hkb0:(0:Int)<=(k:Int):=by omega
        have hS:foS bs (e,P) (k:Int)=foB (e,P) bs[k]:=foS_at _ hk
        rw [hfo,hid,hS] at Hsn
        have HAs:Hid (∀ V,Below wr.heap.size wr V->Calls Tryz.prog 67 #[.agg #[.int .i64 e,.slice a P.length c],.slice ta bs[k].ts.length tc] V fun en w'=>∃ v',en=.returned (.tuple #[.agg #[.int .i64 e,v'],.int .i64 ((alA e P bs[k].ts).2:Int)])/\OwnA V.heap.size w' v' (alA e P bs[k].ts).1/\Below wr.heap.size wr w'/\wr.heap.size<=V.heap.size):=hide (fun V hV=>(HAl.out e (.slice a P.length c) (.slice ta bs[k].ts.length tc) P bs[k].ts V (hBw.trans (hV.mono hBw.size)) (x.rd.below hV (Nat.le_refl _)) (hrt.below (hBw.trans (hV.mono hBw.size)) (Nat.le_refl _)) few.1 few.2 hfk.t hfk.ts).mono (fun en w' ⟨v',h1,h2,h3⟩=>⟨v',h1,h2,hV.trans (h3.mono hV.size),hV.size⟩))
        have fewA:FewG (e,(alA e P bs[k].ts).1):=alA_few bs[k].ts few.1 few.2
        have KWr:=hide kW
        have KO:=hide kO
        have Hb:=hide hb
        have d0:=kO.cell 0
        have d1:=kO.cell 1
        simp only [List.getElem?_cons_zero,List.getElem?_cons_succ] at d0 d1
        have hbl:b1 < wr.heap.size:=by have:=hBw.size;omega
        rw [hid] at cd0 HP1
        have C4:=hide ((hat 11 (by omega)).trans (show (bkC bs[k] bv)[11]?=some (.bool bs[k].en) from rfl))
        have HfB:Hid (∀ A:List Ac,(alA e P bs[k].ts).1=A->foB (e,P) bs[k]=if bs[k].en=true then neA e A else (e,A)):=hide (fun A h=>by unfold foB;simp only [h])
        generalize foB (e,P) bs[k]=G at Hsn HfB
        generalize bs[k].en=en9 at cen HfB C4
        generalize bs[k].ts=ts at HAs ct hrt HfB fewA
        generalize hAA:alA e P ts=AA at HAs HfB fewA
        obtain ⟨A,nA⟩:=AA
        simp only at HAs HfB fewA
        have HfB:=hide (HfB.out A rfl)
        have FewA:=hide fewA
        clear hAA hat hrk hcell hfk hte hrt kO x few hb hBw ya hfo hS hc kW fewA hp
        go_wp2_with fail
        refine (HP1.out _).mono ?_
        rintro en V ⟨rfl,rfl⟩
        clear HP1 cen
        go_upto_region 7 with fail
        go_region_law ((go_simp;go_at_call 67;refine (HAs.out _ (by first | exact Below.refl _ _ | exact (Below.refl _ _).drew)).mono ?_;rintro en wA ⟨vA,rfl,oA,bA,zA⟩;have hsh:=oA.rd.shape;obtain ⟨aA,cA,hvA⟩:=hsh;subst hvA;have kA:=KO.out.below bA KO.out.lt;have q0:=kA.cell 0;have q1:=kA.cell 1;have f0:=kA.frozen 0;have f1:=kA.frozen 1;simp only [List.getElem?_cons_zero,List.getElem?_cons_succ] at q0 q1))
        all_goals
          have kN:=(kA.set 0 (.int .i64 e)).set 1 (.slice aA A.length cA)
          have oN:=(oA.older (g:=w3.heap.size) (by omega) 0 (.int .i64 e)).older (g:=w3.heap.size) (by omega) 1 (.slice aA A.length cA)
          have bM:=(bA.mono hwr).setCell (p:=⟨w3.heap.size,0,none⟩) (show w2.heap.size<=w3.heap.size by omega) (.int .i64 e)
          have bN:=(Hb.out.trans (bA.mono hwr)).setCell (p:=⟨w3.heap.size,0,none⟩) (show w2.heap.size<=w3.heap.size by omega) (.int .i64 e) |>.setCell (p:=⟨w3.heap.size,1,none⟩) (show w2.heap.size<=w3.heap.size by omega) (.slice aA A.length cA)
          simp only [List.set_cons_zero,List.set_cons_succ] at kN
          obtain ⟨wN,hwN⟩:∃ y,(wA.setCell ⟨w3.heap.size,0,none⟩ (.int .i64 e)).setCell ⟨w3.heap.size,1,none⟩ (.slice aA A.length cA)=y:=⟨_,rfl⟩
          rw [hwN] at kN oN bN
          have KN:=hide kN
          have ON:=hide oN
          have BN:=hide bN
          have y4:=(KW.out.below bN KW.out.lt).cell 4
          have e11:=((Hb2.out.trans (bN.mono Hb2.out.size)).cell (p:=⟨b1,off1+k * 14+11,none⟩) h3).trans C4.out
          have p0:=kN.cell 0
          have p1:=kN.cell 1
          have j0:=kN.frozen 0
          have j1:=kN.frozen 1
          simp only [List.getElem?_cons_zero,List.getElem?_cons_succ] at y4 p0 p1
          have hPl:Hid (∀ j (h:j < d.length),j < i+1->plB bs d[j]=true):=hide (fun j h hj=>by
            by_cases ej:j=i
            · subst ej;exact Hp.out
            · exact Hlo.out j h (by omega))
          have zN:=bN.size
          clear kA oA bA kN oN bN bM q0 q1 f0 f1
          cases en9
          · have hG:G=(e,A):=by rw [HfB.out];rfl
            go_upto_region 8 with fail
            (try rw [hwN])
            clear hwN
            go_wp2
            go_roundw
            case rel=>exact ⟨i+1,e,A,aA,cA,_,_,by omega,by go_num,by rw [Hsn.out,hG],hPl.out,KN.out,ON.out.ox,by omega,.inl (by omega),BN.out⟩
            case measure=>simp [intOf];omega
          · have hG:G=neA e A:=by rw [HfB.out];rfl
            go_upto_region 8 with fail
            (try rw [hwN])
            clear hwN
            go_wp2_with fail
            refine (HNe.out e (.slice aA A.length cA) A wN ON.out.rd (by have:=(fewG_of FewA.out).1;omega) (fun q hq=>by have:=(fewG_of FewA.out).2 q hq;omega)).mono ?_
            rintro en wB ⟨vB,rfl,oB,hbB⟩
            obtain ⟨aB,cB,hvB⟩:=oB.rd.shape
            subst hvB
            have kB:=KN.out.below hbB KN.out.lt
            have u0:=kB.cell 0
            have u1:=kB.cell 1
            have s0:=kB.frozen 0
            have s1:=kB.frozen 1
            simp only [List.getElem?_cons_zero,List.getElem?_cons_succ] at u0 u1
            have kM:=(kB.set 0 (.int .i64 (neA e A).1)).set 1 (.slice aB (neA e A).2.length cB)
            have oM:=(oB.older (g:=w3.heap.size) (by have:=KN.out.lt;omega) 0 (.int .i64 (neA e A).1)).older (g:=w3.heap.size) (by have:=KN.out.lt;omega) 1 (.slice aB (neA e A).2.length cB)
            have bM:=((BN.out.trans (hbB.mono zN)).setCell (p:=⟨w3.heap.size,0,none⟩) (show w2.heap.size<=w3.heap.size by omega) (.int .i64 (neA e A).1)).setCell (p:=⟨w3.heap.size,1,none⟩) (show w2.heap.size<=w3.heap.size by omega) (.slice aB (neA e A).2.length cB)
            simp only [List.set_cons_zero,List.set_cons_succ] at kM
            have KM:=hide kM
            have OM:=hide oM
            have BM:=hide bM
            have zb:=hbB.size
            have zk:=KN.out.lt
            clear kB kM oM bM oB hbB y4 e11 p0 p1 j0 j1
            obtain ⟨ne,hne⟩:∃ y,neA e A=y:=⟨_,rfl⟩
            rw [hne] at KM OM BM hG ⊢
            clear hne
            obtain ⟨e9,P9⟩:=ne
            simp only at KM OM BM ⊢
            go_wp2
            go_roundw
            case rel=>exact ⟨i+1,e9,P9,aB,cB,_,_,by omega,by go_num,by rw [Hsn.out,hG],hPl.out,KM.out,OM.out.ox,by omega,.inl (by omega),BM.out⟩
            case measure=>simp [intOf];omega
    · obtain rfl:i=d.length:=by omega
      have hy:=hide (okD_yes (bs:=bs) (d:=d) (fun j h=>Hlo.out j h h))
      rw [List.take_length] at hfo
      have d0:=kO.cell 0
      have d1:=kO.cell 1
      simp only [List.getElem?_cons_zero,List.getElem?_cons_succ] at d0 d1
      have kR:=KR.out.below hb KR.out.lt
      have r0:=kR.cell 0
      have r1:=kR.cell 1
      have g0:=kR.frozen 0
      have g1:=kR.frozen 1
      simp only [List.getElem?_cons_zero,List.getElem?_cons_succ] at r0 r1
      have HBx:=hide ((hBw.setCell (p:=⟨w.heap.size+1,0,none⟩) (show w.heap.size<=w.heap.size+1 by omega) (.int .i64 e)).setCell (p:=⟨w.heap.size+1,1,none⟩) (show w.heap.size<=w.heap.size+1 by omega) (.slice a P.length c))
      have HOx:=hide (((x.own.older (g:=w.heap.size+1) (by omega) 0 (.int .i64 e)).older (g:=w.heap.size+1) (by omega) 1 (.slice a P.length c)).mono (show w.heap.size<=_ by omega))
      have Hfo:=hide hfo
      have hli:¬ (d.length:Int) < (d.length:Int):=by omega
      clear kO x kR hb hBw few hfo
      go_wp2
      refine bodyPost_ret (v:=.tuple #[.agg #[.int .i64 e,.slice a P.length c],.bool true]) (by simp [results,Tryz.f35,go_sem,r0,r1]) rfl ?_
      exact .inl ⟨hy.out,_,by rw [Hfo.out];rfl,by rw [Hfo.out];exact HOx.out,HBx.out⟩
end Go.Proofs.YteefibiikampbaaGreatDoor
namespace Go.Proofs.YteefibiikampbaaGreatDoor
open Go.RowKit
set_option linter.unusedVariables false
set_option linter.unusedSimpArgs false
theorem equalLv_any (v1 v2:Value) (l1 l2:List (Int × Int)) (w:World) (hr1:RdL w v1 l1) (hr2:RdL w v2 l2) (hl1:l1.length<=4000000) (hl2:l2.length<=4000000) :
    Calls Tryz.prog 150 #[v1,v2] w fun e w'=>e=.returned (.bool (decide (l1=l2)))/\Sm w w':=by
  by_cases hne:l1.length=l2.length
  · rcases hr1 with ⟨a,cap,rfl,rfl,-⟩ | ⟨b,off,cap,h0,rfl,h1,h2,h3,h4⟩
    · have e2:l2=[]:=List.length_eq_zero_iff.1 (by simpa using hne.symm)
      subst e2
      obtain ⟨a2,cap2,rfl⟩:=hr2.shape
      clear hr2
      go_enter Tryz.func150,Tryz.ntmps150
      go_wp2
      refine wp_loop_rounds 1 ?_
      rw [rounds_succ]
      go_wp2
      go_ret
      exact ⟨rfl,Sm.refl _⟩
    · rcases hr2 with ⟨a2,cap2,rfl,rfl,-⟩ | ⟨b2,off2,cap2,g0,rfl,g1,g2,g3,g4⟩
      · exact absurd (List.length_eq_zero_iff.1 (by simpa using hne)) h0
      · have hlen:((l1.length:Int) != (l2.length:Int))=false:=by rw [hne];simp
        have hle:l1.length<=l2.length:=by omega
        have hge:l2.length<=l1.length:=by omega
        have H4:=hide h4
        have G4:=hide g4
        clear hne h4 g4
        go_enter Tryz.func150,Tryz.ntmps150
        go_wp2
        go_loopw [13] (fun i wr=>∃ k:Nat,k<=l1.length/\i=.int .i64 k/\l1.take k=l2.take k/\Sm w wr) (fun i _=>l1.length - (intOf i).toNat)
        case atStart=>exact ⟨0,Nat.zero_le _,rfl,rfl,Sm.refl _⟩
        case round =>
          obtain ⟨k,hk,rfl,ht,hs⟩:=hrel
          have Ht:=hide ht
          clear ht
          by_cases hlt:k < l1.length
          · have hlt2:k < l2.length:=by omega
            obtain ⟨c0,c1⟩:=H4.out k hlt
            obtain ⟨d0,d1⟩:=G4.out k hlt2
            replace c0:=(hs.cell ⟨b,off+k * 2,none⟩).trans c0
            replace d0:=(hs.cell ⟨b2,off2+k * 2,none⟩).trans d0
            replace c1:=(hs.cell ⟨b,off+k * 2+1,none⟩).trans c1
            replace d1:=(hs.cell ⟨b2,off2+k * 2+1,none⟩).trans d1
            have hli:(k:Int) < (l1.length:Int):=by omega
            have hli2:(k:Int) < (l2.length:Int):=by omega
            have Hnx:Hid (l1[k]=l2[k]->l1.take (k+1)=l2.take (k+1)):=hide (fun he=>take_eq_snoc hlt hlt2 Ht.out he)
            have Hno:Hid (l1[k] ≠ l2[k]->decide (l1=l2)=false):=hide (fun he=>by rw [decide_eq_false];intro e;subst e;exact he rfl)
            generalize l1[k]=p at c0 c1 Hnx Hno
            generalize l2[k]=q at d0 d1 Hnx Hno
            obtain ⟨x0,x1⟩:=p
            obtain ⟨y0,y1⟩:=q
            simp only at c0 d0 c1 d1
            by_cases e0:x0=y0
            · subst e0
              by_cases e1:x1=y1
              · subst e1
                have Hn2:=hide (Hnx.out rfl)
                clear Hno Hnx
                go_wp2
                go_quiet (fail)
                go_wp2
                go_roundw
                case rel=>exact ⟨k+1,by omega,by go_num,Hn2.out,hs.drewN _⟩
                case measure=>simp [intOf];omega
              · have Hno:=hide (Hno.out (by intro h;simp only [Prod.mk.injEq] at h;exact e1 h.2))
                have hq:=int_ne e1
                have hq2:(x1 == y1)=false:=by rw [beq_eq_false_iff_ne];exact e1
                clear e1 Hnx
                go_wp2
                go_quiet (fail)
                go_wp2
                go_ret
                exact ⟨ret_bool Hno.out.symm,hs.drewN _⟩
            · have Hno:=hide (Hno.out (by intro h;simp only [Prod.mk.injEq] at h;exact e0 h.1))
              have hq:=int_ne e0
              have hq2:(x0 == y0)=false:=by rw [beq_eq_false_iff_ne];exact e0
              clear e0 Hnx
              go_wp2
              go_quiet (fail)
              go_wp2
              go_ret
              exact ⟨ret_bool Hno.out.symm,hs.drewN _⟩
          · have hf:Hid (decide (l1=l2)=true):=hide (by
              rw [decide_eq_true]
              have:=Ht.out
              rwa [List.take_of_length_le (by omega),List.take_of_length_le (by omega)] at this)
            go_wp2
            go_ret
            exact ⟨ret_bool hf.out.symm,hs⟩
  · obtain ⟨a,cap,rfl⟩:=hr1.shape
    obtain ⟨a2,cap2,rfl⟩:=hr2.shape
    clear hr1 hr2
    have hlen:((l1.length:Int) != (l2.length:Int))=true:=by rw [bne_iff_ne];omega
    have hf:Hid (decide (l1=l2)=false):=hide (by rw [decide_eq_false];intro e;subst e;exact hne rfl)
    clear hne
    go_enter Tryz.func150,Tryz.ntmps150
    go_wp2
    go_ret
    exact ⟨ret_bool hf.out.symm,Sm.refl _⟩
theorem implSameAcct_any (a b:Ac) (la lb:Value) (w:World) (hra:RdL w la a.2.2.2.2) (hrb:RdL w lb b.2.2.2.2) (hl1:a.2.2.2.2.length<=4000000) (hl2:b.2.2.2.2.length<=4000000) :
    Calls Tryz.prog 128 #[acV a la,acV b lb] w fun e w'=>e=.returned (.bool (decide (a=b)))/\Below w.heap.size w w':=by
  obtain ⟨n1,f1,o1,s1,l1⟩:=a
  obtain ⟨n2,f2,o2,s2,l2⟩:=b
  obtain ⟨av,ac,rfl⟩:=hra.shape
  obtain ⟨bv,bc,rfl⟩:=hrb.shape
  have HB:=hide (((Below.refl _ w).alloc (Nat.le_refl _) (.cells #[.string n1,.int .i64 f1,.int .i64 o1,.int .i64 s1,.slice av l1.length ac] 131)).alloc (by simp) (.cells #[.string n2,.int .i64 f2,.int .i64 o2,.int .i64 s2,.slice bv l2.length bc] 131))
  have Ha:=hide (hra.below HB.out (Nat.le_refl _))
  have Hb:=hide (hrb.below HB.out (Nat.le_refl _))
  clear hra hrb
  simp only [acV] at *
  by_cases h0:n1=n2
  · subst h0
    by_cases h1:f1=f2
    · subst h1
      by_cases h2:o1=o2
      · subst h2
        by_cases h3:s1=s2
        · subst h3
          have Hd:Hid (decide (((n1,f1,o1,s1,l1):Ac)=(n1,f1,o1,s1,l2))=decide (l1=l2)):=hide (by simp)
          have HE:=hide ((equalLv_any _ _ l1 l2 _ Ha.out Hb.out hl1 hl2).mono (fun e V h=>And.intro h.1 (h.2 w.heap.size)))
          rw [Hd.out]
          clear Hd Ha Hb
          generalize decide (l1=l2)=X at HE ⊢
          go_enter Tryz.func128,Tryz.ntmps128
          go_wp2_with fail
          refine HE.out.mono ?_
          rintro e w3 ⟨rfl,hb3⟩
          have hB3:=HB.out.trans hb3
          go_wp2
          go_ret
          exact ⟨rfl,hB3⟩
        · have Hd:Hid (decide (((n1,f1,o1,s1,l1):Ac)=(n1,f1,o1,s2,l2))=false):=hide (by rw [decide_eq_false];intro e;simp only [Prod.mk.injEq] at e;exact h3 e.2.2.2.1)
          have hq:(s1 == s2)=false:=by rw [beq_eq_false_iff_ne];exact h3
          have hq2:=int_ne h3
          clear h3 Ha Hb
          go_enter Tryz.func128,Tryz.ntmps128
          go_wp2
          go_ret
          exact ⟨ret_bool Hd.out.symm,HB.out⟩
      · have Hd:Hid (decide (((n1,f1,o1,s1,l1):Ac)=(n1,f1,o2,s2,l2))=false):=hide (by rw [decide_eq_false];intro e;simp only [Prod.mk.injEq] at e;exact h2 e.2.2.1)
        have hq:(o1 == o2)=false:=by rw [beq_eq_false_iff_ne];exact h2
        have hq2:=int_ne h2
        clear h2 Ha Hb
        go_enter Tryz.func128,Tryz.ntmps128
        go_wp2
        go_ret
        exact ⟨ret_bool Hd.out.symm,HB.out⟩
    · have Hd:Hid (decide (((n1,f1,o1,s1,l1):Ac)=(n1,f2,o2,s2,l2))=false):=hide (by rw [decide_eq_false];intro e;simp only [Prod.mk.injEq] at e;exact h1 e.2.1)
      have hq:(f1 == f2)=false:=by rw [beq_eq_false_iff_ne];exact h1
      have hq2:=int_ne h1
      clear h1 Ha Hb
      go_enter Tryz.func128,Tryz.ntmps128
      go_wp2
      go_ret
      exact ⟨ret_bool Hd.out.symm,HB.out⟩
  · have Hd:Hid (decide (((n1,f1,o1,s1,l1):Ac)=(n2,f2,o2,s2,l2))=false):=hide (by rw [decide_eq_false];intro e;simp only [Prod.mk.injEq] at e;exact h0 e.1)
    have hq:=bytes_ne h0
    clear h0 Ha Hb
    go_enter Tryz.func128,Tryz.ntmps128
    go_wp2
    go_ret
    exact ⟨ret_bool Hd.out.symm,HB.out⟩
theorem equalAc_any (v1 v2:Value) (l1 l2:List Ac) (w:World) (hr1:RdA w v1 l1) (hr2:RdA w v2 l2) (hl1:l1.length<=4000000) (hl2:l2.length<=4000000) (ha1:∀ a ∈ l1,a.2.2.2.2.length<=4000000) (ha2:∀ a ∈ l2,a.2.2.2.2.length<=4000000) :
    Calls Tryz.prog 127 #[v1,v2,.func (.func 128) #[] #[]] w fun e w'=>e=.returned (.bool (eqAcs l1 l2))/\Below w.heap.size w w':=by
  by_cases hne:l1.length=l2.length
  · rcases hr1 with ⟨a,cap,rfl,rfl,-⟩ | ⟨b,off,cap,h0,rfl,h1,h2,h3,h4⟩
    · have e2:l2=[]:=List.length_eq_zero_iff.1 (by simpa using hne.symm)
      subst e2
      obtain ⟨a2,cap2,rfl⟩:=hr2.shape
      clear hr2
      go_enter Tryz.func127,Tryz.ntmps127
      go_wp2
      refine wp_loop_rounds 1 ?_
      rw [rounds_succ]
      go_wp2
      go_ret
      exact ⟨rfl,Below.refl _ _⟩
    · rcases hr2 with ⟨a2,cap2,rfl,rfl,-⟩ | ⟨b2,off2,cap2,g0,rfl,g1,g2,g3,g4⟩
      · exact absurd (List.length_eq_zero_iff.1 (by simpa using hne)) h0
      · have Hne:=hide hne
        have hlen:((l1.length:Int) != (l2.length:Int))=false:=by rw [hne];simp
        have hle:l1.length<=l2.length:=by omega
        have hge:l2.length<=l1.length:=by omega
        have H4:=hide h4
        have G4:=hide g4
        have A1:=hide ha1
        have A2:=hide ha2
        clear hne h4 g4 ha1 ha2
        go_enter Tryz.func127,Tryz.ntmps127
        go_wp2
        go_loopw [17] (fun i wr=>∃ k:Nat,k<=l1.length/\i=.int .i64 k/\l1.take k=l2.take k/\Below w.heap.size w wr) (fun i _=>l1.length - (intOf i).toNat)
        case atStart=>exact ⟨0,Nat.zero_le _,rfl,rfl,Below.refl _ _⟩
        case round =>
          obtain ⟨k,hk,rfl,ht,hs⟩:=hrel
          have Ht:=hide ht
          clear ht
          by_cases hlt:k < l1.length
          · have hlt2:k < l2.length:=by omega
            obtain ⟨lv1,q1,m1⟩:=H4.out k hlt
            obtain ⟨lv2,q2,m2⟩:=G4.out k hlt2
            obtain ⟨ax,cx,hx⟩:=m1.shape
            obtain ⟨ay,cy,hy⟩:=m2.shape
            subst hx hy
            obtain ⟨c0,c1,c2,c3,c4⟩:=q1.below hs h3
            obtain ⟨d0,d1,d2,d3,d4⟩:=q2.below hs g3
            have n1:=m1.below hs (Nat.le_refl _)
            have n2:=m2.below hs (Nat.le_refl _)
            have hli:(k:Int) < (l1.length:Int):=by omega
            have hli2:(k:Int) < (l2.length:Int):=by omega
            have hk0:(0:Int)<=(k:Int):=by omega
            have HA:=hide (fun V (hV:Below wr.heap.size wr V)=>implSameAcct_any l1[k] l2[k] (.slice ax l1[k].2.2.2.2.length cx) (.slice ay l2[k].2.2.2.2.length cy) V (n1.below hV (Nat.le_refl _)) (n2.below hV (Nat.le_refl _)) (A1.out _ (List.getElem_mem hlt)) (A2.out _ (List.getElem_mem hlt2)))
            have Hnx:Hid (decide (l1[k]=l2[k])=true->l1.take (k+1)=l2.take (k+1)):=hide (fun he=>take_eq_snoc hlt hlt2 Ht.out (of_decide_eq_true he))
            have Hno:Hid (decide (l1[k]=l2[k])=false->eqAcs l1 l2=false):=hide (fun he=>eqAcs_no (by intro e;subst e;simp at he))
            simp only [acV] at HA
            clear q1 q2 m1 m2 n1 n2
            generalize decide (l1[k]=l2[k])=X at HA Hnx Hno
            generalize l1[k]=p at c0 c1 c2 c3 c4 HA
            generalize l2[k]=q at d0 d1 d2 d3 d4 HA
            obtain ⟨p1,p2,p3,p4,p5⟩:=p
            obtain ⟨q1,q2,q3,q4,q5⟩:=q
            simp only at c0 c1 c2 c3 c4 d0 d1 d2 d3 d4 HA
            obtain ⟨w2,hw2⟩:∃ y,wr.alloc (.cells #[.string p1,.int .i64 p2,.int .i64 p3,.int .i64 p4,.slice ax p5.length cx] 131)=y:=⟨_,rfl⟩
            have b2':Below wr.heap.size wr w2:=by rw [<- hw2];exact (Below.refl _ wr).alloc (Nat.le_refl _) _
            have s2:w2.heap.size=wr.heap.size+1:=by rw [<- hw2];simp
            have K2:Blk w2 wr.heap.size 131 [.string p1,.int .i64 p2,.int .i64 p3,.int .i64 p4,.slice ax p5.length cx]:=by rw [<- hw2];exact Blk.new wr _ _
            obtain ⟨w3,hw3⟩:∃ y,w2.alloc (.cells #[.string q1,.int .i64 q2,.int .i64 q3,.int .i64 q4,.slice ay q5.length cy] 131)=y:=⟨_,rfl⟩
            have b3:Below wr.heap.size wr w3:=by rw [<- hw3];exact b2'.alloc b2'.size _
            have b23:Below w2.heap.size w2 w3:=by rw [<- hw3];exact (Below.refl _ w2).alloc (Nat.le_refl _) _
            have K3:Blk w3 w2.heap.size 131 [.string q1,.int .i64 q2,.int .i64 q3,.int .i64 q4,.slice ay q5.length cy]:=by rw [<- hw3];exact Blk.new w2 _ _
            have K23:=K2.below b23 K2.lt
            have t0:=(b2'.cell (p:=⟨b2,off2+k * 5,none⟩) (World.block_lt_of_cell? wr _ d0)).trans d0
            have t1:=(b2'.cell (p:=⟨b2,off2+k * 5+1,none⟩) (World.block_lt_of_cell? wr _ d1)).trans d1
            have t2:=(b2'.cell (p:=⟨b2,off2+k * 5+2,none⟩) (World.block_lt_of_cell? wr _ d2)).trans d2
            have t3:=(b2'.cell (p:=⟨b2,off2+k * 5+3,none⟩) (World.block_lt_of_cell? wr _ d3)).trans d3
            have t4:=(b2'.cell (p:=⟨b2,off2+k * 5+4,none⟩) (World.block_lt_of_cell? wr _ d4)).trans d4
            have x0:=K23.cell 0
            have x1:=K23.cell 1
            have x2:=K23.cell 2
            have x3:=K23.cell 3
            have x4:=K23.cell 4
            have z0:=K3.cell 0
            have z1:=K3.cell 1
            have z2:=K3.cell 2
            have z3:=K3.cell 3
            have z4:=K3.cell 4
            simp only [List.getElem?_cons_zero,List.getElem?_cons_succ] at x0 x1 x2 x3 x4 z0 z1 z2 z3 z4
            rw [s2] at z0 z1 z2 z3 z4
            have HA3:=hide (HA.out w3 b3)
            have B3:=hide (hs.trans (b3.mono hs.size))
            clear b2' b3 b23 K2 K3 K23 hs d0 d1 d2 d3 d4 HA
            go_upto_region 6 with fail
            (try rw [hw2])
            clear hw2 c0 c1 c2 c3 c4
            go_upto_region 7 with fail
            (try rw [hw3])
            clear hw3 t0 t1 t2 t3 t4 s2
            go_wp2_with fail
            refine HA3.out.mono ?_
            rintro e w4 ⟨rfl,hb4⟩
            have hB4:=B3.out.trans (hb4.mono B3.out.size)
            clear hb4 HA3 x0 x1 x2 x3 x4 z0 z1 z2 z3 z4
            cases X
            · have hf:=hide (Hno.out rfl)
              clear Hno Hnx
              go_wp2
              go_ret
              exact ⟨ret_bool hf.out.symm,hB4⟩
            · have hn:=hide (Hnx.out rfl)
              clear Hno Hnx
              go_wp2
              go_roundw
              case rel=>exact ⟨k+1,by omega,by go_num,hn.out,hB4⟩
              case measure=>simp [intOf];omega
          · have hf:Hid (eqAcs l1 l2=true):=hide (by
              refine eqAcs_yes ?_
              have:=Ht.out
              rwa [List.take_of_length_le (by omega),List.take_of_length_le (by omega)] at this)
            go_wp2
            go_ret
            exact ⟨ret_bool hf.out.symm,hs⟩
  · obtain ⟨a,cap,rfl⟩:=hr1.shape
    obtain ⟨a2,cap2,rfl⟩:=hr2.shape
    clear hr1 hr2
    have hlen:((l1.length:Int) != (l2.length:Int))=true:=by rw [bne_iff_ne];omega
    have hf:Hid (eqAcs l1 l2=false):=hide (eqAcs_no (by intro e;subst e;exact hne rfl))
    clear hne
    go_enter Tryz.func127,Tryz.ntmps127
    go_wp2
    go_ret
    exact ⟨ret_bool hf.out.symm,Below.refl _ _⟩
theorem implSameLg_any (e1 e2:Int) (v1 v2:Value) (l1 l2:List Ac) (w:World) (hr1:RdA w v1 l1) (hr2:RdA w v2 l2) (hl1:l1.length<=4000000) (hl2:l2.length<=4000000) (ha1:∀ a ∈ l1,a.2.2.2.2.length<=4000000) (ha2:∀ a ∈ l2,a.2.2.2.2.length<=4000000) :
    Calls Tryz.prog 85 #[lgV e1 v1,lgV e2 v2] w fun e w'=>e=.returned (.bool ((decide (e1=e2) && eqAcs l1 l2)))/\Below w.heap.size w w':=by
  obtain ⟨a1,c1,rfl⟩:=hr1.shape
  obtain ⟨a2,c2,rfl⟩:=hr2.shape
  simp only [lgV]
  have HB:=hide (((Below.refl _ w).alloc (Nat.le_refl _) (.cells #[.int .i64 e1,.slice a1 l1.length c1] 36)).alloc (by simp) (.cells #[.int .i64 e2,.slice a2 l2.length c2] 36))
  have HE:=hide (equalAc_any _ _ l1 l2 _ (hr1.below HB.out (Nat.le_refl _)) (hr2.below HB.out (Nat.le_refl _)) hl1 hl2 ha1 ha2)
  clear hr1 hr2 ha1 ha2
  by_cases h:e1=e2
  · subst h
    have Hd:Hid ((decide (e1=e1) && eqAcs l1 l2)=eqAcs l1 l2):=hide (by simp)
    rw [Hd.out]
    clear Hd
    generalize eqAcs l1 l2=X at HE ⊢
    go_enter Tryz.func85,Tryz.ntmps85
    go_wp2_with fail
    refine HE.out.mono ?_
    rintro e w3 ⟨rfl,hb3⟩
    have hB3:=HB.out.trans (hb3.mono HB.out.size)
    go_wp2
    go_ret
    exact ⟨rfl,hB3⟩
  · have Hd:Hid ((decide (e1=e2) && eqAcs l1 l2)=false):=hide (by rw [decide_eq_false h];rfl)
    have hq:(e1 == e2)=false:=by rw [beq_eq_false_iff_ne];exact h
    clear h HE
    go_enter Tryz.func85,Tryz.ntmps85
    go_wp2
    go_ret
    exact ⟨ret_bool Hd.out.symm,HB.out⟩
end Go.Proofs.YteefibiikampbaaGreatDoor
