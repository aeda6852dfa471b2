/- Which blocks are the same. -/
import Derived.Test.YtckahjabljffjaaGreatZwBkSameP
set_option maxRecDepth 20000
set_option maxHeartbeats 8000000
namespace Go.Proofs.YtckahjabljffjaaGreat
open Go.RowKit
set_option linter.unusedVariables false
theorem specSameQc_any (r1 x1 r2 x2:Int) (v1 v2:Value) (l1 l2:List ByteArray) (w:World) (h1:RdS w v1 l1) (h2:RdS w v2 l2) (hl1:l1.length<=4000000) (hl2:l2.length<=4000000) :
    Calls Tryz.prog 155 #[qcV r1 x1 v1,qcV r2 x2 v2] w fun e w'=>e=.returned (.bool (decide (r1=r2) && (decide (x1=x2) && decide (l1=l2))))/\Below w.heap.size w w':=by
  obtain ⟨a1,c1,rfl⟩:=h1.shape
  obtain ⟨a2,c2,rfl⟩:=h2.shape
  simp only [qcV]
  obtain ⟨w1,hw1⟩:∃ x,w.alloc (.cells #[.int .i64 r1,.int .i64 x1,.slice a1 l1.length c1] 66)=x:=⟨_,rfl⟩
  have b1:Below w.heap.size w w1:=by rw [<- hw1];exact (Below.refl _ w).alloc (Nat.le_refl _) _
  have k1:Blk w1 w.heap.size 66 [.int .i64 r1,.int .i64 x1,.slice a1 l1.length c1]:=by rw [<- hw1];exact Blk.new w _ _
  have s1:w1.heap.size=w.heap.size+1:=by rw [<- hw1];simp
  obtain ⟨w2,hw2⟩:∃ x,w1.alloc (.cells #[.int .i64 r2,.int .i64 x2,.slice a2 l2.length c2] 66)=x:=⟨_,rfl⟩
  have b2:Below w1.heap.size w1 w2:=by rw [<- hw2];exact (Below.refl _ w1).alloc (Nat.le_refl _) _
  have j2:Blk w2 (w.heap.size+1) 66 [.int .i64 r2,.int .i64 x2,.slice a2 l2.length c2]:=by rw [<- hw2,<- s1];exact Blk.new w1 _ _
  have hB2:Below w.heap.size w w2:=b1.trans (b2.mono b1.size)
  have k2:=k1.below b2 (by omega)
  have HB2:=hide hB2
  have HE:=hide (specSameS_any (.slice a1 l1.length c1) (.slice a2 l2.length c2) l1 l2 w2 (h1.below hB2 (Nat.le_refl _)) (h2.below hB2 (Nat.le_refl _)) hl1 hl2)
  have u0:=k2.cell 0
  have u1:=k2.cell 1
  have u2:=k2.cell 2
  simp only [List.getElem?_cons_zero,List.getElem?_cons_succ] at u0 u1 u2
  have y0:=j2.cell 0
  have y1:=j2.cell 1
  have y2:=j2.cell 2
  simp only [List.getElem?_cons_zero,List.getElem?_cons_succ] at y0 y1 y2
  clear h1 h2 k1 k2 j2 b1 b2 hB2
  by_cases e1:r1=r2
  · by_cases e2:x1=x2
    · have Hf:Hid ((decide (r1=r2) && (decide (x1=x2) && decide (l1=l2)))=decide (l1=l2)):=hide (by rw [decide_eq_true e1,decide_eq_true e2,Bool.true_and,Bool.true_and])
      generalize (decide (r1=r2) && (decide (x1=x2) && decide (l1=l2)))=X at Hf ⊢
      generalize decide (l1=l2)=D at Hf HE
      subst e1 e2
      go_enter Tryz.func155,Tryz.ntmps155
      go_wp2_with (go_at_call 199;refine HE.out.mono ?_;rintro e w3 ⟨rfl,hs3⟩)
      go_ret
      exact ⟨ret_bool Hf.out.symm,HB2.out.trans (hs3 _)⟩
    · have Hf:Hid ((decide (r1=r2) && (decide (x1=x2) && decide (l1=l2)))=false):=hide (by rw [decide_eq_false e2,Bool.false_and,Bool.and_false])
      generalize (decide (r1=r2) && (decide (x1=x2) && decide (l1=l2)))=X at Hf ⊢
      have hq:=int_bf e2
      subst e1
      clear e2
      go_enter Tryz.func155,Tryz.ntmps155
      go_wp2
      go_ret
      exact ⟨ret_bool Hf.out.symm,HB2.out⟩
  · have Hf:Hid ((decide (r1=r2) && (decide (x1=x2) && decide (l1=l2)))=false):=hide (by rw [decide_eq_false e1,Bool.false_and])
    generalize (decide (r1=r2) && (decide (x1=x2) && decide (l1=l2)))=X at Hf ⊢
    have hq:=int_bf e1
    clear e1
    go_enter Tryz.func155,Tryz.ntmps155
    go_wp2
    go_ret
    exact ⟨ret_bool Hf.out.symm,HB2.out⟩
theorem specSameTc_any (r1 r2:Int) (v1 v2 g1 g2:Value) (l1 l2:List ByteArray) (n1 n2:List Int) (w:World) (h1:RdS w v1 l1) (h2:RdS w v2 l2) (i1:RdI w g1 n1) (i2:RdI w g2 n2) (hl1:l1.length<=4000000) (hl2:l2.length<=4000000) (hn1:n1.length<=4000000) (hn2:n2.length<=4000000) :
    Calls Tryz.prog 156 #[tcV r1 v1 g1,tcV r2 v2 g2] w fun e w'=>e=.returned (.bool (decide (r1=r2) && (decide (l1=l2) && decide (n1=n2))))/\Below w.heap.size w w':=by
  obtain ⟨a1,c1,rfl⟩:=h1.shape
  obtain ⟨a2,c2,rfl⟩:=h2.shape
  obtain ⟨a3,c3,rfl⟩:=i1.shape
  obtain ⟨a4,c4,rfl⟩:=i2.shape
  simp only [tcV]
  obtain ⟨w1,hw1⟩:∃ x,w.alloc (.cells #[.int .i64 r1,.slice a1 l1.length c1,.slice a3 n1.length c3] 69)=x:=⟨_,rfl⟩
  have b1:Below w.heap.size w w1:=by rw [<- hw1];exact (Below.refl _ w).alloc (Nat.le_refl _) _
  have k1:Blk w1 w.heap.size 69 [.int .i64 r1,.slice a1 l1.length c1,.slice a3 n1.length c3]:=by rw [<- hw1];exact Blk.new w _ _
  have s1:w1.heap.size=w.heap.size+1:=by rw [<- hw1];simp
  obtain ⟨w2,hw2⟩:∃ x,w1.alloc (.cells #[.int .i64 r2,.slice a2 l2.length c2,.slice a4 n2.length c4] 69)=x:=⟨_,rfl⟩
  have b2:Below w1.heap.size w1 w2:=by rw [<- hw2];exact (Below.refl _ w1).alloc (Nat.le_refl _) _
  have j2:Blk w2 (w.heap.size+1) 69 [.int .i64 r2,.slice a2 l2.length c2,.slice a4 n2.length c4]:=by rw [<- hw2,<- s1];exact Blk.new w1 _ _
  have hB2:Below w.heap.size w w2:=b1.trans (b2.mono b1.size)
  have k2:=k1.below b2 (by omega)
  have HB2:=hide hB2
  have HE:=hide (specSameS_any (.slice a1 l1.length c1) (.slice a2 l2.length c2) l1 l2 w2 (h1.below hB2 (Nat.le_refl _)) (h2.below hB2 (Nat.le_refl _)) hl1 hl2)
  have K2:=hide k2
  have J2:=hide j2
  have I1:=hide i1
  have I2:=hide i2
  have x0:=k2.cell 0
  have x1:=k2.cell 1
  simp only [List.getElem?_cons_zero,List.getElem?_cons_succ] at x0 x1
  have y0:=j2.cell 0
  have y1:=j2.cell 1
  simp only [List.getElem?_cons_zero,List.getElem?_cons_succ] at y0 y1
  obtain ⟨X,hX⟩:∃ X,X=(decide (r1=r2) && (decide (l1=l2) && decide (n1=n2))):=⟨_,rfl⟩
  rw [<- hX]
  have HX:=hide hX
  clear h1 h2 i1 i2 k1 k2 j2 b1 b2 hB2 hX
  by_cases e1:r1=r2
  · rw [decide_eq_true e1,Bool.true_and] at HX
    generalize decide (l1=l2)=D at HX HE
    subst e1
    cases D
    · rw [Bool.false_and] at HX
      go_enter Tryz.func156,Tryz.ntmps156
      go_wp2_with (go_at_call 199;refine HE.out.mono ?_;rintro e w3 ⟨rfl,hs3⟩)
      go_ret
      exact ⟨ret_bool HX.out.symm,HB2.out.trans (hs3 _)⟩
    · rw [Bool.true_and] at HX
      by_cases hln:n1.length=n2.length
      · have hlen:((n1.length:Int) != (n2.length:Int))=false:=by rw [hln];simp
        have Hln:=hide hln
        clear hln
        go_enter Tryz.func156,Tryz.ntmps156
        go_wp2_with fail
        refine HE.out.mono ?_
        rintro e w3 ⟨rfl,hs3⟩
        have hB3:=HB2.out.trans (hs3 _)
        have k3:=K2.out.below (hs3 _) K2.out.lt
        have j3:=J2.out.below (hs3 _) J2.out.lt
        have z2:=k3.cell 2
        have u2:=j3.cell 2
        simp only [List.getElem?_cons_zero,List.getElem?_cons_succ] at z2 u2
        go_wp2
        have K3:=hide k3
        have J3:=hide j3
        have HB3:=hide hB3
        clear k3 j3 hB3 hs3 x0 x1 y0 y1 z2 u2 hlen hw1 hw2
        go_loopw [5] (fun i wr=>∃ k:Nat,k<=n1.length/\i=.int .i64 k/\n1.take k=n2.take k/\Below w3.heap.size w3 wr) (fun i _=>n1.length - (intOf i).toNat)
        case atStart=>exact ⟨0,Nat.zero_le _,rfl,rfl,Below.refl _ _⟩
        case round =>
          obtain ⟨k,hk,rfl,ht,hb⟩:=hrel
          have Ht:=hide ht
          have kr:=K3.out.below hb K3.out.lt
          have jr:=J3.out.below hb J3.out.lt
          have z2:=kr.cell 2
          have u2:=jr.cell 2
          simp only [List.getElem?_cons_zero,List.getElem?_cons_succ] at z2 u2
          have HBr:=hide (HB3.out.trans (hb.mono HB3.out.size))
          clear ht kr jr
          by_cases hlt:k < n1.length
          · have hlt2:k < n2.length:=by have:=Hln.out;omega
            obtain ⟨p1,o1,rfl,m1,m2,m3,hc1⟩:=I1.out.at hlt
            obtain ⟨p2,o2,rfl,m4,m5,m6,hc2⟩:=I2.out.at hlt2
            replace hc1:=(HBr.out.cell (p:=⟨p1,o1+k,none⟩) m3).trans hc1
            replace hc2:=(HBr.out.cell (p:=⟨p2,o2+k,none⟩) m6).trans hc2
            have hli:(k:Int) < (n1.length:Int):=by omega
            have hli2:(k:Int) < (n2.length:Int):=by omega
            have Hb:=hide hb
            clear hb
            by_cases he:n1[k]=n2[k]
            · have Hnx:=hide (take_eq_snoc hlt hlt2 Ht.out he)
              rw [<- he] at hc2
              clear he
              generalize n1[k]=q1 at hc1 hc2
              go_wp2
              go_quiet (fail)
              go_wp2
              go_roundw
              case rel=>exact ⟨k+1,by omega,by go_num,Hnx.out,below_drewN Hb.out _⟩
              case measure=>simp [intOf];omega
            · have hf:Hid (decide (n1=n2)=false):=hide (by rw [decide_eq_false];intro e;subst e;exact he rfl)
              have Hf:=hide (HX.out.trans hf.out)
              have hq:=int_ne he
              clear he hf
              generalize n1[k]=q1 at hc1 hq
              generalize n2[k]=q2 at hc2 hq
              go_wp2
              go_quiet (fail)
              go_wp2
              go_ret
              exact ⟨ret_bool Hf.out.symm,below_drewN HBr.out _⟩
          · have hf:Hid (decide (n1=n2)=true):=hide (by
              rw [decide_eq_true]
              have:=Ht.out
              have h5:=Hln.out
              rwa [List.take_of_length_le (by omega),List.take_of_length_le (by omega)] at this)
            have Hf:=hide (HX.out.trans hf.out)
            clear hb hf
            go_wp2
            go_ret
            exact ⟨ret_bool Hf.out.symm,HBr.out⟩
      · have hlen:((n1.length:Int) != (n2.length:Int))=true:=by rw [bne_iff_ne];omega
        have Hf:=hide (HX.out.trans (decide_eq_false (by intro e;subst e;exact hln rfl)))
        clear hln
        go_enter Tryz.func156,Tryz.ntmps156
        go_wp2_with fail
        refine HE.out.mono ?_
        rintro e w3 ⟨rfl,hs3⟩
        have hB3:=HB2.out.trans (hs3 _)
        have k3:=K2.out.below (hs3 _) K2.out.lt
        have j3:=J2.out.below (hs3 _) J2.out.lt
        have z2:=k3.cell 2
        have u2:=j3.cell 2
        simp only [List.getElem?_cons_zero,List.getElem?_cons_succ] at z2 u2
        go_wp2
        go_ret
        exact ⟨ret_bool Hf.out.symm,hB3⟩
  · rw [decide_eq_false e1,Bool.false_and] at HX
    have hq:=int_ne e1
    clear e1
    go_enter Tryz.func156,Tryz.ntmps156
    go_wp2
    go_ret
    exact ⟨ret_bool HX.out.symm,HB2.out⟩
theorem specSameBlock_any (b b':Bk) (v v':Bv) (w:World) (hr:RdK w b v) (hr2:RdK w b' v') (hf:FewK b) (hf2:FewK b') :
    Calls Tryz.prog 113 #[bkV b v,bkV b' v'] w fun e w'=>e=.returned (.bool (sb9 b b'))/\Below w.heap.size w w':=by
  have HQ:=hide (fun V (hV:Below w.heap.size w V)=>specSameQc_any b.qr b.qb b'.qr b'.qb v.q v'.q b.qw b'.qw V (hr.q.below hV (Nat.le_refl _)) (hr2.q.below hV (Nat.le_refl _)) hf.q hf2.q)
  have HT:=hide (fun V (hV:Below w.heap.size w V)=>specSameTc_any b.tr b'.tr v.w v'.w v.h v'.h b.tw b'.tw b.th b'.th V (hr.p.below hV (Nat.le_refl _)) (hr2.p.below hV (Nat.le_refl _)) (hr.h.below hV (Nat.le_refl _)) (hr2.h.below hV (Nat.le_refl _)) hf.w hf2.w hf.h hf2.h)
  have HO:=hide (fun V (hV:Below w.heap.size w V)=>specSameT_any v.t v'.t b.ts b'.ts V (hr.t.below hV (Nat.le_refl _)) (hr2.t.below hV (Nat.le_refl _)) hf.t hf2.t)
  have HV:=hide (fun V (hV:Below w.heap.size w V)=>specSameV_any v.n v'.n b.nx b'.nx V (hr.n.below hV (Nat.le_refl _)) (hr2.n.below hV (Nat.le_refl _)) hf.n hf2.n)
  have HX:Hid (sb9 b b'=(decide (b.id=b'.id) && (decide (b.ep=b'.ep) && (decide (b.rd=b'.rd) && (decide (b.md=b'.md) && ((decide (b.qr=b'.qr) && (decide (b.qb=b'.qb) && decide (b.qw=b'.qw))) && ((decide (b.tr=b'.tr) && (decide (b.tw=b'.tw) && decide (b.th=b'.th))) && (decide (b.ts=b'.ts) && (decide (b.en=b'.en) && (decide (b.nx=b'.nx) && decide (b.rt=b'.rt))))))))))):=hide rfl
  generalize sb9 b b'=X at HX ⊢
  generalize (decide (b.qr=b'.qr) && (decide (b.qb=b'.qb) && decide (b.qw=b'.qw)))=Q0 at HX HQ
  generalize (decide (b.tr=b'.tr) && (decide (b.tw=b'.tw) && decide (b.th=b'.th)))=T0 at HX HT
  generalize decide (b.ts=b'.ts)=O0 at HX HO
  generalize decide (b.nx=b'.nx)=V0 at HX HV
  clear hf hf2
  obtain ⟨id,ep,rd,mk,qr,qb,qw,tr,tw,th,ts,en,nx,rt⟩:=b
  obtain ⟨vq,vw,vh,vt,vn⟩:=v
  obtain ⟨hq,hw,hh,ht,hn⟩:=hr
  obtain ⟨id2,ep2,rd2,mk2,qr2,qb2,qw2,tr2,tw2,th2,ts2,en2,nx2,rt2⟩:=b'
  obtain ⟨vq2,vw2,vh2,vt2,vn2⟩:=v'
  obtain ⟨hq2,hw2,hh2,ht2,hn2⟩:=hr2
  simp only [bkV,qcV,tcV] at *
  obtain ⟨aq,cq,rfl⟩:=hq.shape
  obtain ⟨aw,cw,rfl⟩:=hw.shape
  obtain ⟨ah,ch,rfl⟩:=hh.shape
  obtain ⟨at_,ct,rfl⟩:=ht.shape
  obtain ⟨an,cn,rfl⟩:=hn.shape
  obtain ⟨aq2,cq2,rfl⟩:=hq2.shape
  obtain ⟨aw2,cw2,rfl⟩:=hw2.shape
  obtain ⟨ah2,ch2,rfl⟩:=hh2.shape
  obtain ⟨at_2,ct2,rfl⟩:=ht2.shape
  obtain ⟨an2,cn2,rfl⟩:=hn2.shape
  clear hq hw hh ht hn hq2 hw2 hh2 ht2 hn2
  obtain ⟨w1,hw1⟩:∃ x,w.alloc (.cells #[.int .i64 id,.int .i64 ep,.int .i64 rd,.string mk,.int .i64 qr,.int .i64 qb,.slice aq qw.length cq,.int .i64 tr,.slice aw tw.length cw,.slice ah th.length ch,.slice at_ ts.length ct,.bool en,.slice an nx.length cn,.string rt] 94)=x:=⟨_,rfl⟩
  have b1:Below w.heap.size w w1:=by rw [<- hw1];exact (Below.refl _ w).alloc (Nat.le_refl _) _
  have k1:Blk w1 w.heap.size 94 [.int .i64 id,.int .i64 ep,.int .i64 rd,.string mk,.int .i64 qr,.int .i64 qb,.slice aq qw.length cq,.int .i64 tr,.slice aw tw.length cw,.slice ah th.length ch,.slice at_ ts.length ct,.bool en,.slice an nx.length cn,.string rt]:=by rw [<- hw1];exact Blk.new w _ _
  have s1:w1.heap.size=w.heap.size+1:=by rw [<- hw1];simp
  obtain ⟨w2,hw2⟩:∃ x,w1.alloc (.cells #[.int .i64 id2,.int .i64 ep2,.int .i64 rd2,.string mk2,.int .i64 qr2,.int .i64 qb2,.slice aq2 qw2.length cq2,.int .i64 tr2,.slice aw2 tw2.length cw2,.slice ah2 th2.length ch2,.slice at_2 ts2.length ct2,.bool en2,.slice an2 nx2.length cn2,.string rt2] 94)=x:=⟨_,rfl⟩
  have b2:Below w1.heap.size w1 w2:=by rw [<- hw2];exact (Below.refl _ w1).alloc (Nat.le_refl _) _
  have j2:Blk w2 (w.heap.size+1) 94 [.int .i64 id2,.int .i64 ep2,.int .i64 rd2,.string mk2,.int .i64 qr2,.int .i64 qb2,.slice aq2 qw2.length cq2,.int .i64 tr2,.slice aw2 tw2.length cw2,.slice ah2 th2.length ch2,.slice at_2 ts2.length ct2,.bool en2,.slice an2 nx2.length cn2,.string rt2]:=by rw [<- hw2,<- s1];exact Blk.new w1 _ _
  have hB2:Below w.heap.size w w2:=b1.trans (b2.mono b1.size)
  have k2:=k1.below b2 (by omega)
  have HB2:=hide hB2
  have K2:=hide k2
  have J2:=hide j2
  have x0:=k2.cell 0
  have x1:=k2.cell 1
  have x2:=k2.cell 2
  have x3:=k2.cell 3
  have x4:=k2.cell 4
  have x5:=k2.cell 5
  have x6:=k2.cell 6
  simp only [List.getElem?_cons_zero,List.getElem?_cons_succ] at x0 x1 x2 x3 x4 x5 x6
  have y0:=j2.cell 0
  have y1:=j2.cell 1
  have y2:=j2.cell 2
  have y3:=j2.cell 3
  have y4:=j2.cell 4
  have y5:=j2.cell 5
  have y6:=j2.cell 6
  simp only [List.getElem?_cons_zero,List.getElem?_cons_succ] at y0 y1 y2 y3 y4 y5 y6
  have HQ2:=hide (HQ.out w2 hB2)
  clear k1 k2 j2 b1 b2 hB2 HQ
  by_cases e_id:id=id2
  · rw [decide_eq_true e_id,Bool.true_and] at HX
    subst e_id
    by_cases e_ep:ep=ep2
    · rw [decide_eq_true e_ep,Bool.true_and] at HX
      subst e_ep
      by_cases e_rd:rd=rd2
      · rw [decide_eq_true e_rd,Bool.true_and] at HX
        subst e_rd
        by_cases e_mk:mk=mk2
        · rw [decide_eq_true e_mk,Bool.true_and] at HX
          subst e_mk
          cases Q0
          · rw [Bool.false_and] at HX
            go_enter Tryz.func113,Tryz.ntmps113
            go_wp2_with (first
                | (go_at_call 155;refine HQ2.out.mono ?_;rintro e w3 ⟨rfl,hb3⟩;have hB3:=HB2.out.trans (hb3.mono HB2.out.size);have k3:=K2.out.below hb3 K2.out.lt;have j3:=J2.out.below hb3 J2.out.lt;have z7:=k3.cell 7;have z8:=k3.cell 8;have z9:=k3.cell 9;simp only [List.getElem?_cons_zero,List.getElem?_cons_succ] at z7 z8 z9;have u7:=j3.cell 7;have u8:=j3.cell 8;have u9:=j3.cell 9;simp only [List.getElem?_cons_zero,List.getElem?_cons_succ] at u7 u8 u9))
            go_ret
            exact ⟨ret_bool HX.out.symm,hB3⟩
          · rw [Bool.true_and] at HX
            cases T0
            · rw [Bool.false_and] at HX
              go_enter Tryz.func113,Tryz.ntmps113
              go_wp2_with (first
                  | (go_at_call 155;refine HQ2.out.mono ?_;rintro e w3 ⟨rfl,hb3⟩;have hB3:=HB2.out.trans (hb3.mono HB2.out.size);have k3:=K2.out.below hb3 K2.out.lt;have j3:=J2.out.below hb3 J2.out.lt;have z7:=k3.cell 7;have z8:=k3.cell 8;have z9:=k3.cell 9;simp only [List.getElem?_cons_zero,List.getElem?_cons_succ] at z7 z8 z9;have u7:=j3.cell 7;have u8:=j3.cell 8;have u9:=j3.cell 9;simp only [List.getElem?_cons_zero,List.getElem?_cons_succ] at u7 u8 u9)
                  | (go_at_call 156;refine (HT.out w3 hB3).mono ?_;rintro e w4 ⟨rfl,hb4⟩;have hB4:=hB3.trans (hb4.mono hB3.size);have k4:=k3.below hb4 k3.lt;have j4:=j3.below hb4 j3.lt;have s10:=k4.cell 10;simp only [List.getElem?_cons_zero,List.getElem?_cons_succ] at s10;have t10:=j4.cell 10;simp only [List.getElem?_cons_zero,List.getElem?_cons_succ] at t10))
              go_ret
              exact ⟨ret_bool HX.out.symm,hB4⟩
            · rw [Bool.true_and] at HX
              cases O0
              · rw [Bool.false_and] at HX
                go_enter Tryz.func113,Tryz.ntmps113
                go_wp2_with (first
                    | (go_at_call 155;refine HQ2.out.mono ?_;rintro e w3 ⟨rfl,hb3⟩;have hB3:=HB2.out.trans (hb3.mono HB2.out.size);have k3:=K2.out.below hb3 K2.out.lt;have j3:=J2.out.below hb3 J2.out.lt;have z7:=k3.cell 7;have z8:=k3.cell 8;have z9:=k3.cell 9;simp only [List.getElem?_cons_zero,List.getElem?_cons_succ] at z7 z8 z9;have u7:=j3.cell 7;have u8:=j3.cell 8;have u9:=j3.cell 9;simp only [List.getElem?_cons_zero,List.getElem?_cons_succ] at u7 u8 u9)
                    | (go_at_call 156;refine (HT.out w3 hB3).mono ?_;rintro e w4 ⟨rfl,hb4⟩;have hB4:=hB3.trans (hb4.mono hB3.size);have k4:=k3.below hb4 k3.lt;have j4:=j3.below hb4 j3.lt;have s10:=k4.cell 10;simp only [List.getElem?_cons_zero,List.getElem?_cons_succ] at s10;have t10:=j4.cell 10;simp only [List.getElem?_cons_zero,List.getElem?_cons_succ] at t10)
                    | (go_at_call 157;refine (HO.out w4 hB4).mono ?_;rintro e w5 ⟨rfl,hs5⟩;have hB5:=hB4.trans (hs5 _);have k5:=k4.below (hs5 _) k4.lt;have j5:=j4.below (hs5 _) j4.lt;have p11:=k5.cell 11;have p12:=k5.cell 12;have p13:=k5.cell 13;simp only [List.getElem?_cons_zero,List.getElem?_cons_succ] at p11 p12 p13;have q11:=j5.cell 11;have q12:=j5.cell 12;have q13:=j5.cell 13;simp only [List.getElem?_cons_zero,List.getElem?_cons_succ] at q11 q12 q13))
                go_ret
                exact ⟨ret_bool HX.out.symm,hB5⟩
              · rw [Bool.true_and] at HX
                by_cases e_en:en=en2
                · rw [decide_eq_true e_en,Bool.true_and] at HX
                  subst e_en
                  cases V0
                  · rw [Bool.false_and] at HX
                    go_enter Tryz.func113,Tryz.ntmps113
                    go_wp2_with (first
                        | (go_at_call 155;refine HQ2.out.mono ?_;rintro e w3 ⟨rfl,hb3⟩;have hB3:=HB2.out.trans (hb3.mono HB2.out.size);have k3:=K2.out.below hb3 K2.out.lt;have j3:=J2.out.below hb3 J2.out.lt;have z7:=k3.cell 7;have z8:=k3.cell 8;have z9:=k3.cell 9;simp only [List.getElem?_cons_zero,List.getElem?_cons_succ] at z7 z8 z9;have u7:=j3.cell 7;have u8:=j3.cell 8;have u9:=j3.cell 9;simp only [List.getElem?_cons_zero,List.getElem?_cons_succ] at u7 u8 u9)
                        | (go_at_call 156;refine (HT.out w3 hB3).mono ?_;rintro e w4 ⟨rfl,hb4⟩;have hB4:=hB3.trans (hb4.mono hB3.size);have k4:=k3.below hb4 k3.lt;have j4:=j3.below hb4 j3.lt;have s10:=k4.cell 10;simp only [List.getElem?_cons_zero,List.getElem?_cons_succ] at s10;have t10:=j4.cell 10;simp only [List.getElem?_cons_zero,List.getElem?_cons_succ] at t10)
                        | (go_at_call 157;refine (HO.out w4 hB4).mono ?_;rintro e w5 ⟨rfl,hs5⟩;have hB5:=hB4.trans (hs5 _);have k5:=k4.below (hs5 _) k4.lt;have j5:=j4.below (hs5 _) j4.lt;have p11:=k5.cell 11;have p12:=k5.cell 12;have p13:=k5.cell 13;simp only [List.getElem?_cons_zero,List.getElem?_cons_succ] at p11 p12 p13;have q11:=j5.cell 11;have q12:=j5.cell 12;have q13:=j5.cell 13;simp only [List.getElem?_cons_zero,List.getElem?_cons_succ] at q11 q12 q13)
                        | (go_at_call 158;refine (HV.out w5 hB5).mono ?_;rintro e w6 ⟨rfl,hs6⟩;have hB6:=hB5.trans (hs6 _);have k6:=k5.below (hs6 _) k5.lt;have j6:=j5.below (hs6 _) j5.lt;have m13:=k6.cell 13;simp only [List.getElem?_cons_zero,List.getElem?_cons_succ] at m13;have n13:=j6.cell 13;simp only [List.getElem?_cons_zero,List.getElem?_cons_succ] at n13))
                    go_ret
                    exact ⟨ret_bool HX.out.symm,hB6⟩
                  · rw [Bool.true_and] at HX
                    by_cases e_rt:rt=rt2
                    · rw [decide_eq_true e_rt] at HX
                      subst e_rt
                      go_enter Tryz.func113,Tryz.ntmps113
                      go_wp2_with (first
                          | (go_at_call 155;refine HQ2.out.mono ?_;rintro e w3 ⟨rfl,hb3⟩;have hB3:=HB2.out.trans (hb3.mono HB2.out.size);have k3:=K2.out.below hb3 K2.out.lt;have j3:=J2.out.below hb3 J2.out.lt;have z7:=k3.cell 7;have z8:=k3.cell 8;have z9:=k3.cell 9;simp only [List.getElem?_cons_zero,List.getElem?_cons_succ] at z7 z8 z9;have u7:=j3.cell 7;have u8:=j3.cell 8;have u9:=j3.cell 9;simp only [List.getElem?_cons_zero,List.getElem?_cons_succ] at u7 u8 u9)
                          | (go_at_call 156;refine (HT.out w3 hB3).mono ?_;rintro e w4 ⟨rfl,hb4⟩;have hB4:=hB3.trans (hb4.mono hB3.size);have k4:=k3.below hb4 k3.lt;have j4:=j3.below hb4 j3.lt;have s10:=k4.cell 10;simp only [List.getElem?_cons_zero,List.getElem?_cons_succ] at s10;have t10:=j4.cell 10;simp only [List.getElem?_cons_zero,List.getElem?_cons_succ] at t10)
                          | (go_at_call 157;refine (HO.out w4 hB4).mono ?_;rintro e w5 ⟨rfl,hs5⟩;have hB5:=hB4.trans (hs5 _);have k5:=k4.below (hs5 _) k4.lt;have j5:=j4.below (hs5 _) j4.lt;have p11:=k5.cell 11;have p12:=k5.cell 12;have p13:=k5.cell 13;simp only [List.getElem?_cons_zero,List.getElem?_cons_succ] at p11 p12 p13;have q11:=j5.cell 11;have q12:=j5.cell 12;have q13:=j5.cell 13;simp only [List.getElem?_cons_zero,List.getElem?_cons_succ] at q11 q12 q13)
                          | (go_at_call 158;refine (HV.out w5 hB5).mono ?_;rintro e w6 ⟨rfl,hs6⟩;have hB6:=hB5.trans (hs6 _);have k6:=k5.below (hs6 _) k5.lt;have j6:=j5.below (hs6 _) j5.lt;have m13:=k6.cell 13;simp only [List.getElem?_cons_zero,List.getElem?_cons_succ] at m13;have n13:=j6.cell 13;simp only [List.getElem?_cons_zero,List.getElem?_cons_succ] at n13))
                      go_ret
                      exact ⟨ret_bool HX.out.symm,hB6⟩
                    · rw [decide_eq_false e_rt] at HX
                      have hq:=bytes_ne e_rt
                      clear e_rt
                      go_enter Tryz.func113,Tryz.ntmps113
                      go_wp2_with (first
                          | (go_at_call 155;refine HQ2.out.mono ?_;rintro e w3 ⟨rfl,hb3⟩;have hB3:=HB2.out.trans (hb3.mono HB2.out.size);have k3:=K2.out.below hb3 K2.out.lt;have j3:=J2.out.below hb3 J2.out.lt;have z7:=k3.cell 7;have z8:=k3.cell 8;have z9:=k3.cell 9;simp only [List.getElem?_cons_zero,List.getElem?_cons_succ] at z7 z8 z9;have u7:=j3.cell 7;have u8:=j3.cell 8;have u9:=j3.cell 9;simp only [List.getElem?_cons_zero,List.getElem?_cons_succ] at u7 u8 u9)
                          | (go_at_call 156;refine (HT.out w3 hB3).mono ?_;rintro e w4 ⟨rfl,hb4⟩;have hB4:=hB3.trans (hb4.mono hB3.size);have k4:=k3.below hb4 k3.lt;have j4:=j3.below hb4 j3.lt;have s10:=k4.cell 10;simp only [List.getElem?_cons_zero,List.getElem?_cons_succ] at s10;have t10:=j4.cell 10;simp only [List.getElem?_cons_zero,List.getElem?_cons_succ] at t10)
                          | (go_at_call 157;refine (HO.out w4 hB4).mono ?_;rintro e w5 ⟨rfl,hs5⟩;have hB5:=hB4.trans (hs5 _);have k5:=k4.below (hs5 _) k4.lt;have j5:=j4.below (hs5 _) j4.lt;have p11:=k5.cell 11;have p12:=k5.cell 12;have p13:=k5.cell 13;simp only [List.getElem?_cons_zero,List.getElem?_cons_succ] at p11 p12 p13;have q11:=j5.cell 11;have q12:=j5.cell 12;have q13:=j5.cell 13;simp only [List.getElem?_cons_zero,List.getElem?_cons_succ] at q11 q12 q13)
                          | (go_at_call 158;refine (HV.out w5 hB5).mono ?_;rintro e w6 ⟨rfl,hs6⟩;have hB6:=hB5.trans (hs6 _);have k6:=k5.below (hs6 _) k5.lt;have j6:=j5.below (hs6 _) j5.lt;have m13:=k6.cell 13;simp only [List.getElem?_cons_zero,List.getElem?_cons_succ] at m13;have n13:=j6.cell 13;simp only [List.getElem?_cons_zero,List.getElem?_cons_succ] at n13))
                      go_ret
                      exact ⟨ret_bool HX.out.symm,hB6⟩
                · rw [decide_eq_false e_en,Bool.false_and] at HX
                  cases en
                  · cases en2
                    · exact absurd rfl e_en
                    · clear e_en
                      go_enter Tryz.func113,Tryz.ntmps113
                      go_wp2_with (first
                          | (go_at_call 155;refine HQ2.out.mono ?_;rintro e w3 ⟨rfl,hb3⟩;have hB3:=HB2.out.trans (hb3.mono HB2.out.size);have k3:=K2.out.below hb3 K2.out.lt;have j3:=J2.out.below hb3 J2.out.lt;have z7:=k3.cell 7;have z8:=k3.cell 8;have z9:=k3.cell 9;simp only [List.getElem?_cons_zero,List.getElem?_cons_succ] at z7 z8 z9;have u7:=j3.cell 7;have u8:=j3.cell 8;have u9:=j3.cell 9;simp only [List.getElem?_cons_zero,List.getElem?_cons_succ] at u7 u8 u9)
                          | (go_at_call 156;refine (HT.out w3 hB3).mono ?_;rintro e w4 ⟨rfl,hb4⟩;have hB4:=hB3.trans (hb4.mono hB3.size);have k4:=k3.below hb4 k3.lt;have j4:=j3.below hb4 j3.lt;have s10:=k4.cell 10;simp only [List.getElem?_cons_zero,List.getElem?_cons_succ] at s10;have t10:=j4.cell 10;simp only [List.getElem?_cons_zero,List.getElem?_cons_succ] at t10)
                          | (go_at_call 157;refine (HO.out w4 hB4).mono ?_;rintro e w5 ⟨rfl,hs5⟩;have hB5:=hB4.trans (hs5 _);have k5:=k4.below (hs5 _) k4.lt;have j5:=j4.below (hs5 _) j4.lt;have p11:=k5.cell 11;have p12:=k5.cell 12;have p13:=k5.cell 13;simp only [List.getElem?_cons_zero,List.getElem?_cons_succ] at p11 p12 p13;have q11:=j5.cell 11;have q12:=j5.cell 12;have q13:=j5.cell 13;simp only [List.getElem?_cons_zero,List.getElem?_cons_succ] at q11 q12 q13))
                      go_ret
                      exact ⟨ret_bool HX.out.symm,hB5⟩
                  · cases en2
                    · clear e_en
                      go_enter Tryz.func113,Tryz.ntmps113
                      go_wp2_with (first
                          | (go_at_call 155;refine HQ2.out.mono ?_;rintro e w3 ⟨rfl,hb3⟩;have hB3:=HB2.out.trans (hb3.mono HB2.out.size);have k3:=K2.out.below hb3 K2.out.lt;have j3:=J2.out.below hb3 J2.out.lt;have z7:=k3.cell 7;have z8:=k3.cell 8;have z9:=k3.cell 9;simp only [List.getElem?_cons_zero,List.getElem?_cons_succ] at z7 z8 z9;have u7:=j3.cell 7;have u8:=j3.cell 8;have u9:=j3.cell 9;simp only [List.getElem?_cons_zero,List.getElem?_cons_succ] at u7 u8 u9)
                          | (go_at_call 156;refine (HT.out w3 hB3).mono ?_;rintro e w4 ⟨rfl,hb4⟩;have hB4:=hB3.trans (hb4.mono hB3.size);have k4:=k3.below hb4 k3.lt;have j4:=j3.below hb4 j3.lt;have s10:=k4.cell 10;simp only [List.getElem?_cons_zero,List.getElem?_cons_succ] at s10;have t10:=j4.cell 10;simp only [List.getElem?_cons_zero,List.getElem?_cons_succ] at t10)
                          | (go_at_call 157;refine (HO.out w4 hB4).mono ?_;rintro e w5 ⟨rfl,hs5⟩;have hB5:=hB4.trans (hs5 _);have k5:=k4.below (hs5 _) k4.lt;have j5:=j4.below (hs5 _) j4.lt;have p11:=k5.cell 11;have p12:=k5.cell 12;have p13:=k5.cell 13;simp only [List.getElem?_cons_zero,List.getElem?_cons_succ] at p11 p12 p13;have q11:=j5.cell 11;have q12:=j5.cell 12;have q13:=j5.cell 13;simp only [List.getElem?_cons_zero,List.getElem?_cons_succ] at q11 q12 q13))
                      go_ret
                      exact ⟨ret_bool HX.out.symm,hB5⟩
                    · exact absurd rfl e_en
        · rw [decide_eq_false e_mk,Bool.false_and] at HX
          have hq:=bytes_ne e_mk
          clear e_mk
          go_enter Tryz.func113,Tryz.ntmps113
          go_wp2
          go_ret
          exact ⟨ret_bool HX.out.symm,HB2.out⟩
      · rw [decide_eq_false e_rd,Bool.false_and] at HX
        have hq:=int_bf e_rd
        clear e_rd
        go_enter Tryz.func113,Tryz.ntmps113
        go_wp2
        go_ret
        exact ⟨ret_bool HX.out.symm,HB2.out⟩
    · rw [decide_eq_false e_ep,Bool.false_and] at HX
      have hq:=int_bf e_ep
      clear e_ep
      go_enter Tryz.func113,Tryz.ntmps113
      go_wp2
      go_ret
      exact ⟨ret_bool HX.out.symm,HB2.out⟩
  · rw [decide_eq_false e_id,Bool.false_and] at HX
    have hq:=int_bf e_id
    clear e_id
    go_enter Tryz.func113,Tryz.ntmps113
    go_wp2
    go_ret
    exact ⟨ret_bool HX.out.symm,HB2.out⟩
end Go.Proofs.YtckahjabljffjaaGreat
