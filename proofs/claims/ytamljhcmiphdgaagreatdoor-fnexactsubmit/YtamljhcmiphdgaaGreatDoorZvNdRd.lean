/- The landed code's roundsOk, of any node. -/
import Derived.Test.YtamljhcmiphdgaaGreatDoorZvCtOkI
set_option maxRecDepth 20000
set_option maxHeartbeats 4000000
namespace Go.Proofs.YtamljhcmiphdgaaGreatDoor
open Go.RowKit
set_option linter.unusedVariables false
theorem dS_ (r:Int) (vw vh:Value) (ws:List ByteArray) (hs:List Int) (w:World) (hrw:RdS w vw ws) (hrh:RdI w vh hs) (hlw:ws.length<=4000000) (hlh:hs.length<=4000000) :
  Calls Tryz.prog 181 #[tcV r vw vh] w fun e w'=>e=.returned (.bool (noneB r ws hs))/\Below w.heap.size w w':=by
 obtain ⟨a,c,rfl⟩:=hrw.shape
 obtain ⟨a2,c2,rfl⟩:=hrh.shape
 clear hrw hrh
 simp only [tcV]
 have HB:=a_ ((br_ _ w).alloc (nr_ _) (.cells #[.int .i64 r,.slice a ws.length c,.slice a2 hs.length c2] 49))
 by_cases h1:r=0
 ·by_cases h2:ws.length=0
  ·by_cases h3:hs.length=0
   ·have Hf:Hid (noneB r ws hs=true):=a_ (by unfold noneB;rw [decide_eq_true h1,decide_eq_true h2,decide_eq_true h3];rfl)
    have h2i:((ws.length:Int) == 0)=true:=by rw [beq_iff_eq];omega
    have h3i:((hs.length:Int) == 0)=true:=by rw [beq_iff_eq];omega
    subst h1
    generalize noneB 0 ws hs=X at Hf ⊢
    clear h2 h3
    go_enter Tryz.func181,Tryz.ntmps181
    go_wp2
    go_ret
    exact ⟨b_ Hf.out.symm,HB.out⟩
   ·have Hf:Hid (noneB r ws hs=false):=a_ (by unfold noneB;rw [decide_eq_false h3,Bool.and_false,Bool.and_false])
    have h2i:((ws.length:Int) == 0)=true:=by rw [beq_iff_eq];omega
    have h3i:((hs.length:Int) == 0)=false:=by rw [beq_eq_false_iff_ne];omega
    subst h1
    generalize noneB 0 ws hs=X at Hf ⊢
    clear h2 h3
    go_enter Tryz.func181,Tryz.ntmps181
    go_wp2
    go_ret
    exact ⟨b_ Hf.out.symm,HB.out⟩
  ·have Hf:Hid (noneB r ws hs=false):=a_ (by unfold noneB;rw [decide_eq_false h2,Bool.false_and,Bool.and_false])
   have h2i:((ws.length:Int) == 0)=false:=by rw [beq_eq_false_iff_ne];omega
   subst h1
   generalize noneB 0 ws hs=X at Hf ⊢
   clear h2
   go_enter Tryz.func181,Tryz.ntmps181
   go_wp2
   go_ret
   exact ⟨b_ Hf.out.symm,HB.out⟩
 ·have Hf:Hid (noneB r ws hs=false):=a_ (by unfold noneB;rw [decide_eq_false h1,Bool.false_and])
  have h1i:(r == 0)=false:=by rw [beq_eq_false_iff_ne];exact h1
  generalize noneB r ws hs=X at Hf ⊢
  clear h1
  go_enter Tryz.func181,Tryz.ntmps181
  go_wp2
  go_ret
  exact ⟨b_ Hf.out.symm,HB.out⟩
theorem dc_ (r:Int) (vw vh:Value) (ws:List ByteArray) (hs:List Int) (w:World) (hrw:RdS w vw ws) (hrh:RdI w vh hs) (hlw:ws.length<=4000000) (hlh:hs.length<=4000000) (hr1:1<=r) (hr2:r<=10000) :
  Calls Tryz.prog 182 #[tcV r vw vh] w fun e w'=>e=.returned (.bool (decide (hs.length=ws.length) && hisB r hs))/\Below w.heap.size w w':=by
 obtain ⟨a,c,rfl⟩:=hrw.shape
 obtain ⟨a2,c2,rfl⟩:=hrh.shape
 simp only [tcV]
 obtain ⟨w1,hw1⟩:∃ w1,w.alloc (.cells #[.int .i64 r,.slice a ws.length c,.slice a2 hs.length c2] 49)=w1:=⟨_,rfl⟩
 have hb1:Below w.heap.size w w1:=by rw [<- hw1];exact (br_ _ w).alloc (nr_ _) _
 have k1:Blk w1 w.heap.size 49 [.int .i64 r,.slice a ws.length c,.slice a2 hs.length c2]:=by rw [<- hw1];exact Blk.new w _ _
 have Hrh:=a_ hrh
 have hwr:IntKind.i64.wrap (r - 1)=r - 1:=by rw [IntKind.wrap_i64];omega
 have Hno:=a_ (fun k h hk=>show (decide (hs.length=ws.length) && hisB r hs)=false by rw [da_ r hs k h hk,Bool.and_false])
 have Hyes:=a_ (fun h=>show (decide (hs.length=ws.length) && hisB r hs)=decide (hs.length=ws.length) by rw [cg_ r hs h,Bool.and_true])
 have HE:Hid (((hs.length:Int) == (ws.length:Int))=decide (hs.length=ws.length)):=a_ (by
  by_cases h:hs.length=ws.length
  ·rw [decide_eq_true h,beq_iff_eq];omega
  ·rw [decide_eq_false h,beq_eq_false_iff_ne];omega)
 generalize decide (hs.length=ws.length)=D at HE Hno Hyes ⊢
 generalize (D && hisB r hs)=X at Hno Hyes ⊢
 have x2:=k1.cell 2
 simp only [gz_,gs_] at x2
 have K1:=a_ k1
 have HB1:=a_ hb1
 clear hrw hrh k1 hb1 hr1 hr2
 go_enter Tryz.func182,Tryz.ntmps182
 go_wp2
 go_loopw [8] (fun iv wr=>∃ i:Nat,i<=hs.length/\iv=.int .i64 (i:Int)/\(∀ j (hj:j < hs.length),j < i->inB hs[j] 0 (r - 1)=true)/\wr=w1) (fun iv _=>hs.length - (intOf iv).toNat)
 case atStart=>exact ⟨0,Nat.zero_le _,rfl,fun j _ hj=>by omega,rfl⟩
 case round =>
  obtain ⟨i,hi,rfl,hok,rfl⟩:=hrel
  have t0:=K1.out.cell 0
  have t1:=K1.out.cell 1
  simp only [gz_,gs_] at t0 t1
  have Hok:=a_ hok
  clear hok
  by_cases hlt:i < hs.length
  ·obtain ⟨bh,oh,rfl,hc1,hc2,hbh,hch⟩:=Hrh.out.at hlt
   have c0:=(HB1.out.cell (p:=⟨bh,oh+i,none⟩) hbh).trans hch
   have hli:(i:Int) < (hs.length:Int):=by omega
   have Hno:=a_ (Hno.out i hlt)
   have Hnx:Hid (inB hs[i] 0 (r - 1)=true->∀ j (hj:j < hs.length),j < i+1->inB hs[j] 0 (r - 1)=true):=a_ (fun h j hj hji=>by
    by_cases e:j=i
    ·subst e;exact h
    ·exact Hok.out j hj (by omega))
   generalize hs[i]=x at c0 hch Hno Hnx
   clear hch
   cases hx:inB x 0 (r - 1)
   ·have Hf:=a_ (Hno.out hx)
    go_wp2_with (go_at_call 162;refine (f_ _ _ _ _).mono ?_;rintro e w3 ⟨rfl,rfl⟩)
    go_ret
    exact ⟨b_ Hf.out.symm,HB1.out⟩
   ·have Hnx:=a_ (Hnx.out hx)
    go_wp2_with (go_at_call 162;refine (f_ _ _ _ _).mono ?_;rintro e w3 ⟨rfl,rfl⟩)
    go_roundw
    case rel=>exact ⟨i+1,by omega,by go_num,Hnx.out,by trivial⟩
    case measure=>simp [intOf];omega
  ·have Hf:=a_ (HE.out.trans (Hyes.out (fun j hj=>Hok.out j hj (by omega))).symm)
   go_wp2
   go_ret
   exact ⟨b_ Hf.out,HB1.out⟩
theorem eX_ (v vw vh:Value) (l:List Vl) (r:Int) (ws:List ByteArray) (hs:List Int) (w:World) (hr:RdV w v l) (hrw:RdS w vw ws) (hrh:RdI w vh hs) (hl:l.length<=4000000) (hlw:ws.length<=4000000) (hlh:hs.length<=4000000) (hsz:∀ s ∈ ws,s.size<=maxLen) (hm:ModV l) :
  Calls Tryz.prog 164 #[v,tcV r vw vh] w fun e w'=>e=.returned (.bool (tcB l r ws hs))/\Below w.heap.size w w':=by
 obtain ⟨al,cl,rfl⟩:=hr.shape
 obtain ⟨a,c,rfl⟩:=hrw.shape
 obtain ⟨a2,c2,rfl⟩:=hrh.shape
 obtain ⟨w1,hw1⟩:∃ w1,w.alloc (.cells #[.int .i64 r,.slice a ws.length c,.slice a2 hs.length c2] 49)=w1:=⟨_,rfl⟩
 have hb1:Below w.heap.size w w1:=by rw [<- hw1];exact (br_ _ w).alloc (nr_ _) _
 have k1:Blk w1 w.heap.size 49 [.int .i64 r,.slice a ws.length c,.slice a2 hs.length c2]:=by rw [<- hw1];exact Blk.new w _ _
 have HN:=a_ (dS_ r _ _ ws hs w1 (hrw.below hb1 (nr_ _)) (hrh.below hb1 (nr_ _)) hlw hlh)
 have HA:=a_ (fun V (hb:Below w.heap.size w V)=>aP_ (.slice al l.length cl) (.slice a ws.length c) l ws V (hr.below hb (nr_ _)) (hrw.below hb (nr_ _)) hl hlw hsz hm)
 have HH:=a_ (fun V (hb:Below w.heap.size w V)=>dc_ r (.slice a ws.length c) (.slice a2 hs.length c2) ws hs V (hrw.below hb (nr_ _)) (hrh.below hb (nr_ _)) hlw hlh)
 have HX:Hid (tcB l r ws hs=(noneB r ws hs || (inB r 1 10000 && ((allV l ws && quoB l ws) && (decide (hs.length=ws.length) && hisB r hs))))):=a_ (by unfold tcB;cases allV l ws <;> cases quoB l ws <;> rfl)
 generalize tcB l r ws hs=X at HX ⊢
 generalize noneB r ws hs=N0 at HX HN
 generalize (allV l ws && quoB l ws)=A0 at HX HA
 generalize (decide (hs.length=ws.length) && hisB r hs)=H0 at HX HH
 simp only [tcV] at *
 have x0:=k1.cell 0
 have x1:=k1.cell 1
 have x2:=k1.cell 2
 simp only [gz_,gs_] at x0 x1 x2
 clear hr hrw hrh hsz hm
 cases N0
 ·rw [Bool.false_or] at HX
  go_enter Tryz.func164,Tryz.ntmps164
  go_wp2_with fail
  refine HN.out.mono ?_
  rintro e w2 ⟨rfl,hb2⟩
  have k2:=k1.below hb2 k1.lt
  have hB2:=hb1.trans (hb2.mono hb1.size)
  have y0:=k2.cell 0
  have y1:=k2.cell 1
  have y2:=k2.cell 2
  simp only [gz_,gs_] at y0 y1 y2
  clear x0 x1 x2 k1 hb2 hw1
  cases h1:inB r 1 10000
  ·rw [h1,Bool.false_and] at HX
   go_wp2_with (go_at_call 162;refine (f_ _ _ _ _).mono ?_;rintro e w3 ⟨rfl,rfl⟩)
   go_ret
   exact ⟨b_ HX.out.symm,hB2⟩
  ·have hr1:1<=r/\r<=10000:=by unfold inB at h1;simpa using h1
   rw [h1,Bool.true_and] at HX
   have HH:=a_ (fun V hb=>HH.out V hb hr1.1 hr1.2)
   have HA2:=a_ (HA.out _ hB2)
   clear hr1 HA
   cases A0
   ·rw [Bool.false_and] at HX
    go_wp2_with (first
     | (go_at_call 162;refine (f_ _ _ _ _).mono ?_;rintro e w3 ⟨rfl,rfl⟩)
     | (go_at_call 180;refine HA2.out.mono ?_;rintro e w4 ⟨rfl,hb4⟩))
    go_ret
    exact ⟨b_ HX.out.symm,hB2.trans (hb4.mono hB2.size)⟩
   ·rw [Bool.true_and] at HX
    go_wp2_with (first
     | (go_at_call 162;refine (f_ _ _ _ _).mono ?_;rintro e w3 ⟨rfl,rfl⟩)
     | (go_at_call 180;refine HA2.out.mono ?_;rintro e w4 ⟨rfl,hb4⟩;have hB4:=hB2.trans (hb4.mono hB2.size);have k4:=k2.below hb4 k2.lt;have z0:=k4.cell 0;have z1:=k4.cell 1;have z2:=k4.cell 2;simp only [gz_,gs_] at z0 z1 z2)
     | (go_at_call 182;refine (HH.out _ hB4).mono ?_;rintro e w5 ⟨rfl,hb5⟩))
    go_ret
    exact ⟨b_ HX.out.symm,hB4.trans (hb5.mono hB4.size)⟩
 ·rw [Bool.true_or] at HX
  go_enter Tryz.func164,Tryz.ntmps164
  go_wp2_with fail
  refine HN.out.mono ?_
  rintro e w2 ⟨rfl,hb2⟩
  have hB2:=hb1.trans (hb2.mono hb1.size)
  clear x0 x1 x2 k1 hb2
  go_wp2
  go_ret
  exact ⟨b_ HX.out.symm,hB2⟩
def rdsB (l:List Vl) (rd vd ld hr hb tr:Int) (ws xs:List ByteArray) (hs:List Int):Bool:=inB rd 1 10000 && (inB vd 0 10000 && (inB ld 0 10000 && (qcB l hr hb ws && (decide (hr < rd) && (tcB l tr xs hs && decide (tr < rd))))))
theorem cC_ (nm:ByteArray) (e be rd vd hr hb tr ld:Int) (aA aS aT aW aX aH aV aG aD aP aQ:Option Addr) (nA nT nV nG nD nP nQ cA cS cT cW cX cH cV cG cD cP cQ:Nat) (l:List Vl) (ws xs:List ByteArray) (hs:List Int) (w:World)
  (hS:RdV w (.slice aS l.length cS) l) (hW:RdS w (.slice aW ws.length cW) ws) (hX:RdS w (.slice aX xs.length cX) xs) (hH:RdI w (.slice aH hs.length cH) hs)
  (hl:l.length<=4000000) (hlw:ws.length<=4000000) (hlx:xs.length<=4000000) (hlh:hs.length<=4000000) (hzw:∀ s ∈ ws,s.size<=maxLen) (hzx:∀ s ∈ xs,s.size<=maxLen) (hm:ModV l) :
  Calls Tryz.prog 135 #[.agg #[.string nm,.int .i64 e,.int .i64 be,.slice aA nA cA,.slice aS l.length cS,.slice aT nT cT,.int .i64 rd,.int .i64 vd,.int .i64 hr,.int .i64 hb,.slice aW ws.length cW,.int .i64 tr,.slice aX xs.length cX,.slice aH hs.length cH,.int .i64 ld,.slice aV nV cV,.slice aG nG cG,.slice aD nD cD,.slice aP nP cP,.slice aQ nQ cQ]] w fun en w'=>en=.returned (.bool (rdsB l rd vd ld hr hb tr ws xs hs))/\Below w.heap.size w w':=by
 obtain ⟨w1,hw1⟩:∃ x,w.alloc (.cells #[.string nm,.int .i64 e,.int .i64 be,.slice aA nA cA,.slice aS l.length cS,.slice aT nT cT,.int .i64 rd,.int .i64 vd,.int .i64 hr,.int .i64 hb,.slice aW ws.length cW,.int .i64 tr,.slice aX xs.length cX,.slice aH hs.length cH,.int .i64 ld,.slice aV nV cV,.slice aG nG cG,.slice aD nD cD,.slice aP nP cP,.slice aQ nQ cQ] 55)=x:=⟨_,rfl⟩
 have b1:Below w.heap.size w w1:=by rw [<- hw1];exact (br_ _ w).alloc (nr_ _) _
 have k1:Blk w1 w.heap.size 55 [.string nm,.int .i64 e,.int .i64 be,.slice aA nA cA,.slice aS l.length cS,.slice aT nT cT,.int .i64 rd,.int .i64 vd,.int .i64 hr,.int .i64 hb,.slice aW ws.length cW,.int .i64 tr,.slice aX xs.length cX,.slice aH hs.length cH,.int .i64 ld,.slice aV nV cV,.slice aG nG cG,.slice aD nD cD,.slice aP nP cP,.slice aQ nQ cQ]:=by rw [<- hw1];exact Blk.new w _ _
 have HQ:=a_ (fun V (hV:Below w.heap.size w V)=>fB_ (.slice aS l.length cS) (.slice aW ws.length cW) l hr hb ws V (hS.below hV (nr_ _)) (hW.below hV (nr_ _)) hl hlw hzw hm)
 have HT:=a_ (fun V (hV:Below w.heap.size w V)=>eX_ (.slice aS l.length cS) (.slice aX xs.length cX) (.slice aH hs.length cH) l tr xs hs V (hS.below hV (nr_ _)) (hX.below hV (nr_ _)) (hH.below hV (nr_ _)) hl hlx hlh hzx hm)
 have HF:Hid (rdsB l rd vd ld hr hb tr ws xs hs=(inB rd 1 10000 && (inB vd 0 10000 && (inB ld 0 10000 && (qcB l hr hb ws && (decide (hr < rd) && (tcB l tr xs hs && decide (tr < rd)))))))):=a_ rfl
 generalize rdsB l rd vd ld hr hb tr ws xs hs=X at HF ⊢
 generalize qcB l hr hb ws=Q0 at HF HQ
 generalize tcB l tr xs hs=T0 at HF HT
 simp only [qcV,tcV] at HQ HT
 have x4:=k1.cell 4
 have x6:=k1.cell 6
 have x7:=k1.cell 7
 have x8:=k1.cell 8
 have x9:=k1.cell 9
 have x10:=k1.cell 10
 have x11:=k1.cell 11
 have x12:=k1.cell 12
 have x13:=k1.cell 13
 have x14:=k1.cell 14
 simp only [gz_,gs_] at x4 x6 x7 x8 x9 x10 x11 x12 x13 x14
 have HQ1:=a_ (HQ.out _ b1)
 clear hS hW hX hH hzw hzx hm HQ hl hlw hlx hlh
 cases h0:inB rd 1 10000
 ·rw [h0,Bool.false_and] at HF
  go_enter Tryz.func135,Tryz.ntmps135
  go_wp2_with (go_at_call 162;refine (f_ _ _ _ _).mono ?_;rintro en w3 ⟨rfl,rfl⟩)
  go_ret
  exact ⟨b_ HF.out.symm,b1⟩
 ·rw [h0, Bool.true_and] at HF
  cases h1:inB vd 0 10000
  ·rw [h1,Bool.false_and] at HF
   go_enter Tryz.func135,Tryz.ntmps135
   go_wp2_with (go_at_call 162;refine (f_ _ _ _ _).mono ?_;rintro en w3 ⟨rfl,rfl⟩)
   go_ret
   exact ⟨b_ HF.out.symm,b1⟩
  ·rw [h1, Bool.true_and] at HF
   cases h2:inB ld 0 10000
   ·rw [h2,Bool.false_and] at HF
    go_enter Tryz.func135,Tryz.ntmps135
    go_wp2_with (go_at_call 162;refine (f_ _ _ _ _).mono ?_;rintro en w3 ⟨rfl,rfl⟩)
    go_ret
    exact ⟨b_ HF.out.symm,b1⟩
   ·rw [h2, Bool.true_and] at HF
    cases Q0
    ·rw [Bool.false_and] at HF
     go_enter Tryz.func135,Tryz.ntmps135
     go_wp2_with (first
       | (go_at_call 162;refine (f_ _ _ _ _).mono ?_;rintro en w3 ⟨rfl,rfl⟩)
       | (go_at_call 163;refine HQ1.out.mono ?_;rintro en w4 ⟨rfl,b4⟩;have B4:=b1.trans (b4.mono b1.size);have k4:=k1.below b4 k1.lt;have y4:=k4.cell 4;have y6:=k4.cell 6;have y7:=k4.cell 7;have y8:=k4.cell 8;have y9:=k4.cell 9;have y10:=k4.cell 10;have y11:=k4.cell 11;have y12:=k4.cell 12;have y13:=k4.cell 13;have y14:=k4.cell 14;simp only [gz_,gs_] at y4 y6 y7 y8 y9 y10 y11 y12 y13 y14))
     go_ret
     exact ⟨b_ HF.out.symm,B4⟩
    ·rw [Bool.true_and] at HF
     by_cases h4:hr < rd
     ·rw [decide_eq_true h4,Bool.true_and] at HF
      cases T0
      ·rw [Bool.false_and] at HF
       go_enter Tryz.func135,Tryz.ntmps135
       go_wp2_with (first
         | (go_at_call 162;refine (f_ _ _ _ _).mono ?_;rintro en w3 ⟨rfl,rfl⟩)
         | (go_at_call 163;refine HQ1.out.mono ?_;rintro en w4 ⟨rfl,b4⟩;have B4:=b1.trans (b4.mono b1.size);have k4:=k1.below b4 k1.lt;have y4:=k4.cell 4;have y6:=k4.cell 6;have y7:=k4.cell 7;have y8:=k4.cell 8;have y9:=k4.cell 9;have y10:=k4.cell 10;have y11:=k4.cell 11;have y12:=k4.cell 12;have y13:=k4.cell 13;have y14:=k4.cell 14;simp only [gz_,gs_] at y4 y6 y7 y8 y9 y10 y11 y12 y13 y14)
         | (go_at_call 164;refine (HT.out _ B4).mono ?_;rintro en w5 ⟨rfl,b5⟩;have B5:=B4.trans (b5.mono B4.size);have k5:=k4.below b5 k4.lt;have t6:=k5.cell 6;have t11:=k5.cell 11;simp only [gz_,gs_] at t6 t11))
       go_ret
       exact ⟨b_ HF.out.symm,B5⟩
      ·rw [Bool.true_and] at HF
       go_enter Tryz.func135,Tryz.ntmps135
       go_wp2_with (first
         | (go_at_call 162;refine (f_ _ _ _ _).mono ?_;rintro en w3 ⟨rfl,rfl⟩)
         | (go_at_call 163;refine HQ1.out.mono ?_;rintro en w4 ⟨rfl,b4⟩;have B4:=b1.trans (b4.mono b1.size);have k4:=k1.below b4 k1.lt;have y4:=k4.cell 4;have y6:=k4.cell 6;have y7:=k4.cell 7;have y8:=k4.cell 8;have y9:=k4.cell 9;have y10:=k4.cell 10;have y11:=k4.cell 11;have y12:=k4.cell 12;have y13:=k4.cell 13;have y14:=k4.cell 14;simp only [gz_,gs_] at y4 y6 y7 y8 y9 y10 y11 y12 y13 y14)
         | (go_at_call 164;refine (HT.out _ B4).mono ?_;rintro en w5 ⟨rfl,b5⟩;have B5:=B4.trans (b5.mono B4.size);have k5:=k4.below b5 k4.lt;have t6:=k5.cell 6;have t11:=k5.cell 11;simp only [gz_,gs_] at t6 t11))
       go_ret
       exact ⟨b_ HF.out.symm,B5⟩
     ·rw [decide_eq_false h4,Bool.false_and] at HF
      go_enter Tryz.func135,Tryz.ntmps135
      go_wp2_with (first
        | (go_at_call 162;refine (f_ _ _ _ _).mono ?_;rintro en w3 ⟨rfl,rfl⟩)
        | (go_at_call 163;refine HQ1.out.mono ?_;rintro en w4 ⟨rfl,b4⟩;have B4:=b1.trans (b4.mono b1.size);have k4:=k1.below b4 k1.lt;have y4:=k4.cell 4;have y6:=k4.cell 6;have y7:=k4.cell 7;have y8:=k4.cell 8;have y9:=k4.cell 9;have y10:=k4.cell 10;have y11:=k4.cell 11;have y12:=k4.cell 12;have y13:=k4.cell 13;have y14:=k4.cell 14;simp only [gz_,gs_] at y4 y6 y7 y8 y9 y10 y11 y12 y13 y14))
      go_ret
      exact ⟨b_ HF.out.symm,B4⟩
end Go.Proofs.YtamljhcmiphdgaaGreatDoor
