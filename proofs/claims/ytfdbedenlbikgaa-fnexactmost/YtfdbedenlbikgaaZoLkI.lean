/- Least and Most of the landed code. -/
import Derived.Test.YtfdbedenlbikgaaZoLkPure
import Derived.Test.YtfdbedenlbikgaaZoIntApp
import Derived.Test.YtfdbedenlbikgaaZoLdMid
import Derived.Test.YtfdbedenlbikgaaZoVtOpen
import Derived.Deep.Cut
set_option maxRecDepth 20000
set_option maxHeartbeats 8000000
namespace Go.Proofs.Ytfdbedenlbikgaa
open Go.RowKit Go.Sort
set_option linter.unusedVariables false
theorem slMaxZ_any (v:Value) (l:List Int) (w:World) (hr:RdI w v l) (h0:0 < l.length) (hl:l.length<=4000000) :
    Calls Try.prog 32 #[v] w fun e w'=>e=.returned (.int .i64 (mxZ l (l.length - 1)))/\w'=w:=by
  have Hr:=hide hr
  obtain ⟨a,cap,rfl⟩:=hr.shape
  obtain ⟨b,off,rfl,-,-,-,q0⟩:=hr.at h0
  rw [Nat.add_zero] at q0
  have hli:¬ (l.length:Int) < 1:=by omega
  have hl0:(0:Int) < (l.length:Int):=by omega
  have e0:l.getD 0 0=l[0]:=by simp [List.getD,h0]
  have H0:Hid (mxZ l 0=l[0]):=hide e0
  clear hr e0
  go_enter Try.func32,Try.ntmps32
  go_wp2
  go_loopw [4,3] (fun iv mv wr=>∃ k:Nat,1<=k/\k<=l.length/\iv=.int .i64 (k:Int)/\mv=.int .i64 (mxZ l (k - 1))/\wr=w) (fun iv _ _=>l.length - (intOf iv).toNat)
  case atStart=>exact ⟨1,by omega,by omega,rfl,by rw [H0.out],rfl⟩
  case round =>
    obtain ⟨k,hk1,hk,rfl,rfl,rfl⟩:=hrel
    by_cases hlt:k < l.length
    · obtain ⟨b',off',hb',-,-,-,qk⟩:=Hr.out.at hlt
      simp only [Option.some.injEq,Addr.mk.injEq,and_true] at hb'
      obtain ⟨rfl,rfl⟩:=hb'
      have hki:(k:Int) < (l.length:Int):=by omega
      have hst:Hid (mxZ l k=if mxZ l (k - 1) < l[k] then l[k] else mxZ l (k - 1)):=hide (by
        obtain ⟨j,rfl⟩:∃ j,k=j+1:=⟨k - 1,by omega⟩
        rw [mxZ]
        simp [List.getD,hlt])
      generalize mxZ l (k - 1)=m at hst ⊢
      generalize l[k]=x at hst qk
      by_cases hx:m < x
      · rw [if_pos hx] at hst
        go_wp2
        go_roundw
        case rel=>exact ⟨k+1,by omega,by omega,by go_num,(by rw [Nat.add_sub_cancel,hst.out];exact congrArg _ (by omega)),trivial⟩
        case measure=>simp [intOf];omega
      · rw [if_neg hx] at hst
        go_wp2
        go_roundw
        case rel=>exact ⟨k+1,by omega,by omega,by go_num,(by rw [Nat.add_sub_cancel,hst.out];exact congrArg _ (by omega)),trivial⟩
        case measure=>simp [intOf];omega
    · have hkl:k=l.length:=by omega
      have HK:Hid (mxZ l (k - 1)=mxZ l (l.length - 1)):=hide (by rw [hkl])
      clear hkl
      go_wp2
      go_ret
      exact ⟨ret_int HK.out,rfl⟩
theorem doneMost_any (ep:Int) (va vf vb vs vm:Value) (adn:Option Addr) (cpn:Nat) (ns:List Nd) (w:World) (hN:RdNs w (.slice adn ns.length cpn) ns) (hl:ns.length<=4000000) :
    Calls Try.prog 24 #[.agg #[.int .i64 ep,va,vf,.slice adn ns.length cpn,vb,vs,vm],.func (.func 32) #[] #[]] w fun e w'=>e=.returned (.int .i64 (moB (doneA ns)))/\Below w.heap.size w w':=by
  obtain ⟨w1,hw1⟩:∃ x,w.alloc (.cells #[.int .i64 ep,va,vf,.slice adn ns.length cpn,vb,vs,vm] 42)=x:=⟨_,rfl⟩
  have b1:Below w.heap.size w w1:=by rw [<- hw1];exact (Below.refl _ w).alloc (Nat.le_refl _) _
  have K1:=hide (show Blk w1 w.heap.size 42 [.int .i64 ep,va,vf,.slice adn ns.length cpn,vb,vs,vm] from by rw [<- hw1];exact Blk.new w _ _)
  have HN:=hide hN
  have B1:=hide b1
  have x3:=K1.out.cell 3
  simp only [List.getElem?_cons_zero,List.getElem?_cons_succ] at x3
  clear hN b1
  go_enter Try.func24,Try.ntmps24
  go_upto_region 1 with fail
  (try rw [hw1])
  clear hw1
  obtain ⟨M,hM⟩:∃ x,(.agg #[.int .i64 ep,va,vf,.slice adn ns.length cpn,vb,vs,vm]:Value)=x:=⟨_,rfl⟩
  rw [hM]
  clear hM
  go_wp2
  clear x3
  go_loopw [11,5] (fun iv mv wr=>∃ i:Nat,i<=ns.length/\iv=.int .i64 (i:Int)/\OwnI w1.heap.size wr mv ((doneA ns).take i)/\Below w1.heap.size w1 wr) (fun iv _ _=>ns.length - (intOf iv).toNat)
  case atStart=>exact ⟨0,Nat.zero_le _,rfl,World.ownsRow_nil w1 _ _ _,Below.refl _ _⟩
  case round =>
    obtain ⟨i,hi,rfl,ho,hb⟩:=hrel
    obtain ⟨wo,rfl⟩:∃ x,x=wr:=⟨_,rfl⟩
    have Ho:=hide ho
    obtain ⟨oa,oc,hmv⟩:=ho.rd.shape
    clear ho
    subst hmv
    have hlen:((doneA ns).take i).length=i:=by rw [List.length_take,doneA_len];omega
    rw [hlen] at Ho ⊢
    by_cases hlt:i < ns.length
    · obtain ⟨b0,off,rfl,hc1,hc2,h3,hcell⟩:=HN.out.sf20 (by omega)
      obtain ⟨u,hat,hru⟩:=hcell i hlt
      have hBr:=B1.out.trans (hb.mono B1.out.size)
      have Hrg:=hide (range_below hat hBr h3)
      have hrw:=hru.below hBr (Nat.le_refl _)
      have hii:(i:Int) < (ns.length:Int):=by omega
      have hi0:(0:Int)<=(i:Int):=by omega
      have zb1:Blk (wo.alloc (.cells #[.string { data:=#[] },.int .i64 0,.int .i64 0,.slice none 0 0,.slice none 0 0,.slice none 0 0,.int .i64 0,.int .i64 0,.int .i64 0,.int .i64 0,.slice none 0 0,.int .i64 0,.slice none 0 0,.slice none 0 0,.int .i64 0,.slice none 0 0,.slice none 0 0,.slice none 0 0,.slice none 0 0,.slice none 0 0] 63)) wo.heap.size 63 [.string { data:=#[] },.int .i64 0,.int .i64 0,.slice none 0 0,.slice none 0 0,.slice none 0 0,.int .i64 0,.int .i64 0,.int .i64 0,.int .i64 0,.slice none 0 0,.int .i64 0,.slice none 0 0,.slice none 0 0,.int .i64 0,.slice none 0 0,.slice none 0 0,.slice none 0 0,.slice none 0 0,.slice none 0 0]:=Blk.new wo _ _
      have H11:=hide (show (noC ns[i] u).toArray.all (·.oneCell')=true from by rw [List.all_toArray];exact noC_one hrw)
      have IE1:=hide (show (Try.prog.info? 63).map (·.size)=some (noC ns[i] u).length from sfNd20)
      have Hth1:=hide (show (wo.alloc (.cells #[.string { data:=#[] },.int .i64 0,.int .i64 0,.slice none 0 0,.slice none 0 0,.slice none 0 0,.int .i64 0,.int .i64 0,.int .i64 0,.int .i64 0,.slice none 0 0,.int .i64 0,.slice none 0 0,.slice none 0 0,.int .i64 0,.slice none 0 0,.slice none 0 0,.slice none 0 0,.slice none 0 0,.slice none 0 0] 63)).there wo.heap.size 0 (noC ns[i] u).toArray.size from zb1.there rfl)
      obtain ⟨w2,hw2⟩:∃ x,(wo.alloc (.cells #[.string { data:=#[] },.int .i64 0,.int .i64 0,.slice none 0 0,.slice none 0 0,.slice none 0 0,.int .i64 0,.int .i64 0,.int .i64 0,.int .i64 0,.slice none 0 0,.int .i64 0,.slice none 0 0,.slice none 0 0,.int .i64 0,.slice none 0 0,.slice none 0 0,.slice none 0 0,.slice none 0 0,.slice none 0 0] 63)).setCells wo.heap.size 0 (noC ns[i] u)=x:=⟨_,rfl⟩
      have J1:=hide (show Blk w2 wo.heap.size 63 (noC ns[i] u) from by rw [<- hw2];exact blk_all zb1 rfl)
      have bw2:Below wo.heap.size wo w2:=by rw [<- hw2];exact ((Below.refl _ wo).alloc (Nat.le_refl _) _).trans (putC_below (Nat.le_refl _) _ _ _)
      have Hw2:=hide hw2
      obtain ⟨ad,cd,hd⟩:=hrw.kd.shape
      have HC1:=hide (show (noC ns[i] u)[17]?=some (.slice ad ns[i].dn.length cd) from by rw [<- hd];rfl)
      have HB2:=hide (hb.trans (bw2.mono hb.size))
      have HO2:=hide (Ho.out.below bw2 (Nat.le_refl _))
      have HT:=hide (doneA_take hlt)
      have y1:=(J1.out.cell 17).trans HC1.out
      clear hat hru hcell hb hBr hrw zb1 bw2 hw2 hd HC1 Ho
      generalize noC ns[i] u=cs at Hrg H11 IE1 Hth1 Hw2 J1
      generalize ns[i].dn.length=d at y1 HT
      obtain ⟨w4,hw4⟩:∃ x,w2.alloc (.cells #[.int .i64 (d:Int)] 3)=x:=⟨_,rfl⟩
      have b4:Below w2.heap.size w2 w4:=by rw [<- hw4];exact (Below.refl _ w2).alloc (Nat.le_refl _) _
      have k4:Blk w4 w2.heap.size 3 [.int .i64 (d:Int)]:=by rw [<- hw4];exact Blk.new w2 _ _
      have HB4:=hide (HB2.out.trans (b4.mono HB2.out.size))
      have HO4:=hide (HO2.out.below b4 (Nat.le_refl _))
      have HR4:=hide (rd_oneI k4)
      clear b4 k4 HO2
      go_wp2_with (first
        | (refine wpList_load_mid rfl 63 _ rfl b0 (off+i * 20) rfl cs _ Hrg.out Try.underlying63 rfl IE1.out ?_)
        | (refine wpList_store_mid rfl 63 _ _ rfl wo.heap.size 0 cs.toArray rfl rfl Hth1.out (by simpa using IE1.out) H11.out ?_;rw [Hw2.out])
        | (at_builtin;(try rw [hw4]);refine app_ownIs w4 rfl _ _ rfl w1.heap.size (.slice oa i oc) _ ((doneA ns).take i) [(d:Int)] rfl rfl HO4.out HR4.out (by simp;omega) HB4.out.size ?_;intro v5 w5 ho5 hg5 hb5 hl5)
        | fail)
      have HO5:Hid (OwnI w1.heap.size w5 v5 ((doneA ns).take (i+1))):=hide (by rw [<- HT.out];exact ho5)
      clear ho5
      go_roundw
      case rel=>exact ⟨i+1,by omega,by go_num,HO5.out,HB4.out.trans hb5⟩
      case measure=>simp [intOf];omega
    · have hii:¬ (i:Int) < (ns.length:Int):=by omega
      have hin:i=(doneA ns).length:=by rw [doneA_len];omega
      have hB:=hide (B1.out.trans (hb.mono B1.out.size))
      rw [hin,List.take_length] at Ho
      by_cases hz:(doneA ns).length=0
      · have hzb:((i:Int) == 0)=true:=by rw [hin,hz];rfl
        have HX:Hid (moB (doneA ns)=0):=hide (by unfold moB;rw [if_pos hz])
        clear hb hin
        go_wp2
        go_ret
        exact ⟨ret_int HX.out.symm,hB.out⟩
      · have hzb:((i:Int) == 0)=false:=by rw [beq_eq_false_iff_ne];omega
        have HX:Hid (moB (doneA ns)=mxZ (doneA ns) ((doneA ns).length - 1)):=hide (by unfold moB;rw [if_neg hz])
        have HM:=hide (slMaxZ_any (.slice oa i oc) (doneA ns) wo (by rw [hin];exact Ho.out.rd) (by omega) (by rw [doneA_len];exact hl))
        clear hb hin Ho
        go_wp2_with fail
        refine HM.out.mono ?_
        rintro e w6 ⟨rfl,rfl⟩
        go_wp2
        go_ret
        exact ⟨ret_int HX.out.symm,hB.out⟩
theorem implMost_any (p:Wd) (u:Wv) (w:World) (hr:RdWd w p u) (hf:FewWd p) (hft:FitWd p) :
    Calls Try.prog 11 #[wdV p u] w fun e w'=>e=.returned (.int .i64 (moB (doneA p.ns)))/\Below w.heap.size w w':=by
  obtain ⟨ad,cp,e⟩:=hr.kn.shape
  obtain ⟨w1,hw1⟩:∃ x,w.alloc (.cells (wdC p u).toArray 42)=x:=⟨_,rfl⟩
  have b1:Below w.heap.size w w1:=by rw [<- hw1];exact (Below.refl _ w).alloc (Nat.le_refl _) _
  have K1:=hide (show Blk w1 w.heap.size 42 (wdC p u) from by rw [<- hw1];exact Blk.new w _ _)
  have HC:=hide (show Calls Try.prog 24 #[wdV p u,.func (.func 32) #[] #[]] w1 fun e w'=>e=.returned (.int .i64 (moB (doneA p.ns)))/\Below w1.heap.size w1 w' from by
    have h:=hr.kn.below b1 (Nat.le_refl _)
    unfold wdV
    rw [e] at h ⊢
    exact doneMost_any p.ep u.a u.f u.b u.s u.m ad cp p.ns w1 h hf.nn)
  have IW:=hide (show (Try.prog.info? 42).map (·.size)=some (wdC p u).length from sfWd7)
  have R1:=hide (blk_range K1.out)
  have B1:=hide b1
  rw [show wdV p u=.agg (wdC p u).toArray from rfl] at HC ⊢
  clear e hr hf hft b1 K1
  generalize moB (doneA p.ns)=X at HC ⊢
  generalize wdC p u=cs at HC IW R1 hw1 ⊢
  go_enter Try.func11,Try.ntmps11
  go_upto_region 1 with fail
  (try rw [hw1])
  clear hw1
  go_wp2_with (first
    | (refine wpList_load_mid rfl 42 _ rfl w.heap.size 0 rfl cs _ R1.out Try.underlying42 rfl IW.out ?_)
    | fail)
  refine HC.out.mono ?_
  rintro e w2 ⟨rfl,hb2⟩
  have hB:=B1.out.trans (hb2.mono B1.out.size)
  clear hb2 HC
  go_wp2
  go_ret
  exact ⟨rfl,hB⟩
end Go.Proofs.Ytfdbedenlbikgaa
