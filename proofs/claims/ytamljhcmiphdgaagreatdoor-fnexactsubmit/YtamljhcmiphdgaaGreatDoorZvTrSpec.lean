/- Whether blocks are a tree, by the model. -/
import Derived.Test.YtamljhcmiphdgaaGreatDoorZvBkSpec
import Derived.Test.YtamljhcmiphdgaaGreatDoorZvTrAt
set_option maxRecDepth 20000
set_option maxHeartbeats 8000000
namespace Go.Proofs.YtamljhcmiphdgaaGreatDoor
open Go.RowKit Go.Sort
set_option linter.unusedVariables false
theorem RdT.at9 {w:World} {a:Option Addr} {cap k:Nat} {l:List Tx5} (h:RdT w (.slice a l.length cap) l) (hk:k < l.length) :
  ∃ b off,a=some ⟨b,off,none⟩/\l.length<=cap/\cap<=maxLen/\b < w.heap.size/\TxAt w b (off+k * 5) l[k]:=by
 rcases h with ⟨a',cap',e,rfl,-⟩ | ⟨b,off,cap',h0,e,h1,h2,h3,h4⟩
 ·simp at hk
 ·simp only [Value.slice.injEq,true_and] at e
  obtain ⟨rfl,rfl⟩:=e
  exact ⟨b,off,rfl,h1,h2,h3,h4 k hk⟩
theorem iW_ {s:ByteArray} (h:s ≠ ⟨#[]⟩):s.toList.isEmpty=false:=by
 have h1:=A_ h
 have h2:ByteArray.toList ⟨#[]⟩=[]:=by kernel_rfl
 rw [h2] at h1
 cases hz:s.toList with
 | nil=>rw [hz] at h1;simp at h1
 | cons a t=>rfl
theorem jr_ (ts:List Tx5) (k:Nat) (h:k < ts.length) (hk:txB ts[k]=false):ts.all txB=false:=by
 rw [List.all_eq_false]
 exact ⟨ts[k],List.getElem_mem _,by simp [hk]⟩
theorem hc_ (ts:List Tx5) (h:∀ j (hj:j < ts.length),txB ts[j]=true):ts.all txB=true:=by
 rw [List.all_eq_true]
 intro t ht
 obtain ⟨j,hj,rfl⟩:=List.mem_iff_getElem.1 ht
 exact h j hj
theorem cU_ (b:Bk) (v:Bv) (w:World) (hr:RdK w b v) (hf:FewK b) (hbd:-9223372036854775808<=b.tr/\b.tr<=9223372036854775807) :
  Calls Tryz.prog 126 #[bkV b v] w fun e w'=>e=.returned (.bool (blB b))/\Below w.heap.size w w':=by
 have HQ0:=a_ (fun V (hV:Below w.heap.size w V)=>fZ_ b v V (hr.below hV (nr_ _)) hf)
 have HT0:=a_ (fun V (hV:Below w.heap.size w V)=>fN_ b v V (hr.below hV (nr_ _)) hf hbd)
 have HM:=a_ (fun V=>k_ b.md V hf.ms)
 have Hf:=a_ hf
 have HX:Hid (blB b=(inB b.id 0 100000 && (inB b.ep 0 900 && (inB b.rd 1 10000 && (nmB b.md && (q9B b && (t9B b && (decide (b.ts.length<=4) && (b.ts.all txB && e9B b))))))))):=a_ rfl
 have HE:Hid (e9B b=if b.en=true then setB b.nx && decide (b.rt.size=32) else decide (b.nx.length=0) && decide (b.rt=⟨#[]⟩)):=a_ rfl
 generalize blB b=X at HX ⊢
 generalize q9B b=Q0 at HX HQ0
 generalize t9B b=T0 at HX HT0
 generalize e9B b=E0 at HX HE
 have hft:=hf.t
 have hfn:=hf.n
 clear hf hbd
 obtain ⟨id,ep,rd,mk,qr,qb,qw,tr,tw,th,ts,en,nx,rt⟩:=b
 obtain ⟨vq,vw,vh,vt,vn⟩:=v
 obtain ⟨hq,hw,hh,ht,hn⟩:=hr
 simp only [bkV] at *
 obtain ⟨aq,cq,rfl⟩:=hq.shape
 obtain ⟨aw,cw,rfl⟩:=hw.shape
 obtain ⟨ah,ch,rfl⟩:=hh.shape
 obtain ⟨at_,ct,rfl⟩:=ht.shape
 obtain ⟨an,cn,rfl⟩:=hn.shape
 clear hq hw hh
 obtain ⟨w1,hw1⟩:∃ x,w.alloc (.cells #[.int .i64 id,.int .i64 ep,.int .i64 rd,.string mk,.int .i64 qr,.int .i64 qb,.slice aq qw.length cq,.int .i64 tr,.slice aw tw.length cw,.slice ah th.length ch,.slice at_ ts.length ct,.bool en,.slice an nx.length cn,.string rt] 146)=x:=⟨_,rfl⟩
 have b1:Below w.heap.size w w1:=by rw [<- hw1];exact (br_ _ w).alloc (nr_ _) _
 have k1:Blk w1 w.heap.size 146 [.int .i64 id,.int .i64 ep,.int .i64 rd,.string mk,.int .i64 qr,.int .i64 qb,.slice aq qw.length cq,.int .i64 tr,.slice aw tw.length cw,.slice ah th.length ch,.slice at_ ts.length ct,.bool en,.slice an nx.length cn,.string rt]:=by rw [<- hw1];exact Blk.new w _ _
 have HQ:=a_ (HQ0.out w1 b1)
 have HT:=HT0
 have x0:=k1.cell 0
 have x1:=k1.cell 1
 have x2:=k1.cell 2
 have x3:=k1.cell 3
 have x4:=k1.cell 4
 have x5:=k1.cell 5
 have x6:=k1.cell 6
 have x7:=k1.cell 7
 have x8:=k1.cell 8
 have x9:=k1.cell 9
 have x10:=k1.cell 10
 have x11:=k1.cell 11
 have x12:=k1.cell 12
 have x13:=k1.cell 13
 simp only [gz_,gs_] at x0 x1 x2 x3 x4 x5 x6 x7 x8 x9 x10 x11 x12 x13
 have K1:=a_ k1
 have HB1:=a_ b1
 have Ht:=a_ ht
 have Hn:=a_ hn
 clear HQ0 HT0 k1 b1 ht hn
 generalize nmB mk=M0 at HX HM
 go_enter Tryz.func126,Tryz.ntmps126
 cases h1:inB id 0 100000
 ·rw [h1,Bool.false_and] at HX
  go_wp2_with (go_at_call 87;refine (d_ _ _ _ _).mono ?_;rintro e w4 ⟨rfl,rfl⟩)
  go_ret
  exact ⟨b_ HX.out.symm,HB1.out⟩
 ·rw [h1, Bool.true_and] at HX
  cases h2:inB ep 0 900
  ·rw [h2,Bool.false_and] at HX
   go_wp2_with (go_at_call 87;refine (d_ _ _ _ _).mono ?_;rintro e w4 ⟨rfl,rfl⟩)
   go_ret
   exact ⟨b_ HX.out.symm,HB1.out⟩
  ·rw [h2, Bool.true_and] at HX
   cases h3:inB rd 1 10000
   ·rw [h3,Bool.false_and] at HX
    go_wp2_with (go_at_call 87;refine (d_ _ _ _ _).mono ?_;rintro e w4 ⟨rfl,rfl⟩)
    go_ret
    exact ⟨b_ HX.out.symm,HB1.out⟩
   ·rw [h3, Bool.true_and] at HX
    cases M0
    ·rw [Bool.false_and] at HX
     go_wp2_with (first
       | (go_at_call 87;refine (d_ _ _ _ _).mono ?_;rintro e w4 ⟨rfl,rfl⟩)
       | (go_at_call 82;refine (HM.out _).mono ?_;rintro e w5 ⟨rfl,rfl⟩))
     go_ret
     exact ⟨b_ HX.out.symm,HB1.out⟩
    ·rw [Bool.true_and] at HX
     cases Q0
     ·rw [Bool.false_and] at HX
      go_wp2_with (first
        | (go_at_call 87;refine (d_ _ _ _ _).mono ?_;rintro e w4 ⟨rfl,rfl⟩)
        | (go_at_call 82;refine (HM.out _).mono ?_;rintro e w5 ⟨rfl,rfl⟩)
        | (go_at_call 149;refine HQ.out.mono ?_;rintro e w2 ⟨rfl,hb2⟩;have hB2:=HB1.out.trans (hb2.mono HB1.out.size);have k2:=K1.out.below hb2 K1.out.lt;have y0:=k2.cell 0;have y1:=k2.cell 1;have y2:=k2.cell 2;have y3:=k2.cell 3;have y4:=k2.cell 4;have y5:=k2.cell 5;have y6:=k2.cell 6;have y7:=k2.cell 7;have y8:=k2.cell 8;have y9:=k2.cell 9;have y10:=k2.cell 10;have y11:=k2.cell 11;have y12:=k2.cell 12;have y13:=k2.cell 13;simp only [gz_,gs_] at y0 y1 y2 y3 y4 y5 y6 y7 y8 y9 y10 y11 y12 y13))
      go_ret
      exact ⟨b_ HX.out.symm,hB2⟩
     ·rw [Bool.true_and] at HX
      cases T0
      ·rw [Bool.false_and] at HX
       go_wp2_with (first
         | (go_at_call 87;refine (d_ _ _ _ _).mono ?_;rintro e w4 ⟨rfl,rfl⟩)
         | (go_at_call 82;refine (HM.out _).mono ?_;rintro e w5 ⟨rfl,rfl⟩)
         | (go_at_call 149;refine HQ.out.mono ?_;rintro e w2 ⟨rfl,hb2⟩;have hB2:=HB1.out.trans (hb2.mono HB1.out.size);have k2:=K1.out.below hb2 K1.out.lt;have y0:=k2.cell 0;have y1:=k2.cell 1;have y2:=k2.cell 2;have y3:=k2.cell 3;have y4:=k2.cell 4;have y5:=k2.cell 5;have y6:=k2.cell 6;have y7:=k2.cell 7;have y8:=k2.cell 8;have y9:=k2.cell 9;have y10:=k2.cell 10;have y11:=k2.cell 11;have y12:=k2.cell 12;have y13:=k2.cell 13;simp only [gz_,gs_] at y0 y1 y2 y3 y4 y5 y6 y7 y8 y9 y10 y11 y12 y13)
         | (go_at_call 150;refine (HT.out w2 hB2).mono ?_;rintro e w3 ⟨rfl,hb3⟩;have hB3:=hB2.trans (hb3.mono hB2.size);have k3:=k2.below hb3 k2.lt;have z0:=k3.cell 0;have z1:=k3.cell 1;have z2:=k3.cell 2;have z3:=k3.cell 3;have z4:=k3.cell 4;have z5:=k3.cell 5;have z6:=k3.cell 6;have z7:=k3.cell 7;have z8:=k3.cell 8;have z9:=k3.cell 9;have z10:=k3.cell 10;have z11:=k3.cell 11;have z12:=k3.cell 12;have z13:=k3.cell 13;simp only [gz_,gs_] at z0 z1 z2 z3 z4 z5 z6 z7 z8 z9 z10 z11 z12 z13))
       go_ret
       exact ⟨b_ HX.out.symm,hB3⟩
      ·rw [Bool.true_and] at HX
       by_cases h4:ts.length<=4
       ·rw [decide_eq_true h4,Bool.true_and] at HX
        have h4i:¬ (4:Int) < (ts.length:Int):=by omega
        go_wp2_with (first
          | (go_at_call 87;refine (d_ _ _ _ _).mono ?_;rintro e w4 ⟨rfl,rfl⟩)
          | (go_at_call 82;refine (HM.out _).mono ?_;rintro e w5 ⟨rfl,rfl⟩)
          | (go_at_call 149;refine HQ.out.mono ?_;rintro e w2 ⟨rfl,hb2⟩;have hB2:=HB1.out.trans (hb2.mono HB1.out.size);have k2:=K1.out.below hb2 K1.out.lt;have y0:=k2.cell 0;have y1:=k2.cell 1;have y2:=k2.cell 2;have y3:=k2.cell 3;have y4:=k2.cell 4;have y5:=k2.cell 5;have y6:=k2.cell 6;have y7:=k2.cell 7;have y8:=k2.cell 8;have y9:=k2.cell 9;have y10:=k2.cell 10;have y11:=k2.cell 11;have y12:=k2.cell 12;have y13:=k2.cell 13;simp only [gz_,gs_] at y0 y1 y2 y3 y4 y5 y6 y7 y8 y9 y10 y11 y12 y13)
          | (go_at_call 150;refine (HT.out w2 hB2).mono ?_;rintro e w3 ⟨rfl,hb3⟩;have hB3:=hB2.trans (hb3.mono hB2.size);have k3:=k2.below hb3 k2.lt;have z0:=k3.cell 0;have z1:=k3.cell 1;have z2:=k3.cell 2;have z3:=k3.cell 3;have z4:=k3.cell 4;have z5:=k3.cell 5;have z6:=k3.cell 6;have z7:=k3.cell 7;have z8:=k3.cell 8;have z9:=k3.cell 9;have z10:=k3.cell 10;have z11:=k3.cell 11;have z12:=k3.cell 12;have z13:=k3.cell 13;simp only [gz_,gs_] at z0 z1 z2 z3 z4 z5 z6 z7 z8 z9 z10 z11 z12 z13))
        have K3:=a_ k3
        have HB3:=a_ hB3
        clear k2 k3 hB2 hB3 hb2 hb3 h4i hw1
        clear x0 x1 x2 x3 x4 x5 x6 x7 x8 x9 x10 x11 x12 x13
        clear y0 y1 y2 y3 y4 y5 y6 y7 y8 y9 y10 y11 y12 y13
        clear z0 z1 z2 z3 z4 z5 z6 z7 z8 z9 z10 z11 z12 z13
        go_loopw [3] (fun iv wr=>∃ i:Nat,i<=ts.length/\iv=.int .i64 (i:Int)/\(∀ j (hj:j < ts.length),j < i->txB ts[j]=true)/\Below w3.heap.size w3 wr) (fun iv _=>ts.length - (intOf iv).toNat)
        case atStart=>exact ⟨0,Nat.zero_le _,rfl,fun j _ hj=>by omega,br_ _ _⟩
        case round =>
         obtain ⟨i,hi,rfl,hok,hb⟩:=hrel
         have kr:=K3.out.below hb K3.out.lt
         have t10:=kr.cell 10
         simp only [gz_,gs_] at t10
         have Hok:=a_ hok
         have HBr:=a_ (HB3.out.trans (hb.mono HB3.out.size))
         clear hok
         by_cases hlt:i < ts.length
         ·obtain ⟨bt,ot,rfl,hc1,hc2,hbt,hat⟩:=Ht.out.at9 hlt
          have hli:(i:Int) < (ts.length:Int):=by omega
          have hat':=hat.below HBr.out hbt
          have hsz:=Hf.out.ts ts[i] (List.getElem_mem _)
          have HO:=a_ (fun V=>bP_ ts[i] V hsz.1 hsz.2)
          have Hno:=a_ (jr_ ts i hlt)
          have Hnx:Hid (txB ts[i]=true->∀ j (hj:j < ts.length),j < i+1->txB ts[j]=true):=a_ (fun h j hj hji=>by
           by_cases e:j=i
           ·subst e;exact h
           ·exact Hok.out j hj (by omega))
          generalize ts[i]=tx at hat hat' HO Hno Hnx hsz
          obtain ⟨c0,c1,c2,c3,c4⟩:=hat'
          simp only [txV] at HO
          have Hb:=a_ hb
          clear hat hb hsz kr
          cases hx:txB tx
          ·have Hfl:=a_ (HX.out.trans (by rw [Hno.out hx,Bool.false_and]))
           rw [hx] at HO
           clear hx Hnx
           go_wp2_with fail
           refine (HO.out _).mono ?_
           rintro e w6 ⟨rfl,hb6⟩
           have HB6:=a_ (HBr.out.trans (hb6.mono HBr.out.size))
           clear hb6 c0 c1 c2 c3 c4 t10
           go_wp2
           go_ret
           exact ⟨b_ Hfl.out.symm,HB6.out⟩
          ·have Hnx:=a_ (Hnx.out hx)
           rw [hx] at HO
           clear hx Hno
           go_wp2_with fail
           refine (HO.out _).mono ?_
           rintro e w6 ⟨rfl,hb6⟩
           have HB6:=a_ (Hb.out.trans (hb6.mono Hb.out.size))
           clear hb6 c0 c1 c2 c3 c4 t10
           go_wp2
           go_roundw
           case rel=>exact ⟨i+1,by omega,by go_num,Hnx.out,HB6.out⟩
           case measure=>simp [intOf];omega
         ·have HX2:=a_ (HX.out.trans (by rw [hc_ ts (fun j hj=>Hok.out j hj (by omega)),Bool.true_and]))
          have t11:=kr.cell 11
          have t12:=kr.cell 12
          have t13:=kr.cell 13
          simp only [gz_,gs_] at t11 t12 t13
          cases en
          ·rw [if_neg (by simp)] at HE
           by_cases h5:nx.length=0
           ·have h5i:((nx.length:Int) == 0)=true:=by rw [beq_iff_eq];omega
            by_cases h6:rt=⟨#[]⟩
            ·have Hfl:=a_ (HX2.out.trans (HE.out.trans (by rw [decide_eq_true h5,decide_eq_true h6,Bool.true_and])))
             subst h6
             clear h5 kr hb
             go_wp2
             go_ret
             exact ⟨b_ Hfl.out.symm,HBr.out⟩
            ·have Hfl:=a_ (HX2.out.trans (HE.out.trans (by rw [decide_eq_false h6,Bool.and_false])))
             have h6b:=iW_ h6
             clear h5 h6 kr hb
             go_wp2
             go_ret
             exact ⟨b_ Hfl.out.symm,HBr.out⟩
           ·have Hfl:=a_ (HX2.out.trans (HE.out.trans (by rw [decide_eq_false h5,Bool.false_and])))
            have h5i:((nx.length:Int) == 0)=false:=by rw [beq_eq_false_iff_ne];omega
            clear h5 kr hb
            go_wp2
            go_ret
            exact ⟨b_ Hfl.out.symm,HBr.out⟩
          ·rw [if_pos rfl] at HE
           have HS:=a_ (bC_ (.slice an nx.length cn) nx wr (Hn.out.below HBr.out (nr_ _)) hfn Hf.out.ns)
           cases h7:setB nx
           ·have Hfl:=a_ (HX2.out.trans (HE.out.trans (by rw [h7,Bool.false_and])))
            rw [h7] at HS
            clear h7 kr hb
            go_wp2_with (go_at_call 85;refine HS.out.mono ?_;rintro e w7 ⟨rfl,hb7⟩)
            go_ret
            exact ⟨b_ Hfl.out.symm,HBr.out.trans (hb7.mono HBr.out.size)⟩
           ·rw [h7] at HS
            by_cases h8:rt.size=32
            ·have Hfl:=a_ (HX2.out.trans (HE.out.trans (by rw [h7,decide_eq_true h8,Bool.true_and])))
             have h8i:((rt.size:Int) == 32)=true:=by rw [beq_iff_eq];omega
             clear h7 h8 hb
             go_wp2_with (go_at_call 85;refine HS.out.mono ?_;rintro e w7 ⟨rfl,hb7⟩;have k7:=kr.below hb7 kr.lt;have u13:=k7.cell 13;simp only [gz_,gs_] at u13)
             go_ret
             exact ⟨b_ Hfl.out.symm,HBr.out.trans (hb7.mono HBr.out.size)⟩
            ·have Hfl:=a_ (HX2.out.trans (HE.out.trans (by rw [h7,decide_eq_false h8,Bool.true_and])))
             have h8i:((rt.size:Int) == 32)=false:=by rw [beq_eq_false_iff_ne];omega
             clear h7 h8 hb
             go_wp2_with (go_at_call 85;refine HS.out.mono ?_;rintro e w7 ⟨rfl,hb7⟩;have k7:=kr.below hb7 kr.lt;have u13:=k7.cell 13;simp only [gz_,gs_] at u13)
             go_ret
             exact ⟨b_ Hfl.out.symm,HBr.out.trans (hb7.mono HBr.out.size)⟩
       ·rw [decide_eq_false h4,Bool.false_and] at HX
        have h4i:(4:Int) < (ts.length:Int):=by omega
        go_wp2_with (first
          | (go_at_call 87;refine (d_ _ _ _ _).mono ?_;rintro e w4 ⟨rfl,rfl⟩)
          | (go_at_call 82;refine (HM.out _).mono ?_;rintro e w5 ⟨rfl,rfl⟩)
          | (go_at_call 149;refine HQ.out.mono ?_;rintro e w2 ⟨rfl,hb2⟩;have hB2:=HB1.out.trans (hb2.mono HB1.out.size);have k2:=K1.out.below hb2 K1.out.lt;have y0:=k2.cell 0;have y1:=k2.cell 1;have y2:=k2.cell 2;have y3:=k2.cell 3;have y4:=k2.cell 4;have y5:=k2.cell 5;have y6:=k2.cell 6;have y7:=k2.cell 7;have y8:=k2.cell 8;have y9:=k2.cell 9;have y10:=k2.cell 10;have y11:=k2.cell 11;have y12:=k2.cell 12;have y13:=k2.cell 13;simp only [gz_,gs_] at y0 y1 y2 y3 y4 y5 y6 y7 y8 y9 y10 y11 y12 y13)
          | (go_at_call 150;refine (HT.out w2 hB2).mono ?_;rintro e w3 ⟨rfl,hb3⟩;have hB3:=hB2.trans (hb3.mono hB2.size);have k3:=k2.below hb3 k2.lt;have z0:=k3.cell 0;have z1:=k3.cell 1;have z2:=k3.cell 2;have z3:=k3.cell 3;have z4:=k3.cell 4;have z5:=k3.cell 5;have z6:=k3.cell 6;have z7:=k3.cell 7;have z8:=k3.cell 8;have z9:=k3.cell 9;have z10:=k3.cell 10;have z11:=k3.cell 11;have z12:=k3.cell 12;have z13:=k3.cell 13;simp only [gz_,gs_] at z0 z1 z2 z3 z4 z5 z6 z7 z8 z9 z10 z11 z12 z13))
        go_ret
        exact ⟨b_ HX.out.symm,hB3⟩
open Go.RowKit Go.Sort
theorem eg_ (v:Value) (l:List Bk) (w:World) (hr:RdKs w v l) (hl:l.length<=4000000) (hf:∀ b ∈ l,FewK b) (hbd:∀ b ∈ l,-9223372036854775808<=b.tr/\b.tr<=9223372036854775807) :
  Calls Tryz.prog 86 #[v] w fun e w'=>e=.returned (.bool (treeB l))/\Below w.heap.size w w':=by
 have Hr:=a_ hr
 rcases hr with ⟨a,cap,rfl,rfl,-⟩ | ⟨b,off,cap,h0,rfl,h1,h2,h3,h4⟩
 ·have HX:=a_ (bL_ (l:=[]) ⟨by simp,fun i h=>by simp at h⟩)
  go_enter Tryz.func86,Tryz.ntmps86
  go_wp2
  refine wp_loop_rounds 1 ?_
  rw [rounds_succ]
  go_wp2
  go_ret
  exact ⟨b_ HX.out.symm,br_ _ _⟩
 ·have H4 := a_ h4
  have Hf:=a_ hf
  have Hd:=a_ hbd
  clear h4 hf hbd
  go_enter Tryz.func86,Tryz.ntmps86
  go_wp2
  go_loopw [3] (fun i wr=>∃ k:Nat,k<=l.length/\i=.int .i64 k/\(∀ j (hj:j < l.length),j < k->okP l j hj)/\Below w.heap.size w wr) (fun i _=>l.length - (intOf i).toNat)
  case atStart=>exact ⟨0,Nat.zero_le _,rfl,fun j _ hj=>by omega,br_ _ _⟩
  case round =>
   obtain ⟨k,hk,rfl,hok,hb⟩:=hrel
   have Hall:=a_ hok
   clear hok
   by_cases hlt:k < l.length
   ·obtain ⟨lv,hat,hrl⟩:=H4.out k hlt
    obtain ⟨c0,c1,c2,c3,c4,c5,c6,c7,c8,c9,c10,c11,c12,c13⟩:=(hat.below hb h3).cells
    have hli:(k:Int) < (l.length:Int):=by omega
    have hl0:(0:Int) < (l.length:Int):=by omega
    have Hasc:=a_ (ig_ (n:=k) Hall.out)
    have Hno:=a_ (gi_ (l:=l) hlt)
    have Hnx:Hid (okP l k hlt->∀ j (hj:j < l.length),j < k+1->okP l j hj):=a_ (fun h j hj hjk=>by
     by_cases e:j=k
     ·subst e;exact h
     ·exact Hall.out j hj (by omega))
    have Hby:=a_ (ok_by (l:=l) hlt Hasc.out)
    have Hdef:Hid (okP l k hlt ↔ blB l[k]=true/\l[k].ep=(l[0]'(by omega)).ep/\(0 < k->(l[k - 1]'(by omega)).id < l[k].id) /\
  (rootB l[k].qr l[k].qb l[k].qw=true\/∃ j,∃ hj:j < k,(l[j]'(by omega)).id=l[k].qb/\(l[j]'(by omega)).rd=l[k].qr)):=a_ Iff.rfl
    have Hprev:Hid (k ≥ 1->wr.cell? ⟨b,off+(k - 1) * 14,none⟩=some (.int .i64 (l[k - 1]'(by omega)).id)):=a_ (fun hk1=>by
     obtain ⟨lv2,hat2,_⟩:=H4.out (k - 1) (by omega)
     exact (hat2.below hb h3).cells.1)
    have hfst:wr.cell? ⟨b,off+1,none⟩=some (.int .i64 (l[0]'(by omega)).ep):=by
     obtain ⟨lv2,hat2,_⟩:=H4.out 0 (by omega)
     have h:=(hat2.below hb h3).cells.2.1
     rwa [Nat.zero_mul,Nat.add_zero] at h
    have HF:=Hf.out l[k] (List.getElem_mem hlt)
    have HD:=Hd.out l[k] (List.getElem_mem hlt)
    have HQ:=a_ (fun V (hV:Below wr.heap.size wr V)=>cU_ l[k] lv V ((hrl.below hb (nr_ _)).below hV (nr_ _)) HF HD)
    have HR:=a_ (fun V (hV:Below wr.heap.size wr V)=>ap_ l[k].qr l[k].qb lv.q l[k].qw V ((hrl.below hb (nr_ _)).below hV (nr_ _)).q HF.q)
    have HA:=a_ (fun V (hV:Below wr.heap.size wr V)=>hV_ (.slice (some ⟨b,off,none⟩) k cap) (l.take k) l[k].qb V (RdKs.take (cap:=cap) ((Hr.out.below hb (nr_ _)).below hV (nr_ _)) k hk) (by simp;omega))
    have HAt:=a_ (ii_ (l.take k) l[k].qb)
    have Hcell:Hid (∀ j (hj:j < l.length) V,Below wr.heap.size wr V->V.cell? ⟨b,off+j * 14+2,none⟩=some (.int .i64 l[j].rd)):=a_ (fun j hj V hV=>by
     obtain ⟨lv2,hat2,_⟩:=H4.out j hj
     exact ((hat2.below hb h3).below hV (by have:=hb.size;omega)).cells.2.2.1)
    have hbs:b < wr.heap.size:=by have:=hb.size;omega
    have Hsh:=a_ hrl.shapes9
    clear hat hrl HF HD
    generalize hEk:l[k]=ak at c0 c1 c2 c3 c4 c5 c6 c7 c8 c9 c10 c11 c12 c13 HQ HR HA HAt Hsh Hdef Hby
    generalize (l[0]'(by omega)).ep=e0 at hfst Hdef Hby
    obtain ⟨aq,cq,aw,cw,ah,ch,at_,ct,an,cn,rfl⟩:=Hsh.out
    clear Hsh
    obtain ⟨id,ep,rd,md,qr,qb,qw,tr,tw,th,ts,en,nx,rt⟩:=ak
    simp only [bkV,qcV] at c0 c1 c2 c3 c4 c5 c6 c7 c8 c9 c10 c11 c12 c13 HQ HR HA HAt Hdef Hby
    generalize atI (l.take k) qb=r at HA HAt
    generalize rootB qr qb qw=R at HR Hdef Hby
    generalize hBk:blB _=B at HQ Hdef Hby
    clear hBk
    go_wp2
    obtain ⟨w1,hw1⟩:∃ x,wr.alloc (.cells #[.int .i64 id,.int .i64 ep,.int .i64 rd,.string md,.int .i64 qr,.int .i64 qb,.slice aq qw.length cq,.int .i64 tr,.slice aw tw.length cw,.slice ah th.length ch,.slice at_ ts.length ct,.bool en,.slice an nx.length cn,.string rt] 146)=x:=⟨_,rfl⟩
    rw [hw1]
    have b1:Below wr.heap.size wr w1:=by rw [<- hw1];exact (br_ _ wr).alloc (nr_ _) _
    have k1:Blk w1 wr.heap.size 146 [.int .i64 id,.int .i64 ep,.int .i64 rd,.string md,.int .i64 qr,.int .i64 qb,.slice aq qw.length cq,.int .i64 tr,.slice aw tw.length cw,.slice ah th.length ch,.slice at_ ts.length ct,.bool en,.slice an nx.length cn,.string rt]:=by rw [<- hw1];exact Blk.new wr _ _
    have s1:wr.heap.size < w1.heap.size:=k1.lt
    clear c0 c1 c2 c3 c4 c5 c6 c7 c8 c9 c10 c11 c12 c13 hw1
    have x0:=k1.cell 0
    have x1:=k1.cell 1
    have x2:=k1.cell 2
    have x3:=k1.cell 3
    have x4:=k1.cell 4
    have x5:=k1.cell 5
    have x6:=k1.cell 6
    have x7:=k1.cell 7
    have x8:=k1.cell 8
    have x9:=k1.cell 9
    have x10:=k1.cell 10
    have x11:=k1.cell 11
    have x12:=k1.cell 12
    have x13:=k1.cell 13
    simp only [gz_,gs_] at x0 x1 x2 x3 x4 x5 x6 x7 x8 x9 x10 x11 x12 x13
    have g0:=cell_regrown x0
    have g1:=cell_regrown x1
    have g2:=cell_regrown x2
    have g3:=cell_regrown x3
    have g4:=cell_regrown x4
    have g5:=cell_regrown x5
    have g6:=cell_regrown x6
    have g7:=cell_regrown x7
    have g8:=cell_regrown x8
    have g9:=cell_regrown x9
    have g10:=cell_regrown x10
    have g11:=cell_regrown x11
    have g12:=cell_regrown x12
    have g13:=cell_regrown x13
    have gf:=cell_regrown ((b1.cell (p:=⟨b,off+1,none⟩) hbs).trans hfst)
    have HQ1:=a_ (fun (d:Nat) (os:Array Obj)=>Calls.regrown_of (HQ.out (grow (redrawn w1 d) os) (b1.trans ((below_regrown w1 d os).mono b1.size))))
    have HB1:=a_ (fun (d:Nat) (os:Array Obj)=>b1.trans ((below_regrown w1 d os).mono b1.size))
    have HK1:=a_ (fun (d:Nat) (os:Array Obj)=>k1.below (below_regrown w1 d os) k1.lt)
    have HL1:=a_ (fun (d:Nat) (os:Array Obj)=>hb.trans ((HB1.out d os).mono hb.size))
    have Hprev1:Hid (k ≥ 1->w1.cell? ⟨b,off+(k - 1) * 14,none⟩=some (.int .i64 (l[k - 1]'(by omega)).id)):=a_ (fun h=>(b1.cell (p:=⟨b,off+(k - 1) * 14,none⟩) hbs).trans (Hprev.out h))
    clear x0 x1 x2 x3 x4 x5 x6 x7 x8 x9 x10 x11 x12 x13 hfst Hprev HQ k1
    cases B
    ·clear HR HA HAt Hprev1 Hcell
     have hf:=a_ (Hno.out (by rw [Hdef.out];rintro ⟨h,_⟩;cases h))
     clear Hdef Hnx Hno Hby
     refine wp_region_quiet_below (by kernel_rfl) (by kernel_rfl) ?_
     repeat (go_big_quiet_step ((go_at_call 126;exact HQ1.out _ _)))
     refine wpQuiet_nil ?_
     intro _ hw'
     obtain ⟨⟨dq,osq⟩,hw''⟩:=hw'
     subst hw''
     go_wp2
     go_ret
     exact ⟨b_ hf.out.symm,HL1.out dq osq⟩
    ·by_cases he : ep=e0
     ·have HE := a_ he
      have heq:(ep != e0)=false:=by rw [he];simp
      clear he
      by_cases hk1:k < 1
      ·have hd:decide (0 < k)=false:=by simp;omega
       have hd2:decide ((0:Int) < (k:Int))=false:=by simp;omega
       have hd3:Hid (¬ 0 < k):=a_ (by omega)
       clear Hprev1
       refine wp_region_quiet_below (by kernel_rfl) (by kernel_rfl) ?_
       repeat (go_big_quiet_step ((go_at_call 126;exact HQ1.out _ _)))
       refine wpQuiet_nil ?_
       intro _ hw'
       obtain ⟨⟨dq,osq⟩,hw''⟩:=hw'
       subst hw''
       have hB2:=HB1.out dq osq
       have k2:=HK1.out dq osq
       have HL2:=a_ (HL1.out dq osq)
       generalize grow (redrawn w1 dq) osq=w2 at hB2 k2 HL2 ⊢
       clear HB1 HK1 HL1 HQ1 b1 gf g0 g1 g2 g3 g4 g5 g6 g7 g8 g9 g10 g11 g12 g13
       have y4:=k2.cell 4
       have y5:=k2.cell 5
       have y6:=k2.cell 6
       simp only [gz_,gs_] at y4 y5 y6
       have K2:=a_ k2
       have HB2:=a_ hB2
       clear k2 hB2
       go_wp2_with fail
       refine (HR.out w2 HB2.out).mono ?_
       rintro e w3 ⟨rfl,hb3⟩
       have hB3:=HB2.out.trans (hb3.mono HB2.out.size)
       have HL3:=a_ (HL2.out.trans (hb3.mono HL2.out.size))
       have k3:=K2.out.below hb3 K2.out.lt
       clear y4 y5 y6 hb3 HL2 K2 HB2 HR
       cases R
       ·have HA3:=a_ (fun (d:Nat) (os:Array Obj)=>N_ (HA.out (grow (redrawn w3 d) os) (hB3.trans ((below_regrown w3 d os).mono hB3.size))))
        have y5:=k3.cell 5
        simp only [gz_,gs_] at y5
        have q5:=cell_regrown y5
        have hkc:(k:Int)<=(cap:Int):=by omega
        have hk0:(0:Int)<=(k:Int):=by omega
        clear y5 HA
        have Hby2:=a_ (fun h1 h2 h3=>Hby.out (r:=r) h1 h2 h3 (by first | rfl | trivial) HAt.out)
        have HB3:=a_ hB3
        have K3:=a_ k3
        clear Hby hB3 k3
        go_wp2
        refine wp_region_quiet_below (by kernel_rfl) (by kernel_rfl) ?_
        repeat (go_big_quiet_step ((go_at_call 128;exact HA3.out _ _)))
        refine wpQuiet_nil ?_
        intro _ hw'
        obtain ⟨⟨dq2,osq2⟩,hw''⟩:=hw'
        subst hw''
        have hB4:=HB3.out.trans ((below_regrown w3 dq2 osq2).mono HB3.out.size)
        have HL4:=a_ (HL3.out.trans ((below_regrown w3 dq2 osq2).mono HL3.out.size))
        have k4:=K3.out.below (below_regrown w3 dq2 osq2) K3.out.lt
        generalize grow (redrawn w3 dq2) osq2=w4 at hB4 k4 HL4 ⊢
        clear HB3 HL3 K3 HA3 q5
        rcases HAt.out with ⟨rfl,hnone⟩ | ⟨j,hj,rfl,-,-⟩
        ·have hf:=a_ (Hno.out (by rw [Hby2.out (by first | rfl | trivial) (by exact HE.out) (by exact fun h=>absurd h hd3.out)];rintro ⟨j,hj,e,_⟩;omega))
         clear Hby2 Hno Hnx HAt hnone Hdef
         go_wp2
         go_quiet (fail)
         go_wp2
         go_ret
         exact ⟨b_ hf.out.symm,below_drewN HL4.out _⟩
        ·have hjk:j < k:=by simp at hj;omega
         exact absurd (Nat.lt_of_le_of_lt (Nat.zero_le _) hjk) hd3.out
       ·have hq:=a_ (Hnx.out (Hdef.out.2 ⟨by first | rfl | trivial,by exact HE.out,by exact fun h=>absurd h hd3.out,.inl (by first | rfl | trivial)⟩))
        clear Hdef Hby Hno Hnx HA HAt Hcell k3 hB3
        go_wp2
        go_roundw
        case rel=>exact ⟨k+1,by omega,by go_num,hq.out,HL3.out⟩
        case measure=>simp [intOf];omega
      ·have hcp:=cell_regrown (Hprev1.out (by omega))
       clear Hprev1
       have hpos:(0:Int) < (k:Int):=by omega
       have hposN:0 < k:=by omega
       have hd1:decide (0 < k)=true:=by simp;omega
       have hix:((k:Int) - 1).toNat=k - 1:=by omega
       have hix1:(0:Int)<=(k:Int) - 1:=by omega
       have hix2:(k:Int) - 1 < (l.length:Int):=by omega
       generalize (l[k - 1]'(by omega)).id=pid at hcp Hdef Hby
       by_cases hless:pid < id
       ·have HLs:=a_ hless
        have hge:decide (pid ≥ id)=false:=by simp;omega
        have hge2:¬ (id<=pid):=by omega
        clear hless
        refine wp_region_quiet_below (by kernel_rfl) (by kernel_rfl) ?_
        repeat (go_big_quiet_step ((go_at_call 126;exact HQ1.out _ _)))
        refine wpQuiet_nil ?_
        intro _ hw'
        obtain ⟨⟨dq,osq⟩,hw''⟩:=hw'
        subst hw''
        have hB2:=HB1.out dq osq
        have k2:=HK1.out dq osq
        have HL2:=a_ (HL1.out dq osq)
        generalize grow (redrawn w1 dq) osq=w2 at hB2 k2 HL2 ⊢
        clear HB1 HK1 HL1 HQ1 b1 gf g0 g1 g2 g3 g4 g5 g6 g7 g8 g9 g10 g11 g12 g13
        have y4:=k2.cell 4
        have y5:=k2.cell 5
        have y6:=k2.cell 6
        simp only [gz_,gs_] at y4 y5 y6
        have K2:=a_ k2
        have HB2:=a_ hB2
        clear k2 hB2
        go_wp2_with fail
        refine (HR.out w2 HB2.out).mono ?_
        rintro e w3 ⟨rfl,hb3⟩
        have hB3:=HB2.out.trans (hb3.mono HB2.out.size)
        have HL3:=a_ (HL2.out.trans (hb3.mono HL2.out.size))
        have k3:=K2.out.below hb3 K2.out.lt
        clear y4 y5 y6 hb3 HL2 K2 HB2 HR
        cases R
        ·have HA3:=a_ (fun (d:Nat) (os:Array Obj)=>N_ (HA.out (grow (redrawn w3 d) os) (hB3.trans ((below_regrown w3 d os).mono hB3.size))))
         have y5:=k3.cell 5
         simp only [gz_,gs_] at y5
         have q5:=cell_regrown y5
         have hkc:(k:Int)<=(cap:Int):=by omega
         have hk0:(0:Int)<=(k:Int):=by omega
         clear y5 HA
         have Hby2:=a_ (fun h1 h2 h3=>Hby.out (r:=r) h1 h2 h3 (by first | rfl | trivial) HAt.out)
         have HB3:=a_ hB3
         have K3:=a_ k3
         clear Hby hB3 k3
         go_wp2
         refine wp_region_quiet_below (by kernel_rfl) (by kernel_rfl) ?_
         repeat (go_big_quiet_step ((go_at_call 128;exact HA3.out _ _)))
         refine wpQuiet_nil ?_
         intro _ hw'
         obtain ⟨⟨dq2,osq2⟩,hw''⟩:=hw'
         subst hw''
         have hB4:=HB3.out.trans ((below_regrown w3 dq2 osq2).mono HB3.out.size)
         have HL4:=a_ (HL3.out.trans ((below_regrown w3 dq2 osq2).mono HL3.out.size))
         have k4:=K3.out.below (below_regrown w3 dq2 osq2) K3.out.lt
         generalize grow (redrawn w3 dq2) osq2=w4 at hB4 k4 HL4 ⊢
         clear HB3 HL3 K3 HA3 q5
         rcases HAt.out with ⟨rfl,hnone⟩ | ⟨j,hj,rfl,-,-⟩
         ·have hf:=a_ (Hno.out (by rw [Hby2.out (by first | rfl | trivial) (by exact HE.out) (by exact fun _=>HLs.out)];rintro ⟨j,hj,e,_⟩;omega))
          clear Hby2 Hno Hnx HAt hnone Hdef
          go_wp2
          go_quiet (fail)
          go_wp2
          go_ret
          exact ⟨b_ hf.out.symm,below_drewN HL4.out _⟩
         ·have hjk:j < k:=by simp at hj;omega
          have z4:=k4.cell 4
          simp only [gz_,gs_] at z4
          have zr:=Hcell.out j (by omega) w4 hB4
          have hj0:(0:Int)<=(j:Int):=by omega
          have hjl:(j:Int) < (l.length:Int):=by omega
          have HH:=a_ (Hby2.out (by first | rfl | trivial) (by exact HE.out) (by exact fun _=>HLs.out))
          clear Hby2 HAt hj Hcell k4 hB4 Hdef
          by_cases he:(l[j]'(by omega)).rd=qr
          ·have hq:=a_ (Hnx.out (HH.out.2 ⟨j,hjk,rfl,he⟩))
           rw [he] at zr
           clear HH Hnx Hno he
           go_wp2
           go_quiet (fail)
           go_wp2
           go_roundw
           case rel=>exact ⟨k+1,by omega,by go_num,hq.out,below_drewN HL4.out _⟩
           case measure=>simp [intOf];omega
          ·have hf:=a_ (Hno.out (by rw [HH.out];rintro ⟨i,hi,e,g⟩;obtain rfl:i=j:=(by omega);exact he g))
           have hne:((l[j]'(by omega)).rd != qr)=true:=by rw [bne_iff_ne];exact he
           generalize (l[j]'(by omega)).rd=rj at zr hne
           clear HH Hnx Hno he
           go_wp2
           go_quiet (fail)
           go_wp2
           go_ret
           exact ⟨b_ hf.out.symm,below_drewN HL4.out _⟩
        ·have hq:=a_ (Hnx.out (Hdef.out.2 ⟨by first | rfl | trivial,by exact HE.out,by exact fun _=>HLs.out,.inl (by first | rfl | trivial)⟩))
         clear Hdef Hby Hno Hnx HA HAt Hcell k3 hB3
         go_wp2
         go_roundw
         case rel=>exact ⟨k+1,by omega,by go_num,hq.out,HL3.out⟩
         case measure=>simp [intOf];omega
       ·have hge:decide (pid ≥ id)=true:=by simp;omega
        have hge2:id<=pid:=by omega
        have hneg:Hid (¬ pid < id):=a_ hless
        have hp9:Hid (0 < k):=a_ hposN
        clear hless HR HA HAt Hcell
        have hf:=a_ (Hno.out (by rw [Hdef.out];rintro ⟨_,_,h,_⟩;exact hneg.out (h hp9.out)))
        clear Hdef Hnx Hno Hby
        refine wp_region_quiet_below (by kernel_rfl) (by kernel_rfl) ?_
        repeat (go_big_quiet_step ((go_at_call 126;exact HQ1.out _ _)))
        refine wpQuiet_nil ?_
        intro _ hw'
        obtain ⟨⟨dq,osq⟩,hw''⟩:=hw'
        subst hw''
        go_wp2
        go_ret
        exact ⟨b_ hf.out.symm,HL1.out dq osq⟩
     ·have hne:(ep != e0)=true:=by rw [bne_iff_ne];exact he
      have Hne:=a_ he
      clear he HR HA HAt Hprev1 Hcell
      have hf:=a_ (Hno.out (by rw [Hdef.out];rintro ⟨_,h,_⟩;exact Hne.out h))
      clear Hdef Hnx Hno Hby
      refine wp_region_quiet_below (by kernel_rfl) (by kernel_rfl) ?_
      repeat (go_big_quiet_step ((go_at_call 126;exact HQ1.out _ _)))
      refine wpQuiet_nil ?_
      intro _ hw'
      obtain ⟨⟨dq,osq⟩,hw''⟩:=hw'
      subst hw''
      go_wp2
      go_ret
      exact ⟨b_ hf.out.symm,HL1.out dq osq⟩
   ·have hX:Hid (treeB l=decide ((l.length:Int)<=400)):=a_ (by
     by_cases h:l.length<=400
     ·rw [bL_ ⟨h,fun i hi=>Hall.out i hi (by omega)⟩];symm;rw [decide_eq_true_eq];omega
     ·rw [gd_ (by omega)];symm;rw [decide_eq_false_iff_not];omega)
    go_wp2
    go_ret
    exact ⟨b_ hX.out.symm,hb⟩
end Go.Proofs.YtamljhcmiphdgaaGreatDoor
