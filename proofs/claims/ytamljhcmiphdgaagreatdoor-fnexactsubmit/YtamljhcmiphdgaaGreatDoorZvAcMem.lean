/- Accounts and what leaves, over plain data and in memory. -/
import Derived.Test.YtamljhcmiphdgaaGreatDoorZvCtSpec
import Derived.Lib.QuietBelow
import Derived.Laws.IdiomStrings
set_option maxRecDepth 20000
set_option maxHeartbeats 4000000
namespace Go.Proofs.YtamljhcmiphdgaaGreatDoor
open Go.RowKit Go.Sort
set_option linter.unusedVariables false
def noneB (r:Int) (ws:List ByteArray) (hs:List Int):Bool:=decide (r=0) && (decide (ws.length=0) && decide (hs.length=0))
def hisB (r:Int) (hs:List Int):Bool:=hs.all (fun h=>inB h 0 (r - 1))
def tcB (l:List Vl) (r:Int) (ws:List ByteArray) (hs:List Int):Bool:=noneB r ws hs || (inB r 1 10000 && (allV l ws && (quoB l ws && (decide (hs.length=ws.length) && hisB r hs))))
theorem bc_ (r:Int) (vw vh:Value) (ws:List ByteArray) (hs:List Int) (w:World) (hrw:RdS w vw ws) (hrh:RdI w vh hs) (hlw:ws.length<=4000000) (hlh:hs.length<=4000000) :
  Calls Tryz.prog 131 #[tcV r vw vh] w fun e w'=>e=.returned (.bool (noneB r ws hs))/\Below w.heap.size w w':=by
 obtain ⟨a,c,rfl⟩:=hrw.shape
 obtain ⟨a2,c2,rfl⟩:=hrh.shape
 clear hrw hrh
 simp only [tcV]
 have HB:=a_ ((br_ _ w).alloc (nr_ _) (.cells #[.int .i64 r,.slice a ws.length c,.slice a2 hs.length c2] 49))
 by_cases h1:r=0
 ·by_cases h2:ws.length=0
  ·by_cases h3:hs.length=0
   ·have Hf:Hid (noneB r ws hs=true):=a_ (by unfold noneB;rw [decide_eq_true h1,decide_eq_true h2,decide_eq_true h3];rfl)
    have h2i:((ws.length:Int) == 0)=true:=by rw [beq_iff_eq];omega
    have h3i:((hs.length:Int) == 0)=true:=by rw [beq_iff_eq];omega
    subst h1
    generalize noneB 0 ws hs=X at Hf ⊢
    clear h2 h3
    go_enter Tryz.func131,Tryz.ntmps131
    go_wp2
    go_ret
    exact ⟨b_ Hf.out.symm,HB.out⟩
   ·have Hf:Hid (noneB r ws hs=false):=a_ (by unfold noneB;rw [decide_eq_false h3,Bool.and_false,Bool.and_false])
    have h2i:((ws.length:Int) == 0)=true:=by rw [beq_iff_eq];omega
    have h3i:((hs.length:Int) == 0)=false:=by rw [beq_eq_false_iff_ne];omega
    subst h1
    generalize noneB 0 ws hs=X at Hf ⊢
    clear h2 h3
    go_enter Tryz.func131,Tryz.ntmps131
    go_wp2
    go_ret
    exact ⟨b_ Hf.out.symm,HB.out⟩
  ·have Hf:Hid (noneB r ws hs=false):=a_ (by unfold noneB;rw [decide_eq_false h2,Bool.false_and,Bool.and_false])
   have h2i:((ws.length:Int) == 0)=false:=by rw [beq_eq_false_iff_ne];omega
   subst h1
   generalize noneB 0 ws hs=X at Hf ⊢
   clear h2
   go_enter Tryz.func131,Tryz.ntmps131
   go_wp2
   go_ret
   exact ⟨b_ Hf.out.symm,HB.out⟩
 ·have Hf:Hid (noneB r ws hs=false):=a_ (by unfold noneB;rw [decide_eq_false h1,Bool.false_and])
  have h1i:(r == 0)=false:=by rw [beq_eq_false_iff_ne];exact h1
  generalize noneB r ws hs=X at Hf ⊢
  clear h1
  go_enter Tryz.func131,Tryz.ntmps131
  go_wp2
  go_ret
  exact ⟨b_ Hf.out.symm,HB.out⟩
theorem da_ (r:Int) (hs:List Int) (k:Nat) (h:k < hs.length) (hk:inB hs[k] 0 (r - 1)=false):hisB r hs=false:=by
 unfold hisB
 rw [List.all_eq_false]
 exact ⟨hs[k],List.getElem_mem _,by simp [hk]⟩
theorem cg_ (r:Int) (hs:List Int) (h:∀ j (hj:j < hs.length),inB hs[j] 0 (r - 1)=true):hisB r hs=true:=by
 unfold hisB
 rw [List.all_eq_true]
 intro x hx
 obtain ⟨j,hj,rfl⟩:=List.mem_iff_getElem.1 hx
 exact h j hj
theorem RdI.at {w:World} {a:Option Addr} {cap k:Nat} {l:List Int} (h:RdI w (.slice a l.length cap) l) (hk:k < l.length) :
  ∃ b off,a=some ⟨b,off,none⟩/\l.length<=cap/\cap<=maxLen/\b < w.heap.size/\w.cell? ⟨b,off+k,none⟩=some (.int .i64 l[k]):=by
 rcases h with ⟨a',cap',e,rfl,-⟩ | ⟨b,off,cap',h0,e,h1,h2,h3,h4⟩
 ·simp at hk
 ·simp only [Value.slice.injEq] at e
  obtain ⟨rfl,-,rfl⟩:=e
  exact ⟨b,off,rfl,h1,h2,h3,h4 k hk⟩
theorem G_ {P:Program} {f:FuncId} {args:Array Value} {w:World} {d:Nat} {os:Array Obj} {v:Value}
  (h:Calls P f args (grow (redrawn w d) os) fun e w'=>e=.returned v/\w'=grow (redrawn w d) os):Calls P f args (grow (redrawn w d) os) fun e w''=>e=.returned v/\∃ p:Regrown,w''=grow (redrawn w p.d) p.os :=
 h.mono fun _ _ ⟨he,hw⟩=>⟨he,⟨⟨d,os⟩,hw⟩⟩
theorem fY_ (v vw vh:Value) (l:List Vl) (r:Int) (ws:List ByteArray) (hs:List Int) (w:World) (hr:RdV w v l) (hrw:RdS w vw ws) (hrh:RdI w vh hs) (hl:l.length<=4000000) (hlw:ws.length<=4000000) (hlh:hs.length<=4000000) (hsz:∀ s ∈ ws,s.size<=maxLen) (hm:ModV l) :
  Calls Tryz.prog 89 #[v,tcV r vw vh] w fun e w'=>e=.returned (.bool (tcB l r ws hs))/\Below w.heap.size w w':=by
 obtain ⟨al,cl,rfl⟩:=hr.shape
 obtain ⟨a,c,rfl⟩:=hrw.shape
 obtain ⟨a2,c2,rfl⟩:=hrh.shape
 obtain ⟨w1,hw1⟩:∃ w1,w.alloc (.cells #[.int .i64 r,.slice a ws.length c,.slice a2 hs.length c2] 49)=w1:=⟨_,rfl⟩
 have hb1:Below w.heap.size w w1:=by rw [<- hw1];exact (br_ _ w).alloc (nr_ _) _
 have k1:Blk w1 w.heap.size 49 [.int .i64 r,.slice a ws.length c,.slice a2 hs.length c2]:=by rw [<- hw1];exact Blk.new w _ _
 have HN:=a_ (bc_ r _ _ ws hs w1 (hrw.below hb1 (nr_ _)) (hrh.below hb1 (nr_ _)) hlw hlh)
 have HA:=a_ (fun V (hb:Below w.heap.size w V)=>bB_ (.slice al l.length cl) (.slice a ws.length c) l ws V (hr.below hb (nr_ _)) (hrw.below hb (nr_ _)) hl hlw hsz)
 have HQ:=a_ (fun V (hb:Below w.heap.size w V)=>az_ (.slice al l.length cl) (.slice a ws.length c) l ws V (hr.below hb (nr_ _)) (hrw.below hb (nr_ _)) hl hlw hm.1 (hm.2 ws))
 have HX:Hid (tcB l r ws hs=(noneB r ws hs || (inB r 1 10000 && (allV l ws && (quoB l ws && (decide (hs.length=ws.length) && hisB r hs)))))):=a_ rfl
 have HU:Hid (decide (2 * totalV l < 3 * weightV l ws)=quoB l ws):=a_ rfl
 have Hrh:=a_ hrh
 rw [HU.out] at HQ
 generalize tcB l r ws hs=X at HX ⊢
 generalize noneB r ws hs=N0 at HX HN
 generalize allV l ws=A0 at HX HA
 generalize quoB l ws=Q0 at HX HQ HU
 simp only [tcV] at *
 have x0:=k1.cell 0
 have x1:=k1.cell 1
 have x2:=k1.cell 2
 simp only [gz_,gs_] at x0 x1 x2
 clear hr hrw hrh hsz hm HU
 cases N0
 ·rw [Bool.false_or] at HX
  go_enter Tryz.func89,Tryz.ntmps89
  go_wp2_with fail
  refine HN.out.mono ?_
  rintro e w2 ⟨rfl,hb2⟩
  have k2:=k1.below hb2 k1.lt
  have hB2:=hb1.trans (hb2.mono hb1.size)
  have y0:=k2.cell 0
  have y1:=k2.cell 1
  have y2:=k2.cell 2
  simp only [gz_,gs_] at y0 y1 y2
  have HA2:=a_ (HA.out _ hB2)
  clear x0 x1 x2 k1 hb2 hw1 HN HA
  cases h1:inB r 1 10000
  ·rw [h1,Bool.false_and] at HX
   go_wp2_with (go_at_call 87;refine (d_ _ _ _ _).mono ?_;rintro e w3 ⟨rfl,rfl⟩)
   go_ret
   exact ⟨b_ HX.out.symm,hB2⟩
  ·rw [h1, Bool.true_and] at HX
   cases A0
   ·rw [Bool.false_and] at HX
    go_wp2_with (first
     | (go_at_call 87;refine (d_ _ _ _ _).mono ?_;rintro e w3 ⟨rfl,rfl⟩)
     | (go_at_call 129;refine HA2.out.mono ?_;rintro e w4 ⟨rfl,hb4⟩))
    go_ret
    exact ⟨b_ HX.out.symm,hB2.trans (hb4.mono hB2.size)⟩
   ·rw [Bool.true_and] at HX
    cases Q0
    ·rw [Bool.false_and] at HX
     go_wp2_with (first
      | (go_at_call 87;refine (d_ _ _ _ _).mono ?_;rintro e w3 ⟨rfl,rfl⟩)
      | (go_at_call 129;refine HA2.out.mono ?_;rintro e w4 ⟨rfl,hb4⟩;have hB4:=hB2.trans (hb4.mono hB2.size);have k4:=k2.below hb4 k2.lt;have z1:=k4.cell 1;simp only [gz_,gs_] at z1)
      | (go_at_call 130;refine (HQ.out _ hB4).mono ?_;rintro e w5 ⟨rfl,hb5⟩))
     go_ret
     exact ⟨b_ HX.out.symm,hB4.trans (hb5.mono hB4.size)⟩
    ·rw [Bool.true_and] at HX
     by_cases hlen:hs.length=ws.length
     ·rw [decide_eq_true hlen,Bool.true_and] at HX
      have hli:((hs.length:Int) != (ws.length:Int))=false:=by rw [hlen];simp
      have Hr1:Hid (1<=r/\r<=10000):=a_ (by unfold inB at h1;simpa using h1)
      clear hlen
      go_wp2_with (first
       | (go_at_call 87;refine (d_ _ _ _ _).mono ?_;rintro e w3 ⟨rfl,rfl⟩)
       | (go_at_call 129;refine HA2.out.mono ?_;rintro e w4 ⟨rfl,hb4⟩;have hB4:=hB2.trans (hb4.mono hB2.size);have k4:=k2.below hb4 k2.lt;have z1:=k4.cell 1;simp only [gz_,gs_] at z1)
       | (go_at_call 130;refine (HQ.out _ hB4).mono ?_;rintro e w5 ⟨rfl,hb5⟩;have hB5:=hB4.trans (hb5.mono hB4.size);have k5:=k4.below hb5 k4.lt;have t1:=k5.cell 1;have t2:=k5.cell 2;simp only [gz_,gs_] at t1 t2))
      have K5:=a_ k5
      have HB5:=a_ hB5
      clear k5 k4 k2 y0 y1 y2 z1 t1 t2 hb4 hb5 hB4 hB5 hB2 hli
      go_loopw [5] (fun iv wr=>∃ i:Nat,i<=hs.length/\iv=.int .i64 (i:Int)/\(∀ j (hj:j < hs.length),j < i->inB hs[j] 0 (r - 1)=true)/\Below w5.heap.size w5 wr) (fun iv _=>hs.length - (intOf iv).toNat)
      case atStart=>exact ⟨0,Nat.zero_le _,rfl,fun j _ hj=>by omega,br_ _ _⟩
      case round =>
       obtain ⟨i,hi,rfl,hok,hb⟩:=hrel
       have kr:=K5.out.below hb K5.out.lt
       have t0:=kr.cell 0
       have t2:=kr.cell 2
       simp only [gz_,gs_] at t0 t2
       have Hok:=a_ hok
       have HBr:=a_ (HB5.out.trans (hb.mono HB5.out.size))
       clear hok kr
       by_cases hlt:i < hs.length
       ·obtain ⟨bh,oh,rfl,hc1,hc2,hbh,hch⟩:=Hrh.out.at hlt
        have c0:=(HBr.out.cell (p:=⟨bh,oh+i,none⟩) hbh).trans hch
        have hli:(i:Int) < (hs.length:Int):=by omega
        have Hno:=a_ (da_ r hs i hlt)
        have Hnx:Hid (inB hs[i] 0 (r - 1)=true->∀ j (hj:j < hs.length),j < i+1->inB hs[j] 0 (r - 1)=true):=a_ (fun h j hj hji=>by
         by_cases e:j=i
         ·subst e;exact h
         ·exact Hok.out j hj (by omega))
        generalize hs[i]=x at c0 hch Hno Hnx
        have hr1:=Hr1.out
        have hwr:IntKind.i64.wrap (r - 1)=r - 1:=by rw [IntKind.wrap_i64];omega
        have Hb:=a_ hb
        have g0:=cell_regrown c0
        have g1:=cell_regrown t0
        have g2:=cell_regrown t2
        clear hb hch hr1 c0
        cases hx:inB x 0 (r - 1)
        ·have Hf:=a_ (HX.out.trans (Hno.out hx))
         have HI:=a_ (fun (d:Nat) (os:Array Obj)=>G_ (d_ x 0 (r - 1) (grow (redrawn wr d) os)))
         rw [hx] at HI
         clear hx Hnx
         go_wp2
         refine wp_region_quiet_below (by kernel_rfl) (by kernel_rfl) ?_
         repeat (go_big_quiet_step ((go_at_call 87;exact HI.out _ _)))
         refine wpQuiet_nil ?_
         intro _ hw'
         obtain ⟨⟨dq,osq⟩,hw''⟩:=hw'
         subst hw''
         go_wp2
         go_ret
         exact ⟨b_ Hf.out.symm,HBr.out.trans ((below_regrown wr dq osq).mono HBr.out.size)⟩
        ·have Hnx:=a_ (Hnx.out hx)
         have HI:=a_ (fun (d:Nat) (os:Array Obj)=>G_ (d_ x 0 (r - 1) (grow (redrawn wr d) os)))
         rw [hx] at HI
         clear hx
         go_wp2
         refine wp_region_quiet_below (by kernel_rfl) (by kernel_rfl) ?_
         repeat (go_big_quiet_step ((go_at_call 87;exact HI.out _ _)))
         refine wpQuiet_nil ?_
         intro _ hw'
         obtain ⟨⟨dq,osq⟩,hw''⟩:=hw'
         subst hw''
         go_wp2
         go_roundw
         case rel=>exact ⟨i+1,by omega,by go_num,Hnx.out,Hb.out.trans ((below_regrown wr dq osq).mono Hb.out.size)⟩
         case measure=>simp [intOf];omega
       ·have Hf:=a_ (HX.out.trans (cg_ r hs (fun j hj=>Hok.out j hj (by omega))))
        clear hb
        go_wp2
        go_ret
        exact ⟨b_ Hf.out.symm,HBr.out⟩
     ·rw [decide_eq_false hlen,Bool.false_and] at HX
      have hli:((hs.length:Int) != (ws.length:Int))=true:=by rw [bne_iff_ne];omega
      clear hlen
      go_wp2_with (first
       | (go_at_call 87;refine (d_ _ _ _ _).mono ?_;rintro e w3 ⟨rfl,rfl⟩)
       | (go_at_call 129;refine HA2.out.mono ?_;rintro e w4 ⟨rfl,hb4⟩;have hB4:=hB2.trans (hb4.mono hB2.size);have k4:=k2.below hb4 k2.lt;have z1:=k4.cell 1;simp only [gz_,gs_] at z1)
       | (go_at_call 130;refine (HQ.out _ hB4).mono ?_;rintro e w5 ⟨rfl,hb5⟩;have hB5:=hB4.trans (hb5.mono hB4.size);have k5:=k4.below hb5 k4.lt;have t1:=k5.cell 1;have t2:=k5.cell 2;simp only [gz_,gs_] at t1 t2))
      go_ret
      exact ⟨b_ HX.out.symm,hB5⟩
 ·rw [Bool.true_or] at HX
  go_enter Tryz.func89,Tryz.ntmps89
  go_wp2_with fail
  refine HN.out.mono ?_
  rintro e w2 ⟨rfl,hb2⟩
  have hB2:=hb1.trans (hb2.mono hb1.size)
  clear x0 x1 x2 k1 hb2
  go_wp2
  go_ret
  exact ⟨b_ HX.out.symm,hB2⟩
open Go.RowKit
abbrev Tx5:=Int × ByteArray × ByteArray × Int × Int
def txV (t:Tx5):Value:=.agg #[.int .i64 t.1,.string t.2.1,.string t.2.2.1,.int .i64 t.2.2.2.1,.int .i64 t.2.2.2.2]
def txB (t:Tx5):Bool:=nmB t.2.1 && (inB t.2.2.2.1 1 1000000 && (inB t.2.2.2.2 0 10000 && (if t.1=1 then nmB t.2.2.1 else (inB t.1 2 3 && decide (t.2.2.1=ByteArray.empty)))))
def lessT (a b:Tx5):Bool :=
 if a.2.1 ≠ b.2.1 then Op.bytesLess a.2.1.toList b.2.1.toList
 else if a.2.2.2.2 ≠ b.2.2.2.2 then decide (a.2.2.2.2 < b.2.2.2.2)
 else if a.1 ≠ b.1 then decide (a.1 < b.1)
 else if a.2.2.1 ≠ b.2.2.1 then Op.bytesLess a.2.2.1.toList b.2.2.1.toList
 else decide (a.2.2.2.1 < b.2.2.2.1)
theorem fG_ (t:Tx5) (w:World):Calls Tryz.prog 8 #[txV t] w fun e w'=>e=.returned (txV t)/\Below w.heap.size w w':=by
 obtain ⟨k,f,tO,am,no⟩:=t
 simp only [txV]
 go_enter Tryz.func8,Tryz.ntmps8
 go_wp2
 refine bodyPost_ret (v:=.agg #[.int .i64 k,.string f,.string tO,.int .i64 am,.int .i64 no]) (by simp [results,Tryz.f8,go_sem]) rfl ?_
 exact ⟨rfl,((((br_ _ w).alloc (nr_ _) _).alloc (by simp) _).alloc (by simp;omega) _)⟩
theorem jJ_ (a b:Tx5) (w:World):Calls Tryz.prog 114 #[txV a,txV b] w fun e w'=>e=.returned (.bool (decide (a=b)))/\Below w.heap.size w w':=by
 obtain ⟨k1,f1,t1,m1,n1⟩:=a
 obtain ⟨k2,f2,t2,m2,n2⟩:=b
 simp only [txV]
 have HB:=a_ (((br_ _ w).alloc (nr_ _) (.cells #[.int .i64 k1,.string f1,.string t1,.int .i64 m1,.int .i64 n1] 59)).alloc (by simp) (.cells #[.int .i64 k2,.string f2,.string t2,.int .i64 m2,.int .i64 n2] 59))
 by_cases h1:k1=k2
 ·by_cases h2:f1=f2
  ·by_cases h3:t1=t2
   ·by_cases h4:m1=m2
    ·by_cases h5:n1=n2
     ·subst h1 h2 h3 h4 h5
      have Hd:Hid (decide (((k1,f1,t1,m1,n1):Tx5)=(k1,f1,t1,m1,n1))=true):=a_ (by simp)
      go_enter Tryz.func114,Tryz.ntmps114
      go_wp2
      go_ret
      exact ⟨b_ Hd.out.symm,HB.out⟩
     ·subst h1 h2 h3 h4
      have Hd:Hid (decide (((k1,f1,t1,m1,n1):Tx5)=(k1,f1,t1,m1,n2))=false):=a_ (by simp [h5])
      have hq:(n1 != n2)=true:=by rw [bne_iff_ne];exact h5
      clear h5
      go_enter Tryz.func114,Tryz.ntmps114
      go_wp2
      go_ret
      exact ⟨b_ Hd.out.symm,HB.out⟩
    ·subst h1 h2 h3
     have Hd:Hid (decide (((k1,f1,t1,m1,n1):Tx5)=(k1,f1,t1,m2,n2))=false):=a_ (by simp [h4])
     have hq:(m1 != m2)=true:=by rw [bne_iff_ne];exact h4
     clear h4
     go_enter Tryz.func114,Tryz.ntmps114
     go_wp2
     go_ret
     exact ⟨b_ Hd.out.symm,HB.out⟩
   ·subst h1 h2
    have Hd:Hid (decide (((k1,f1,t1,m1,n1):Tx5)=(k1,f1,t2,m2,n2))=false):=a_ (by simp [h3])
    have hq:=A_ h3
    clear h3
    go_enter Tryz.func114,Tryz.ntmps114
    go_wp2
    go_ret
    exact ⟨b_ Hd.out.symm,HB.out⟩
  ·subst h1
   have Hd:Hid (decide (((k1,f1,t1,m1,n1):Tx5)=(k1,f2,t2,m2,n2))=false):=a_ (by simp [h2])
   have hq:=A_ h2
   clear h2
   go_enter Tryz.func114,Tryz.ntmps114
   go_wp2
   go_ret
   exact ⟨b_ Hd.out.symm,HB.out⟩
 ·have Hd:Hid (decide (((k1,f1,t1,m1,n1):Tx5)=(k2,f2,t2,m2,n2))=false):=a_ (by simp [h1])
  have hq:(k1 != k2)=true:=by rw [bne_iff_ne];exact h1
  clear h1
  go_enter Tryz.func114,Tryz.ntmps114
  go_wp2
  go_ret
  exact ⟨b_ Hd.out.symm,HB.out⟩
def szT (t:Tx5) (m:Int):Int:=if m - t.2.1.size < 0 then -1 else if m - t.2.1.size - t.2.2.1.size < 0 then -1 else m - t.2.1.size - t.2.2.1.size
theorem fC_ (t:Tx5) (m:Int) (w:World) (hm0:0<=m) (hm:m<=100000000) (hn:t.2.1.size<=9223372036854775807) (hl:t.2.2.1.size<=9223372036854775807) :
  Calls Tryz.prog 5 #[txV t,.int .i64 m] w fun e w'=>e=.returned (.int .i64 (szT t m))/\Below w.heap.size w w':=by
 obtain ⟨k1,f1,t1,m1,n1⟩:=t
 have HB:=a_ ((br_ _ w).alloc (nr_ _) (.cells #[.int .i64 k1,.string f1,.string t1,.int .i64 m1,.int .i64 n1] 40))
 simp only [txV] at *
 have w1:IntKind.i64.wrap (m - (f1.size:Int))=m - f1.size:=by rw [IntKind.wrap_i64];omega
 by_cases h1:m - (f1.size:Int) < 0
 ·have Hs:Hid (szT (k1,f1,t1,m1,n1) m=-1):=a_ (by unfold szT;rw [if_pos h1])
  go_enter Tryz.func5,Tryz.ntmps5
  go_wp2
  go_ret
  exact ⟨h_ Hs.out.symm,HB.out⟩
 ·have w2:IntKind.i64.wrap (m - (f1.size:Int) - (t1.size:Int))=m - f1.size - t1.size:=by rw [IntKind.wrap_i64];omega
  by_cases h2:m - (f1.size:Int) - (t1.size:Int) < 0
  ·have Hs:Hid (szT (k1,f1,t1,m1,n1) m=-1):=a_ (by unfold szT;rw [if_neg h1,if_pos h2])
   go_enter Tryz.func5,Tryz.ntmps5
   go_wp2
   go_ret
   exact ⟨h_ Hs.out.symm,HB.out⟩
  ·have Hs:Hid (szT (k1,f1,t1,m1,n1) m=m - f1.size - t1.size):=a_ (by unfold szT;rw [if_neg h1,if_neg h2])
   go_enter Tryz.func5,Tryz.ntmps5
   go_wp2
   go_ret
   exact ⟨h_ Hs.out.symm,HB.out⟩
def dg:Nat->Nat->List UInt8->List UInt8
 | 0,_,acc=>acc
 | f+1,k,acc=>if k=0 then acc else dg f (k / 10) (UInt8.ofNat (48+k % 10) :: acc)
def mtx (k:Nat):ByteArray:=⟨(109 :: dg k k []).toArray⟩
theorem kr_ (f k:Nat) (acc:List UInt8) (h:0 < k) (hf:k<=f):dg f k acc=dg (f - 1) (k / 10) (UInt8.ofNat (48+k % 10) :: acc):=by
 cases f with
 | zero=>omega
 | succ f=>rw [dg,if_neg (by omega)];rfl
theorem kq_ (f:Nat) (acc:List UInt8):dg f 0 acc=acc:=by
 cases f with
 | zero=>rfl
 | succ f=>rw [dg,if_pos rfl]
theorem kE_ (w:World) (x:Int) (c:UInt8) (h:x=(c.toNat:Int)):(convert 195 9 (.slice (some ⟨w.heap.size,0,none⟩) 1 1)).run Tryz.prog (w.alloc (.cells #[.int .u8 x] 5))=.ok (.string ⟨[c].toArray⟩) (w.alloc (.cells #[.int .u8 x] 5)):=by
 have:=run_convert_bytes_back (P:=Tryz.prog) (w.alloc (.cells #[.int .u8 x] 5)) 195 9 5 ⟨w.heap.size,0,none⟩ 1 [c] Tryz.underlying195 Tryz.underlying5 Tryz.underlying9 (by
  intro j hj
  simp only [List.length_cons,List.length_nil] at hj
  have:j=0:=by omega
  subst this
  simp [Addr.add,World.cell?_alloc_at,h])
 simpa using this
theorem gZ_ (c:UInt8) (acc:List UInt8):(⟨#[c]⟩ ++ ⟨acc.toArray⟩:ByteArray)=⟨(c :: acc).toArray⟩:=by
 apply ByteArray.ext
 simp
theorem jU_ (m:Nat) (h:m < 256):(m:Int)=((UInt8.ofNat m).toNat:Int):=by
 rw [UInt8.toNat_ofNat'];omega
theorem n_ (k:Nat) (w:World) (h0:0 < k) (hk:k<=200000000) :
  Calls Tryz.prog 117 #[.int .i64 (k:Int)] w fun e w'=>e=.returned (.string (mtx k))/\Below w.heap.size w w':=by
 have HM:Hid (mtx k=⟨(109 :: dg k k []).toArray⟩):=a_ rfl
 go_enter Tryz.func117,Tryz.ntmps117
 go_wp2
 go_loopw [0,3] (fun kv ov wr=>∃ (j f:Nat) (acc:List UInt8),kv=.int .i64 (j:Int)/\ov=.string ⟨acc.toArray⟩/\dg k k []=dg f j acc/\j<=f/\acc.length+f=k/\Below w.heap.size w wr) (fun kv _ _=>(intOf kv).toNat)
 case atStart=>exact ⟨k,k,[],rfl,rfl,rfl,nr_ _,by simp,br_ _ _⟩
 case round =>
  obtain ⟨j,f,acc,rfl,rfl,hd,hjf,haf,hb⟩:=hrel
  have Hd:=a_ hd
  have Haf:=a_ haf
  have hal:acc.length<=200000000:=by omega
  have hfl:f<=200000000:=by omega
  have hsz:=hb.size
  clear hd haf
  by_cases hj:0 < j
  ·have Hst:=a_ (kr_ f j acc hj hjf)
   obtain ⟨C,hC,hC2⟩:∃ C:Nat,48+j % 10=C/\C < 256:=⟨_,rfl,by omega⟩
   have k1:=kE_ wr (48+(j:Int) % 10) (UInt8.ofNat C) (by have:=jU_ C hC2;omega)
   rw [hC] at Hst
   clear hC
   have Hb:=a_ hb
   clear hb
   go_wp2
   go_roundw
   case rel=>exact ⟨j / 10,f - 1,UInt8.ofNat C :: acc,by go_num,by rw [gZ_],Hd.out.trans Hst.out,by omega,by have:=Haf.out;simp;omega,Hb.out.alloc hsz _⟩
   case measure=>simp [intOf];omega
  ·have hj0:j=0:=by omega
   subst hj0
   have Hz:=a_ (kq_ f acc)
   go_wp2
   go_ret
   exact ⟨by rw [HM.out,Hd.out,Hz.out,<- gZ_];rfl,hb⟩
def mkS (k n:Nat):List ByteArray:=(List.range n).map (fun i=>mtx (k+i))
theorem ao_ (k n:Nat):(mkS k n).length=n:=by simp [mkS]
theorem jf_ (k n j:Nat) (h:j < (mkS k n).length):(mkS k n)[j]=mtx (k+j):=by simp [mkS]
theorem jg_ {B base:Nat} {w w':World} {e:TypeId} {size:Nat} {v:Value} {n:Nat} {xs:List Value} (h:w.ownsRow base e size v n xs) (hb:Below B w w') (hB:w.heap.size<=B):w'.ownsRow base e size v n xs:=by
 refine ⟨h.1,?_⟩
 rcases h.2 with h' | ⟨g,cap,cur,hv,hbb,hg,r⟩
 ·exact .inl h'
 ·refine .inr ⟨g,cap,cur,hv,hbb,?_,r⟩
  have hlt:g < w.heap.size:=(Array.getElem?_eq_some_iff.1 hg).1
  rw [hb.block g (by omega)];exact hg
theorem cn_ {w w':World} (row:Option Nat) (h:Below w.heap.size w w'):w.grownBy w' row :=
 ⟨h.os,h.tape,h.output,h.size,fun k hk _=>h.block k hk⟩
theorem H_ {a b c:World} {row:Option Nat} (h:a.grownBy b row) (k:b.grownBy c row):a.grownBy c row :=
 ⟨k.os.trans h.os,k.tape.trans h.tape,k.output.trans h.output,Nat.le_trans h.size k.size,fun i hi hr=>(k.block i (Nat.lt_of_lt_of_le hi h.size) hr).trans (h.block i hi hr)⟩
theorem S_ (v:Value) (l:List ByteArray) (k base:Nat) (w:World) (ho:OwnS base w v l) (hl:l.length<=10000000) (hk:k<=100000000) (hk0:0 < k) :
  Calls Tryz.prog 118 #[v,.int .i64 (k:Int)] w fun e w'=>e=.returned (.int .i64 ((k+l.length:Nat):Int))/\OwnS base w' v (mkS k l.length)/\w.grownBy w' v.ownBlock:=by
 have hML:=ao_ k l.length
 have hMA:=jf_ k l.length
 generalize hMd:mkS k l.length=M at hML hMA
 clear hMd
 rcases ho.2 with ⟨rfl,hn⟩ | ⟨g,cap,cur,rfl,_,_,_,hcm,_,_⟩
 ·have e:l=[]:=List.length_eq_zero_iff.1 hn
  subst e
  have e2:M=[]:=List.length_eq_zero_iff.1 hML
  subst e2
  have Ho:=a_ ho
  clear ho
  go_enter Tryz.func118,Tryz.ntmps118
  go_wp2
  refine wp_loop_rounds 1 ?_
  rw [rounds_succ]
  go_wp2
  go_ret
  exact ⟨rfl,Ho.out,World.grownBy.refl _ _⟩
 ·have Ho:=a_ ho
  have HML:=a_ hML
  have HMA:=a_ hMA
  have hMl:l.length<=M.length:=by omega
  have hMg:M.length<=l.length:=by omega
  clear ho hML hMA
  go_enter Tryz.func118,Tryz.ntmps118
  go_wp2
  go_loopw [1,5] (fun kv iv wr=>∃ j:Nat,j<=l.length/\iv=.int .i64 (j:Int)/\kv=.int .i64 ((k+j:Nat):Int)/\wr.ownsRow base 9 1 (.slice (some ⟨g,0,none⟩) l.length cap) l.length ((M.take j ++ l.drop j).map Value.string)/\w.grownBy wr (some g))
   (fun _ iv _=>l.length - (intOf iv).toNat)
  case atStart=>exact ⟨0,Nat.zero_le _,rfl,rfl,by simpa [OwnS] using Ho.out,World.grownBy.refl _ _⟩
  case round =>
   obtain ⟨j,hj,rfl,rfl,hown,hgr⟩:=hrel
   by_cases hlt:j < l.length
   ·have hjM:j < M.length:=by omega
    obtain ⟨K,hK⟩:∃ K:Nat,k+j=K:=⟨_,rfl⟩
    have hK2:K<=200000000:=by omega
    have hK0:0 < K:=by omega
    have Hm:=a_ (fun w=>n_ K w hK0 hK2)
    have eM:M[j]=mtx K:=by rw [HMA.out j hjM,hK]
    rw [hK]
    have HK:=a_ hK
    clear hK
    have Hown:=a_ hown
    have Hgr:=a_ hgr
    clear hown hgr
    go_wp2_with fail
    refine (Hm.out _).mono ?_
    rintro e w2 ⟨rfl,hb2⟩
    have hown2:=jg_ Hown.out hb2 (nr_ _)
    have hf:=hown2.frozenAt j
    have hd:=hown2.cellAt j (by omega)
    obtain ⟨u,hu⟩:∃ u,((M.take j ++ l.drop j).map Value.string)[j]?=some u:=⟨_,List.getElem?_eq_getElem (by simp;omega)⟩
    rw [hu] at hd
    have hst:=hown2.stored j (.string M[j])
    rw [ch_ M l Value.string j HML.out hjM,eM] at hst
    have Hst:=a_ hst
    have Hb2:=a_ hb2
    clear hst hown2 hu eM hb2
    go_wp2
    go_roundw
    case rel=>exact ⟨j+1,by omega,by go_num,by rw [show k+(j+1)=K+1 from by have:=HK.out;omega];go_num,Hst.out.1,H_ (H_ Hgr.out (cn_ _ Hb2.out)) Hst.out.2⟩
    case measure=>simp [intOf];omega
   ·have e:M.take j ++ l.drop j=M:=by rw [List.take_of_length_le (by omega),List.drop_of_length_le (by omega),List.append_nil]
    rw [e] at hown
    have ho':OwnS base wr (.slice (some ⟨g,0,none⟩) l.length cap) M:=by
     unfold OwnS
     rw [HML.out]
     exact hown
    have e2:j=l.length:=by omega
    have Ho':=a_ ho'
    have Hgr:=a_ hgr
    clear ho' hgr hown e
    subst e2
    go_wp2
    go_ret
    exact ⟨rfl,Ho'.out,Hgr.out⟩
def RdL (w:World) (v:Value) (l:List (Int × Int)):Prop :=
 (∃ a cap,v=.slice a 0 cap/\l=[]/\(a=none->cap=0)) \/
 ∃ b off cap,l ≠ []/\v=.slice (some ⟨b,off,none⟩) l.length cap/\l.length<=cap/\cap<=maxLen/\b < w.heap.size /\
  ∀ i (h:i < l.length),w.cell? ⟨b,off+i * 2,none⟩=some (.int .i64 l[i].1)/\w.cell? ⟨b,off+i * 2+1,none⟩=some (.int .i64 l[i].2)
theorem RdL.shape {w:World} {v:Value} {l:List (Int × Int)} (h:RdL w v l):∃ a cap,v=.slice a l.length cap:=by
 rcases h with ⟨a,cap,rfl,rfl,-⟩ | ⟨b,off,cap,h0,rfl,_⟩
 ·exact ⟨a,cap,rfl⟩
 ·exact ⟨_,cap,rfl⟩
theorem RdL.below {B:Nat} {w w':World} {v:Value} {l:List (Int × Int)} (h:RdL w v l) (hb:Below B w w') (hB:w.heap.size<=B):RdL w' v l:=by
 rcases h with h | ⟨b,off,cap,h0,hv,h1,h2,h3,h4⟩
 ·exact .inl h
 ·exact .inr ⟨b,off,cap,h0,hv,h1,h2,by have:=hb.size;omega,fun i hi=>⟨(hb.cell (p:=⟨b,off+i * 2,none⟩) (by show b < B;omega)).trans (h4 i hi).1,(hb.cell (p:=⟨b,off+i * 2+1,none⟩) (by show b < B;omega)).trans (h4 i hi).2⟩⟩
def lvC (p:Int × Int):List Value:=[.int .i64 p.1,.int .i64 p.2]
def OwnL (base:Nat) (w:World) (v:Value) (l:List (Int × Int)):Prop:=w.ownsRow base 214 2 v l.length (l.map lvC).flatten
theorem Tryz.infoLv:(Tryz.prog.info? 214).map (fun i=>(i.zero,i.size,i.bytes))=some (some (.agg #[.int .i64 0,.int .i64 0]),2,16):=by kernel_rfl
theorem lvC_sz (p:Int × Int):(lvC p).length=2:=rfl
theorem fg_ (l:List (Int × Int)) (k:Nat):∀ x ∈ part lvC [Value.int .i64 0,Value.int .i64 0] l k,x.length=2:=cb_ 2 _ _ _ _ lvC_sz rfl
theorem aV_ (l:List (Int × Int)):∀ x ∈ l.map lvC,x.length=2:=fun x hx=>by obtain ⟨p,_,rfl⟩:=List.mem_map.1 hx;rfl
theorem OwnL.rd {base:Nat} {w:World} {v:Value} {l:List (Int × Int)} (h:OwnL base w v l):RdL w v l:=by
 rcases h.2 with ⟨hv,hn⟩ | ⟨g,cap,cur,hv,hb,hg,hnc,hcm,hcs,ht⟩
 ·exact .inl ⟨none,0,hv,List.length_eq_zero_iff.1 hn,fun _=>rfl⟩
 ·by_cases hl:l=[]
  ·subst hl;exact .inl ⟨_,_,hv,rfl,fun h=>by cases h⟩
  ·refine .inr ⟨g,0,cap,hl,hv,hnc,hcm,(Array.getElem?_eq_some_iff.1 hg).1,?_⟩
   intro i hi
   have h':w.ownsRow base 214 2 (.slice (some ⟨g,0,none⟩) l.length cap) l.length (l.map lvC).flatten:=hv ▸ h
   have e0:=i_ 2 (l.map lvC) i 0 (by simpa using hi) (aV_ l) (by omega)
   have e1:=i_ 2 (l.map lvC) i 1 (by simpa using hi) (aV_ l) (by omega)
   rw [Nat.zero_add,h'.cellAt (i * 2) (by omega),h'.cellAt (i * 2+1) (by omega)]
   rw [Nat.add_zero] at e0
   rw [e0,e1]
   simp [lvC]
theorem OwnL.mono {base base':Nat} {w:World} {v:Value} {l:List (Int × Int)} (h:OwnL base w v l) (hB:base'<=base):OwnL base' w v l:=by
 refine ⟨h.1,?_⟩
 rcases h.2 with h' | ⟨g,cap,cur,hv,hbb,r⟩
 ·exact .inl h'
 ·exact .inr ⟨g,cap,cur,hv,by omega,r⟩
theorem OwnL.ge {base:Nat} {w:World} {v:Value} {l:List (Int × Int)} (h:OwnL base w v l):∀ k,v.ownBlock=some k->base<=k:=fun k hk=>(World.ownsRow.lt h k hk).1
theorem OwnL.lt {base:Nat} {w:World} {v:Value} {l:List (Int × Int)} (h:OwnL base w v l):∀ k,v.ownBlock=some k->k < w.heap.size:=fun k hk=>(World.ownsRow.lt h k hk).2
theorem OwnL.below {B base:Nat} {w w':World} {v:Value} {l:List (Int × Int)} (h:OwnL base w v l) (hb:Below B w w') (hB:w.heap.size<=B):OwnL base w' v l:=j_ h hb hB
theorem OwnL.kept {base:Nat} {w w':World} {v:Value} {l:List (Int × Int)} {row:Option Nat} (h:OwnL base w v l) (hg:w.grownBy w' row) (hne:v.ownBlock=none\/v.ownBlock ≠ row):OwnL base w' v l:=World.ownsRow.kept h hg hne
theorem gH_ (x y:Int) (w:World):Calls Tryz.prog 175 #[.agg #[.int .i64 x,.int .i64 y]] w fun e w'=>e=.returned (.agg #[.int .i64 x,.int .i64 y])/\Below w.heap.size w w':=by
 go_enter Tryz.func175,Tryz.ntmps175
 go_wp2
 refine bodyPost_ret (v:=.agg #[.int .i64 x,.int .i64 y]) (by simp [results,Tryz.f175,go_sem]) rfl ?_
 exact ⟨rfl,((((br_ _ w).alloc (nr_ _) _).alloc (by simp) _).alloc (by simp;omega) _)⟩
theorem fe_ (v:Value) (l:List (Int × Int)) (w:World) (hr:RdL w v l) (hl:l.length<=4000000) :
  Calls Tryz.prog 155 #[v] w fun e w'=>∃ v',e=.returned v'/\OwnL w.heap.size w' v' l/\Below w.heap.size w w':=by
 obtain ⟨i0,hi,hz0,hz1,hz2⟩:=info_parts Tryz.infoLv
 rcases hr with ⟨a,cap,rfl,rfl,-⟩ | ⟨b,off,cap,h0,rfl,h1,h2,h3,h4⟩
 ·go_enter Tryz.func155,Tryz.ntmps155
  go_wp2_with (refine wpList_make_full _ rfl _ _ 184 rfl w.heap.size 214 i0 (.agg #[.int .i64 0,.int .i64 0]) 2 Tryz.underlying184 hi hz0 hz1 .i64 .i64 _ _ 0 rfl rfl rfl rfl (by omega) (by unfold maxLen;omega) (nr_ _) ?_;intro w1 hown hgrow)
  have hb1:Below w.heap.size w w1:=(br_ _ _).grown hgrow (nr_ _) (by intro k hk;cases hk)
  refine wp_loop_rounds 1 ?_
  rw [rounds_succ]
  go_wp2
  go_ret
  have ho':OwnL w.heap.size w1 (.slice (some ⟨w.heap.size,0,none⟩) 0 0) []:=by
   have e:=w_ (Value.agg #[.int .i64 0,.int .i64 0]).cells 2 0 rfl (by omega)
   rw [e] at hown
   exact hown
  exact ⟨_,rfl,ho',hb1⟩
 ·go_enter Tryz.func155,Tryz.ntmps155
  go_wp2_with (refine wpList_make_full _ rfl _ _ 184 rfl w.heap.size 214 i0 (.agg #[.int .i64 0,.int .i64 0]) 2 Tryz.underlying184 hi hz0 hz1 .i64 .i64 _ _ l.length rfl rfl rfl rfl (by rw [hz2];omega) (by unfold maxLen;omega) (nr_ _) ?_;intro w1 hown hgrow)
  have hb1:Below w.heap.size w w1:=(br_ _ _).grown hgrow (nr_ _) (by intro k hk;cases hk)
  go_loopw [4] (fun i wr=>∃ k:Nat,k<=l.length/\i=.int .i64 k/\wr.ownsRow w.heap.size 214 2 (.slice (some ⟨w.heap.size,0,none⟩) l.length l.length) l.length (part lvC [Value.int .i64 0,Value.int .i64 0] l k).flatten/\Below w.heap.size w wr)
   (fun i _=>l.length - (intOf i).toNat)
  case atStart =>
   refine ⟨0,Nat.zero_le _,rfl,?_,hb1⟩
   rw [av_]
   have e:=w_ (Value.agg #[.int .i64 0,.int .i64 0]).cells 2 l.length rfl (by omega)
   rw [e] at hown
   exact hown
  case round =>
   obtain ⟨k,hk,rfl,ho,hb⟩:=hrel
   clear hown hgrow hb1
   by_cases hlt:k < l.length
   ·obtain ⟨d1,d2⟩:=h4 k hlt
    have hc1:wr.cell? ⟨b,off+k * 2,none⟩=some (.int .i64 l[k].1):=(hb.cell (p:=⟨b,off+k * 2,none⟩) h3).trans d1
    have hc2:wr.cell? ⟨b,off+k * 2+1,none⟩=some (.int .i64 l[k].2):=(hb.cell (p:=⟨b,off+k * 2+1,none⟩) h3).trans d2
    have hli:(k:Int) < (l.length:Int):=by omega
    have Hput:=a_ (aQ_ (part lvC [Value.int .i64 0,Value.int .i64 0] l k) k (.int .i64 l[k].1) (.int .i64 l[k].2) (by rw [y_ _ _ _ _ hk];exact hlt) (fg_ l k))
    have Hnext:=a_ (au_ lvC [Value.int .i64 0,Value.int .i64 0] l k hlt)
    have Hz0:=a_ (i_ 2 (part lvC [Value.int .i64 0,Value.int .i64 0] l k) k 0 (by rw [y_ _ _ _ _ hk];exact hlt) (fg_ l k) (by omega))
    have Hz1:=a_ (i_ 2 (part lvC [Value.int .i64 0,Value.int .i64 0] l k) k 1 (by rw [y_ _ _ _ _ hk];exact hlt) (fg_ l k) (by omega))
    rw [aW_ _ _ _ _ hlt] at Hz0 Hz1
    have Hlv:Hid (lvC l[k]=[.int .i64 l[k].1,.int .i64 l[k].2]):=a_ rfl
    have hlb:w.heap.size < wr.heap.size:=((World.ownsRow.lt ho w.heap.size rfl)).2
    clear d1 d2 h4
    generalize l[k].1=x at hc1 Hput Hlv
    generalize l[k].2=y at hc2 Hput Hlv
    go_wp2_with (go_at_call 175;refine (gH_ _ _ _).mono ?_;rintro e w2 ⟨rfl,hb2⟩;have ho2:=j_ ho hb2 (nr_ _);have q0:=ho2.cellAt (k * 2) (by omega);have q1:=ho2.cellAt (k * 2+1) (by omega);have f0:=ho2.frozenAt (k * 2);have f1:=ho2.frozenAt (k * 2+1);rw [<- Nat.add_zero (k * 2),Hz0.out] at q0;rw [Hz1.out] at q1;rw [Nat.add_zero] at q0;simp only [gz_,gs_] at q0 q1)
    go_roundw
    case rel =>
     refine ⟨k+1,by omega,by go_num,?_,((hb.trans (hb2.mono hb.size)).setCell (p:=⟨w.heap.size,k * 2,none⟩) (nr_ _) _).setCell (p:=⟨w.heap.size,k * 2+1,none⟩) (nr_ _) _⟩
     have s1:=(ho2.stored (k * 2) (.int .i64 x)).1
     have s2:=(s1.stored (k * 2+1) (.int .i64 y)).1
     rw [Hput.out,<- Hlv.out,Hnext.out] at s2
     exact s2
    case measure=>simp [intOf];omega
   ·have e:k=l.length:=by omega
    subst e
    rw [aF_] at ho
    go_wp2
    go_ret
    exact ⟨_,rfl,ho,hb⟩
end Go.Proofs.YtamljhcmiphdgaaGreatDoor
