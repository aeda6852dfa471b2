/- The landed code's BlockOk. -/
import Derived.Test.YtamljhcmiphdgaaGreatDoorZvCtOkI
import Derived.Test.YtamljhcmiphdgaaGreatDoorZvTrSrch
set_option maxRecDepth 20000
set_option maxHeartbeats 4000000
namespace Go.Proofs.YtamljhcmiphdgaaGreatDoor
open Go.RowKit
open Go.RowKit Go.Sort
set_option linter.unusedVariables false
theorem C_ {P:Program} {f:FuncId} {args:Array Value} {w:World} {d:Nat} {os:Array Obj} {v:Value}
  (h:Calls P f args (grow (redrawn w d) os) fun e w'=>e=.returned v/\w'=grow (redrawn w d) os):Calls P f args (grow (redrawn w d) os) fun e w''=>e=.returned v/\∃ p:Regrown,w''=grow (redrawn w p.d) p.os :=
 h.mono fun _ _ ⟨he,hw⟩=>⟨he,⟨⟨d,os⟩,hw⟩⟩
theorem E_ (x a b:Int) (w:World) :
  Calls Tryz.prog 162 #[.int .i64 x,.int .i64 a,.int .i64 b] w fun e w'=>e=.returned (.bool (inB x a b))/\w'=w:=by
 by_cases h1:a<=x
 ·by_cases h2:x<=b
  ·have e:Hid (inB x a b=true):=a_ (by simp [inB,h1,h2])
   go_enter Tryz.func162,Tryz.ntmps162
   go_wp2
   go_ret
   rw [e.out];exact ⟨rfl,rfl⟩
  ·have e:Hid (inB x a b=false):=a_ (by simp [inB,h1,h2])
   go_enter Tryz.func162,Tryz.ntmps162
   go_wp2
   go_ret
   rw [e.out];exact ⟨rfl,rfl⟩
 ·have e:Hid (inB x a b=false):=a_ (by simp [inB,h1])
  go_enter Tryz.func162,Tryz.ntmps162
  go_wp2
  go_ret
  rw [e.out];exact ⟨rfl,rfl⟩
theorem fT_ (k am no:Int) (f tO:ByteArray) (w:World) :
  Calls Tryz.prog 183 #[.agg #[.int .i64 k,.string f,.string tO,.int .i64 am,.int .i64 no]] w fun e w'=>e=.returned (.agg #[.int .i64 k,.string f,.string (if k=1 then tO else { data:=#[] }),.int .i64 am,.int .i64 no])/\Below w.heap.size w w':=by
 by_cases h1:k=1
 ·rw [if_pos h1]
  subst h1
  go_enter Tryz.func183,Tryz.ntmps183
  go_wp2
  refine bodyPost_ret (v:=.agg #[.int .i64 1,.string f,.string tO,.int .i64 am,.int .i64 no]) (by simp [results,Tryz.f183,go_sem]) rfl ?_
  exact ⟨rfl,((br_ _ w).alloc (nr_ _) _).alloc (by simp) _⟩
 ·rw [if_neg h1]
  have hq:(k == 1)=false:=by rw [beq_eq_false_iff_ne];exact h1
  clear h1
  go_enter Tryz.func183,Tryz.ntmps183
  go_wp2
  refine bodyPost_ret (v:=.agg #[.int .i64 k,.string f,.string { data:=#[] },.int .i64 am,.int .i64 no]) (by simp [results,Tryz.f183,go_sem]) rfl ?_
  exact ⟨rfl,((br_ _ w).alloc (nr_ _) _).alloc (by simp) _⟩
theorem txB_is (k am no:Int) (f tO:ByteArray):txB (k,f,tO,am,no)=(inB k 1 3 && ((decide (k=1) || decide (tO=ByteArray.empty)) && ((!decide (k=1) || nmB tO) && (nmB f && (inB am 1 1000000 && inB no 0 10000))))):=by
 simp only [txB]
 by_cases h:k=1
 ·subst h
  simp only [if_pos,inB]
  cases nmB f <;> cases nmB tO <;> simp
 ·rw [if_neg h]
  have e:inB k 2 3=inB k 1 3:=by
   rw [Bool.eq_iff_iff]
   simp only [inB,decide_eq_true_eq]
   omega
  rw [e]
  cases inB k 1 3 <;> cases nmB f <;> cases inB am 1 1000000 <;> cases inB no 0 10000 <;> simp [h]
theorem bO_ (t:Tx5) (w:World) (hf:t.2.1.size<=maxLen) (ht:t.2.2.1.size<=maxLen) :
  Calls Tryz.prog 165 #[txV t] w fun e w'=>e=.returned (.bool (txB t))/\Below w.heap.size w w':=by
 obtain ⟨k,f,tO,am,no⟩:=t
 simp only [txV] at *
 obtain ⟨w0,hw0⟩:∃ w0,w.alloc (.cells #[.int .i64 k,.string f,.string tO,.int .i64 am,.int .i64 no] 59)=w0:=⟨_,rfl⟩
 have HB:Hid (Below w.heap.size w w0):=a_ (by rw [<- hw0];exact (br_ _ w).alloc (nr_ _) _)
 have hk:Blk w0 w.heap.size 59 [.int .i64 k,.string f,.string tO,.int .i64 am,.int .i64 no]:=by rw [<- hw0];exact heap_alloc_new w _
 have k0:=hk.cell 0
 have k1:=hk.cell 1
 have k2:=hk.cell 2
 have k3:=hk.cell 3
 have k4:=hk.cell 4
 simp only [gz_,gs_] at k0 k1 k2 k3 k4
 have g0:=cell_regrown k0
 have g1:=cell_regrown k1
 have g2:=cell_regrown k2
 have g3:=cell_regrown k3
 have g4:=cell_regrown k4
 clear hk
 have Hx:=a_ (txB_is k am no f tO)
 generalize txB (k,f,tO,am,no)=X at Hx
 have HO:=a_ (fun (d:Nat) (os:Array Obj)=>Calls.regrown_of (fT_ k am no f tO (grow (redrawn w0 d) os)))
 cases e0:inB k 1 3
 ·rw [e0,Bool.false_and] at Hx
  clear HO
  go_enter Tryz.func165,Tryz.ntmps165
  go_wp2
  clear k0 k1 k2 k3 k4
  refine wp_region_quiet_below (by kernel_rfl) (by kernel_rfl) ?_
  repeat (go_big_quiet_step ((first
     | (go_at_call 162;exact C_ (E_ _ _ _ _))
     | (go_at_call 183;exact HO.out _ _)
     | (go_at_call 133;exact C_ (m_ _ _ (by assumption))))))
  refine wpQuiet_nil ?_
  intro _ hw'
  obtain ⟨⟨dq,osq⟩,hw''⟩:=hw'
  subst hw''
  go_wp2
  go_ret
  exact ⟨b_ Hx.out.symm,HB.out.trans ((below_regrown w0 dq osq).mono HB.out.size)⟩
 ·rw [e0, Bool.true_and] at Hx
  by_cases hk1:k=1
  ·rw [if_pos hk1] at HO
   rw [decide_eq_true hk1,Bool.true_or,Bool.true_and,Bool.not_true,Bool.false_or] at Hx
   subst hk1
   cases e2:nmB tO
   ·rw [e2,Bool.false_and] at Hx
    go_enter Tryz.func165,Tryz.ntmps165
    go_wp2
    clear k0 k1 k2 k3 k4
    refine wp_region_quiet_below (by kernel_rfl) (by kernel_rfl) ?_
    repeat (go_big_quiet_step ((first
     | (go_at_call 162;exact C_ (E_ _ _ _ _))
     | (go_at_call 183;exact HO.out _ _)
     | (go_at_call 133;exact C_ (m_ _ _ (by assumption))))))
    refine wpQuiet_nil ?_
    intro _ hw'
    obtain ⟨⟨dq,osq⟩,hw''⟩:=hw'
    subst hw''
    go_wp2
    go_ret
    exact ⟨b_ Hx.out.symm,HB.out.trans ((below_regrown w0 dq osq).mono HB.out.size)⟩
   ·rw [e2,Bool.true_and] at Hx
    go_enter Tryz.func165,Tryz.ntmps165
    go_wp2
    clear k0 k1 k2 k3 k4
    refine wp_region_quiet_below (by kernel_rfl) (by kernel_rfl) ?_
    repeat (go_big_quiet_step ((first
     | (go_at_call 162;exact C_ (E_ _ _ _ _))
     | (go_at_call 183;exact HO.out _ _)
     | (go_at_call 133;exact C_ (m_ _ _ (by assumption))))))
    refine wpQuiet_nil ?_
    intro _ hw'
    obtain ⟨⟨dq,osq⟩,hw''⟩:=hw'
    subst hw''
    have HB1:Hid (Below w.heap.size w (grow (redrawn w0 dq) osq)):=a_ (HB.out.trans ((below_regrown w0 dq osq).mono HB.out.size))
    have k1:=g1 dq osq
    have k3:=g3 dq osq
    have k4:=g4 dq osq
    clear g0 g1 g2 g3 g4 HB HO
    generalize grow (redrawn w0 dq) osq=w1 at *
    cases e3:nmB f <;> cases e4:inB am 1 1000000 <;> simp only [e3,e4,Bool.true_and,Bool.false_and] at Hx
    all_goals
     go_wp2_with (first
      | (go_at_call 133;refine (m_ _ _ (by assumption)).mono ?_;rintro e w1 ⟨rfl,rfl⟩)
      | (go_at_call 162;refine (E_ _ _ _ _).mono ?_;rintro e w1 ⟨rfl,rfl⟩))
     go_ret
     exact ⟨b_ Hx.out.symm,HB1.out⟩
  ·rw [if_neg hk1] at HO
   rw [decide_eq_false hk1,Bool.false_or,Bool.not_false,Bool.true_or,Bool.true_and] at Hx
   have hkb:(k == 1)=false:=by rw [beq_eq_false_iff_ne];exact hk1
   clear hk1
   by_cases e2:tO=ByteArray.empty
   ·rw [decide_eq_true e2,Bool.true_and] at Hx
    subst e2
    go_enter Tryz.func165,Tryz.ntmps165
    go_wp2
    clear k0 k1 k2 k3 k4
    refine wp_region_quiet_below (by kernel_rfl) (by kernel_rfl) ?_
    repeat (go_big_quiet_step ((first
     | (go_at_call 162;exact C_ (E_ _ _ _ _))
     | (go_at_call 183;exact HO.out _ _)
     | (go_at_call 133;exact C_ (m_ _ _ (by assumption))))))
    refine wpQuiet_nil ?_
    intro _ hw'
    obtain ⟨⟨dq,osq⟩,hw''⟩:=hw'
    subst hw''
    have HB1:Hid (Below w.heap.size w (grow (redrawn w0 dq) osq)):=a_ (HB.out.trans ((below_regrown w0 dq osq).mono HB.out.size))
    have k1:=g1 dq osq
    have k3:=g3 dq osq
    have k4:=g4 dq osq
    clear g0 g1 g2 g3 g4 HB HO
    generalize grow (redrawn w0 dq) osq=w1 at *
    cases e3:nmB f <;> cases e4:inB am 1 1000000 <;> simp only [e3,e4,Bool.true_and,Bool.false_and] at Hx
    all_goals
     go_wp2_with (first
      | (go_at_call 133;refine (m_ _ _ (by assumption)).mono ?_;rintro e w1 ⟨rfl,rfl⟩)
      | (go_at_call 162;refine (E_ _ _ _ _).mono ?_;rintro e w1 ⟨rfl,rfl⟩))
     go_ret
     exact ⟨b_ Hx.out.symm,HB1.out⟩
   ·rw [decide_eq_false e2,Bool.false_and] at Hx
    have hne:tO.toList.isEmpty=false:=by
     cases h:tO.toList.isEmpty
     ·rfl
     ·exact absurd (cm_ (List.isEmpty_iff.1 h)) e2
    clear e2
    go_enter Tryz.func165,Tryz.ntmps165
    go_wp2
    clear k0 k1 k2 k3 k4
    refine wp_region_quiet_below (by kernel_rfl) (by kernel_rfl) ?_
    repeat (go_big_quiet_step ((first
     | (go_at_call 162;exact C_ (E_ _ _ _ _))
     | (go_at_call 183;exact HO.out _ _)
     | (go_at_call 133;exact C_ (m_ _ _ (by assumption))))))
    refine wpQuiet_nil ?_
    intro _ hw'
    obtain ⟨⟨dq,osq⟩,hw''⟩:=hw'
    subst hw''
    go_wp2
    go_ret
    exact ⟨b_ Hx.out.symm,HB.out.trans ((below_regrown w0 dq osq).mono HB.out.size)⟩
open Go.RowKit Go.Sort
theorem eY_ (r:Int) (vw vh:Value) (ws:List ByteArray) (hs:List Int) (w:World) (hrw:RdS w vw ws) (hrh:RdI w vh hs) (hlw:ws.length<=4000000) (hlh:hs.length<=4000000) :
  Calls Tryz.prog 181 #[tcV r vw vh] w fun e w'=>e=.returned (.bool (noneB r ws hs))/\Below w.heap.size w w':=by
 obtain ⟨a,c,rfl⟩:=hrw.shape
 obtain ⟨a2,c2,rfl⟩:=hrh.shape
 clear hrw hrh
 simp only [tcV]
 have HB:=a_ ((br_ _ w).alloc (nr_ _) (.cells #[.int .i64 r,.slice a ws.length c,.slice a2 hs.length c2] 49))
 by_cases h1:r=0
 ·by_cases h2:ws.length=0
  ·by_cases h3:hs.length=0
   ·have Hf:Hid (noneB r ws hs=true):=a_ (by unfold noneB;rw [decide_eq_true h1,decide_eq_true h2,decide_eq_true h3];rfl)
    have h2i:((ws.length:Int) == 0)=true:=by rw [beq_iff_eq];omega
    have h3i:((hs.length:Int) == 0)=true:=by rw [beq_iff_eq];omega
    subst h1
    generalize noneB 0 ws hs=X at Hf ⊢
    clear h2 h3
    go_enter Tryz.func181,Tryz.ntmps181
    go_wp2
    go_ret
    exact ⟨b_ Hf.out.symm,HB.out⟩
   ·have Hf:Hid (noneB r ws hs=false):=a_ (by unfold noneB;rw [decide_eq_false h3,Bool.and_false,Bool.and_false])
    have h2i:((ws.length:Int) == 0)=true:=by rw [beq_iff_eq];omega
    have h3i:((hs.length:Int) == 0)=false:=by rw [beq_eq_false_iff_ne];omega
    subst h1
    generalize noneB 0 ws hs=X at Hf ⊢
    clear h2 h3
    go_enter Tryz.func181,Tryz.ntmps181
    go_wp2
    go_ret
    exact ⟨b_ Hf.out.symm,HB.out⟩
  ·have Hf:Hid (noneB r ws hs=false):=a_ (by unfold noneB;rw [decide_eq_false h2,Bool.false_and,Bool.and_false])
   have h2i:((ws.length:Int) == 0)=false:=by rw [beq_eq_false_iff_ne];omega
   subst h1
   generalize noneB 0 ws hs=X at Hf ⊢
   clear h2
   go_enter Tryz.func181,Tryz.ntmps181
   go_wp2
   go_ret
   exact ⟨b_ Hf.out.symm,HB.out⟩
 ·have Hf:Hid (noneB r ws hs=false):=a_ (by unfold noneB;rw [decide_eq_false h1,Bool.false_and])
  have h1i:(r == 0)=false:=by rw [beq_eq_false_iff_ne];exact h1
  generalize noneB r ws hs=X at Hf ⊢
  clear h1
  go_enter Tryz.func181,Tryz.ntmps181
  go_wp2
  go_ret
  exact ⟨b_ Hf.out.symm,HB.out⟩
theorem eM_ (tr:Int) (vw vh:Value) (tw:List ByteArray) (th:List Int) (w:World) (hw:RdS w vw tw) (hh:RdI w vh th) (hlw:tw.length<=4000000) (hlh:th.length<=4000000) (h1:1<=tr) (h2:tr<=9223372036854775807) :
  Calls Tryz.prog 182 #[tcV tr vw vh] w fun e w'=>e=.returned (.bool (decide (th.length=tw.length) && hisB tr th))/\Below w.heap.size w w':=by
 obtain ⟨aw,cw,rfl⟩:=hw.shape
 obtain ⟨ah,ch,rfl⟩:=hh.shape
 have HX:Hid ((decide (th.length=tw.length) && hisB tr th)=(hisB tr th && decide (th.length=tw.length))):=a_ (Bool.and_comm _ _)
 generalize (decide (th.length=tw.length) && hisB tr th)=X at HX ⊢
 simp only [tcV]
 obtain ⟨w1,hw1⟩:∃ x,w.alloc (.cells #[.int .i64 tr,.slice aw tw.length cw,.slice ah th.length ch] 49)=x:=⟨_,rfl⟩
 have b1:Below w.heap.size w w1:=by rw [<- hw1];exact (br_ _ w).alloc (nr_ _) _
 have k1:Blk w1 w.heap.size 49 [.int .i64 tr,.slice aw tw.length cw,.slice ah th.length ch]:=by rw [<- hw1];exact Blk.new w _ _
 have Hh:=a_ hh
 have K1:=a_ k1
 have HB1:=a_ b1
 have x2:=k1.cell 2
 simp only [gz_,gs_] at x2
 have hwr:IntKind.i64.wrap (tr - 1)=tr - 1:=by rw [IntKind.wrap_i64];omega
 clear hw hh k1 b1 h1 h2
 go_enter Tryz.func182,Tryz.ntmps182
 go_wp2
 clear x2 hw1
 go_loopw [8] (fun iv wr=>∃ i:Nat,i<=th.length/\iv=.int .i64 (i:Int)/\(∀ j (hj:j < th.length),j < i->inB th[j] 0 (tr - 1)=true)/\Below w1.heap.size w1 wr) (fun iv _=>th.length - (intOf iv).toNat)
 case atStart=>exact ⟨0,Nat.zero_le _,rfl,fun j _ hj=>by omega,br_ _ _⟩
 case round =>
  obtain ⟨i,hi,rfl,hok,hb⟩:=hrel
  have kr:=K1.out.below hb K1.out.lt
  have t0:=kr.cell 0
  have t1:=kr.cell 1
  have t2:=kr.cell 2
  simp only [gz_,gs_] at t0 t1 t2
  have Hok:=a_ hok
  have HBr:=a_ (HB1.out.trans (hb.mono HB1.out.size))
  clear hok kr
  by_cases hlt:i < th.length
  ·obtain ⟨bh,oh,rfl,hc1,hc2,hbh,hch⟩:=Hh.out.at hlt
   have c0:=(HBr.out.cell (p:=⟨bh,oh+i,none⟩) hbh).trans hch
   have hli:(i:Int) < (th.length:Int):=by omega
   have Hno:=a_ (da_ tr th i hlt)
   have Hnx:Hid (inB th[i] 0 (tr - 1)=true->∀ j (hj:j < th.length),j < i+1->inB th[j] 0 (tr - 1)=true):=a_ (fun h j hj hji=>by
    by_cases e:j=i
    ·subst e;exact h
    ·exact Hok.out j hj (by omega))
   generalize th[i]=x at c0 hch Hno Hnx
   have Hb:=a_ hb
   clear hb hch
   cases hx:inB x 0 (tr - 1)
   ·have Hf:=a_ (HX.out.trans (by rw [Hno.out hx,Bool.false_and]))
    have HI:=a_ (fun W=>f_ x 0 (tr - 1) W)
    rw [hx] at HI
    clear hx Hnx
    go_wp2_with (go_at_call 162;refine (HI.out _).mono ?_;rintro e w4 ⟨rfl,rfl⟩)
    go_ret
    exact ⟨b_ Hf.out.symm,HBr.out⟩
   ·have Hnx:=a_ (Hnx.out hx)
    have HI:=a_ (fun W=>f_ x 0 (tr - 1) W)
    rw [hx] at HI
    clear hx Hno
    go_wp2_with (go_at_call 162;refine (HI.out _).mono ?_;rintro e w4 ⟨rfl,rfl⟩)
    go_roundw
    case rel=>exact ⟨i+1,by omega,by go_num,Hnx.out,Hb.out⟩
    case measure=>simp [intOf];omega
  ·have Hy:=cg_ tr th (fun j hj=>Hok.out j hj (by omega))
   clear hb
   by_cases hlen:th.length=tw.length
   ·have Hf:=a_ (HX.out.trans (by rw [Hy,Bool.true_and,decide_eq_true hlen]))
    have hli:((th.length:Int) == (tw.length:Int))=true:=by rw [hlen];simp
    clear hlen Hy
    go_wp2
    go_ret
    exact ⟨b_ Hf.out.symm,HBr.out⟩
   ·have Hf:=a_ (HX.out.trans (by rw [Hy,Bool.true_and,decide_eq_false hlen]))
    have hli:((th.length:Int) == (tw.length:Int))=false:=by rw [beq_eq_false_iff_ne];omega
    clear hlen Hy
    go_wp2
    go_ret
    exact ⟨b_ Hf.out.symm,HBr.out⟩
def h9B (b:Bk):Bool:=inB b.id 0 100000 && (inB b.ep 0 900 && (inB b.rd 1 10000 && nmB b.md))
theorem eZ_ (b:Bk) (v:Bv) (w:World) (hr:RdK w b v) (hf:FewK b) :
  Calls Tryz.prog 197 #[bkV b v] w fun e w'=>e=.returned (.bool (h9B b))/\Below w.heap.size w w':=by
 have HM:=a_ (fun V=>m_ b.md V hf.ms)
 have HX:Hid (h9B b=(inB b.id 0 100000 && (inB b.ep 0 900 && (inB b.rd 1 10000 && nmB b.md)))):=a_ rfl
 generalize h9B b=X at HX ⊢
 clear hf
 obtain ⟨id,ep,rd,mk,qr,qb,qw,tr,tw,th,ts,en,nx,rt⟩:=b
 obtain ⟨vq,vw,vh,vt,vn⟩:=v
 obtain ⟨hq,hw,hh,ht,hn⟩:=hr
 simp only [bkV] at *
 obtain ⟨aq,cq,rfl⟩:=hq.shape
 obtain ⟨aw,cw,rfl⟩:=hw.shape
 obtain ⟨ah,ch,rfl⟩:=hh.shape
 obtain ⟨at_,ct,rfl⟩:=ht.shape
 obtain ⟨an,cn,rfl⟩:=hn.shape
 obtain ⟨w1,hw1⟩:∃ x,w.alloc (.cells #[.int .i64 id,.int .i64 ep,.int .i64 rd,.string mk,.int .i64 qr,.int .i64 qb,.slice aq qw.length cq,.int .i64 tr,.slice aw tw.length cw,.slice ah th.length ch,.slice at_ ts.length ct,.bool en,.slice an nx.length cn,.string rt] 146)=x:=⟨_,rfl⟩
 have b1:Below w.heap.size w w1:=by rw [<- hw1];exact (br_ _ w).alloc (nr_ _) _
 have k1:Blk w1 w.heap.size 146 [.int .i64 id,.int .i64 ep,.int .i64 rd,.string mk,.int .i64 qr,.int .i64 qb,.slice aq qw.length cq,.int .i64 tr,.slice aw tw.length cw,.slice ah th.length ch,.slice at_ ts.length ct,.bool en,.slice an nx.length cn,.string rt]:=by rw [<- hw1];exact Blk.new w _ _
 have K1:=a_ k1
 have HB1:=a_ b1
 have x0:=k1.cell 0
 have x1:=k1.cell 1
 have x2:=k1.cell 2
 have x3:=k1.cell 3
 simp only [gz_,gs_] at x0 x1 x2 x3
 clear hq hw hh ht hn k1 b1
 generalize nmB mk=M0 at HX HM
 cases h1:inB id 0 100000
 ·rw [h1,Bool.false_and] at HX
  go_enter Tryz.func197,Tryz.ntmps197
  go_wp2_with (go_at_call 162;refine (f_ _ _ _ _).mono ?_;rintro e w4 ⟨rfl,rfl⟩)
  go_ret
  exact ⟨b_ HX.out.symm,HB1.out⟩
 ·rw [h1,Bool.true_and] at HX
  cases h2:inB ep 0 900
  ·rw [h2,Bool.false_and] at HX
   go_enter Tryz.func197,Tryz.ntmps197
   go_wp2_with (go_at_call 162;refine (f_ _ _ _ _).mono ?_;rintro e w4 ⟨rfl,rfl⟩)
   go_ret
   exact ⟨b_ HX.out.symm,HB1.out⟩
  ·rw [h2,Bool.true_and] at HX
   cases h3:inB rd 1 10000
   ·rw [h3,Bool.false_and] at HX
    go_enter Tryz.func197,Tryz.ntmps197
    go_wp2_with (go_at_call 162;refine (f_ _ _ _ _).mono ?_;rintro e w4 ⟨rfl,rfl⟩)
    go_ret
    exact ⟨b_ HX.out.symm,HB1.out⟩
   ·rw [h3,Bool.true_and] at HX
    go_enter Tryz.func197,Tryz.ntmps197
    go_wp2_with (first
     | (go_at_call 162;refine (f_ _ _ _ _).mono ?_;rintro e w4 ⟨rfl,rfl⟩)
     | (go_at_call 133;refine (HM.out _).mono ?_;rintro e w5 ⟨rfl,rfl⟩))
    go_ret
    exact ⟨b_ HX.out.symm,HB1.out⟩
def qcF (qr qb:Int) (qw:List ByteArray) (lr lb:Int):Bool:=rootB qr qb qw || (inB qr 1 lr && (inB qb 0 lb && nmsB qw))
theorem dH_ (qr qb lr lb:Int) (vq:Value) (qw:List ByteArray) (w:World) (hq:RdS w vq qw) (hlq:qw.length<=4000000) (hsq:∀ s ∈ qw,s.size<=maxLen) :
  Calls Tryz.prog 198 #[qcV qr qb vq,.int .i64 lr,.int .i64 lb] w fun e w'=>e=.returned (.bool (qcF qr qb qw lr lb))/\Below w.heap.size w w':=by
 have HX:Hid (qcF qr qb qw lr lb=(rootB qr qb qw || (inB qr 1 lr && (inB qb 0 lb && nmsB qw)))):=a_ rfl
 generalize qcF qr qb qw lr lb=X at HX ⊢
 obtain ⟨aq,cq,rfl⟩:=hq.shape
 simp only [qcV]
 obtain ⟨w1,hw1⟩:∃ x,w.alloc (.cells #[.int .i64 qr,.int .i64 qb,.slice aq qw.length cq] 48)=x:=⟨_,rfl⟩
 have b1:Below w.heap.size w w1:=by rw [<- hw1];exact (br_ _ w).alloc (nr_ _) _
 have k1:Blk w1 w.heap.size 48 [.int .i64 qr,.int .i64 qb,.slice aq qw.length cq]:=by rw [<- hw1];exact Blk.new w _ _
 have K1:=a_ k1
 have HB1:=a_ b1
 have HR:=a_ (ad_ qr qb (.slice aq qw.length cq) qw w1 (hq.below b1 (nr_ _)) hlq)
 have HN:=a_ (fun V (hV:Below w.heap.size w V)=>aj_ (.slice aq qw.length cq) qw V (hq.below hV (nr_ _)) hlq hsq)
 generalize rootB qr qb qw=R0 at HX HR
 generalize nmsB qw=N0 at HX HN
 simp only [qcV] at HR
 have x0:=k1.cell 0
 have x1:=k1.cell 1
 have x2:=k1.cell 2
 simp only [gz_,gs_] at x0 x1 x2
 clear hq k1 b1 hsq
 go_enter Tryz.func198,Tryz.ntmps198
 go_wp2_with fail
 refine HR.out.mono ?_
 rintro e w3 ⟨rfl,hb3⟩
 have hB3:=HB1.out.trans (hb3.mono HB1.out.size)
 have k3:=K1.out.below hb3 K1.out.lt
 have HN3:=a_ (HN.out w3 hB3)
 clear x0 x1 x2 HN hw1
 have y0:=k3.cell 0
 have y1:=k3.cell 1
 have y2:=k3.cell 2
 simp only [gz_,gs_] at y0 y1 y2
 have HB3:=a_ hB3
 clear k3 hb3 hB3
 cases R0
 ·rw [Bool.false_or] at HX
  cases h1:inB qr 1 lr
  ·rw [h1,Bool.false_and] at HX
   go_wp2_with (go_at_call 162;refine (f_ _ _ _ _).mono ?_;rintro e w4 ⟨rfl,rfl⟩)
   go_ret
   exact ⟨b_ HX.out.symm,HB3.out⟩
  ·rw [h1,Bool.true_and] at HX
   cases h2:inB qb 0 lb
   ·rw [h2,Bool.false_and] at HX
    go_wp2_with (go_at_call 162;refine (f_ _ _ _ _).mono ?_;rintro e w4 ⟨rfl,rfl⟩)
    go_ret
    exact ⟨b_ HX.out.symm,HB3.out⟩
   ·rw [h2,Bool.true_and] at HX
    go_wp2_with (first
     | (go_at_call 162;refine (f_ _ _ _ _).mono ?_;rintro e w4 ⟨rfl,rfl⟩)
     | (go_at_call 192;refine HN3.out.mono ?_;rintro e w5 ⟨rfl,rfl⟩))
    go_ret
    exact ⟨b_ HX.out.symm,HB3.out⟩
 ·rw [Bool.true_or] at HX
  go_wp2
  go_ret
  exact ⟨b_ HX.out.symm,HB3.out⟩
def tcF (tr:Int) (tw:List ByteArray) (th:List Int) (lr:Int):Bool:=noneB tr tw th || (inB tr 1 lr && (nmsB tw && (decide (th.length=tw.length) && hisB tr th)))
theorem dA_ (tr lr:Int) (vw vh:Value) (tw:List ByteArray) (th:List Int) (w:World) (hw:RdS w vw tw) (hh:RdI w vh th) (hlw:tw.length<=4000000) (hlh:th.length<=4000000) (hsw:∀ s ∈ tw,s.size<=maxLen) (hbd:tr<=9223372036854775807) :
  Calls Tryz.prog 199 #[tcV tr vw vh,.int .i64 lr] w fun e w'=>e=.returned (.bool (tcF tr tw th lr))/\Below w.heap.size w w':=by
 have HX:Hid (tcF tr tw th lr=(noneB tr tw th || (inB tr 1 lr && (nmsB tw && (decide (th.length=tw.length) && hisB tr th))))):=a_ rfl
 generalize tcF tr tw th lr=X at HX ⊢
 obtain ⟨aw,cw,rfl⟩:=hw.shape
 obtain ⟨ah,ch,rfl⟩:=hh.shape
 simp only [tcV]
 obtain ⟨w1,hw1⟩:∃ x,w.alloc (.cells #[.int .i64 tr,.slice aw tw.length cw,.slice ah th.length ch] 49)=x:=⟨_,rfl⟩
 have b1:Below w.heap.size w w1:=by rw [<- hw1];exact (br_ _ w).alloc (nr_ _) _
 have k1:Blk w1 w.heap.size 49 [.int .i64 tr,.slice aw tw.length cw,.slice ah th.length ch]:=by rw [<- hw1];exact Blk.new w _ _
 have K1:=a_ k1
 have HB1:=a_ b1
 have HR:=a_ (eY_ tr (.slice aw tw.length cw) (.slice ah th.length ch) tw th w1 (hw.below b1 (nr_ _)) (hh.below b1 (nr_ _)) hlw hlh)
 have HN:=a_ (fun V (hV:Below w.heap.size w V)=>aj_ (.slice aw tw.length cw) tw V (hw.below hV (nr_ _)) hlw hsw)
 have HH:=a_ (fun (h1:1<=tr) V (hV:Below w.heap.size w V)=>eM_ tr (.slice aw tw.length cw) (.slice ah th.length ch) tw th V (hw.below hV (nr_ _)) (hh.below hV (nr_ _)) hlw hlh h1 hbd)
 generalize noneB tr tw th=R0 at HX HR
 generalize nmsB tw=N0 at HX HN
 generalize (decide (th.length=tw.length) && hisB tr th)=G0 at HX HH
 simp only [tcV] at HR HH
 have x0:=k1.cell 0
 have x1:=k1.cell 1
 have x2:=k1.cell 2
 simp only [gz_,gs_] at x0 x1 x2
 clear hw hh k1 b1 hsw
 go_enter Tryz.func199,Tryz.ntmps199
 go_wp2_with fail
 refine HR.out.mono ?_
 rintro e w3 ⟨rfl,hb3⟩
 have hB3:=HB1.out.trans (hb3.mono HB1.out.size)
 have k3:=K1.out.below hb3 K1.out.lt
 have HN3:=a_ (HN.out w3 hB3)
 clear x0 x1 x2 HN hw1
 have y0:=k3.cell 0
 have y1:=k3.cell 1
 have y2:=k3.cell 2
 simp only [gz_,gs_] at y0 y1 y2
 have HB3:=a_ hB3
 clear k3 hb3 hB3
 cases R0
 ·rw [Bool.false_or] at HX
  cases h1:inB tr 1 lr
  ·rw [h1,Bool.false_and] at HX
   go_wp2_with (go_at_call 162;refine (f_ _ _ _ _).mono ?_;rintro e w4 ⟨rfl,rfl⟩)
   go_ret
   exact ⟨b_ HX.out.symm,HB3.out⟩
  ·rw [h1,Bool.true_and] at HX
   have Hr1:Hid (1<=tr):=a_ (by unfold inB at h1;simp at h1;exact h1.1)
   have HH3:=a_ (HH.out Hr1.out w3 HB3.out)
   cases N0
   ·rw [Bool.false_and] at HX
    go_wp2_with (first
     | (go_at_call 162;refine (f_ _ _ _ _).mono ?_;rintro e w4 ⟨rfl,rfl⟩)
     | (go_at_call 192;refine HN3.out.mono ?_;rintro e w5 ⟨rfl,rfl⟩))
    go_ret
    exact ⟨b_ HX.out.symm,HB3.out⟩
   ·rw [Bool.true_and] at HX
    go_wp2_with (first
     | (go_at_call 162;refine (f_ _ _ _ _).mono ?_;rintro e w4 ⟨rfl,rfl⟩)
     | (go_at_call 192;refine HN3.out.mono ?_;rintro e w5 ⟨rfl,rfl⟩)
     | (go_at_call 182;refine HH3.out.mono ?_;rintro e w6 ⟨rfl,hb6⟩))
    go_ret
    exact ⟨b_ HX.out.symm,HB3.out.trans (hb6.mono HB3.out.size)⟩
 ·rw [Bool.true_or] at HX
  go_wp2
  go_ret
  exact ⟨b_ HX.out.symm,HB3.out⟩
theorem gv_ (v:Value) (ts:List Tx5) (w:World) (hr:RdT w v ts) (hl:ts.length<=4000000) (hs:∀ t ∈ ts,t.2.1.size<=maxLen/\t.2.2.1.size<=maxLen) :
  Calls Tryz.prog 200 #[v] w fun e w'=>e=.returned (.bool (decide (ts.length<=4) && ts.all txB))/\Below w.heap.size w w':=by
 obtain ⟨X,hX⟩:∃ X,X=(decide (ts.length<=4) && ts.all txB):=⟨_,rfl⟩
 rw [<- hX]
 have HX:=a_ hX
 clear hX
 obtain ⟨at_,ct,rfl⟩:=hr.shape
 have Ht:=a_ hr
 have Hs:=a_ hs
 clear hr hs
 by_cases h4:ts.length<=4
 ·rw [decide_eq_true h4,Bool.true_and] at HX
  have h4i:¬ (4:Int) < (ts.length:Int):=by omega
  go_enter Tryz.func200,Tryz.ntmps200
  go_wp2
  go_loopw [10] (fun iv wr=>∃ i:Nat,i<=ts.length/\iv=.int .i64 (i:Int)/\(∀ j (hj:j < ts.length),j < i->txB ts[j]=true)/\Below w.heap.size w wr) (fun iv _=>ts.length - (intOf iv).toNat)
  case atStart=>exact ⟨0,Nat.zero_le _,rfl,fun j _ hj=>by omega,br_ _ _⟩
  case round =>
   obtain ⟨i,hi,rfl,hok,hb⟩:=hrel
   have Hok:=a_ hok
   clear hok
   by_cases hlt:i < ts.length
   ·obtain ⟨bt,ot,rfl,hc1,hc2,hbt,hat⟩:=Ht.out.at9 hlt
    have hli:(i:Int) < (ts.length:Int):=by omega
    have hat':=hat.below hb hbt
    have hsz:=Hs.out ts[i] (List.getElem_mem _)
    have HO:=a_ (fun V=>bO_ ts[i] V hsz.1 hsz.2)
    have Hno:=a_ (jr_ ts i hlt)
    have Hnx:Hid (txB ts[i]=true->∀ j (hj:j < ts.length),j < i+1->txB ts[j]=true):=a_ (fun h j hj hji=>by
     by_cases e:j=i
     ·subst e;exact h
     ·exact Hok.out j hj (by omega))
    generalize ts[i]=tx at hat hat' HO Hno Hnx hsz
    obtain ⟨c0,c1,c2,c3,c4⟩:=hat'
    obtain ⟨kd,fr,tn9,am,no⟩:=tx
    simp only [txV] at HO c0 c1 c2 c3 c4
    obtain ⟨w1,hw1⟩:∃ x,wr.alloc (.cells #[.int .i64 kd,.string fr,.string tn9,.int .i64 am,.int .i64 no] 59)=x:=⟨_,rfl⟩
    have b1:Below w.heap.size w w1:=by rw [<- hw1];exact hb.alloc hb.size _
    have k1:Blk w1 wr.heap.size 59 [.int .i64 kd,.string fr,.string tn9,.int .i64 am,.int .i64 no]:=by rw [<- hw1];exact Blk.new wr _ _
    have x0:=k1.cell 0
    have x1:=k1.cell 1
    have x2:=k1.cell 2
    have x3:=k1.cell 3
    have x4:=k1.cell 4
    simp only [gz_,gs_] at x0 x1 x2 x3 x4
    have HB1:=a_ b1
    clear hat hb hsz b1 k1
    cases hx:txB (kd,fr,tn9,am,no)
    ·have Hfl:=a_ (HX.out.trans (Hno.out hx))
     rw [hx] at HO
     clear hx Hnx
     go_wp2_with fail
     refine (HO.out _).mono ?_
     rintro e w6 ⟨rfl,hb6⟩
     have HB6:=a_ (HB1.out.trans (hb6.mono HB1.out.size))
     clear hb6 c0 c1 c2 c3 c4 x0 x1 x2 x3 x4
     go_wp2
     go_ret
     exact ⟨b_ Hfl.out.symm,HB6.out⟩
    ·have Hnx:=a_ (Hnx.out hx)
     rw [hx] at HO
     clear hx Hno
     go_wp2_with fail
     refine (HO.out _).mono ?_
     rintro e w6 ⟨rfl,hb6⟩
     have HB6:=a_ (HB1.out.trans (hb6.mono HB1.out.size))
     clear hb6 c0 c1 c2 c3 c4 x0 x1 x2 x3 x4
     go_wp2
     go_roundw
     case rel=>exact ⟨i+1,by omega,by go_num,Hnx.out,HB6.out⟩
     case measure=>simp [intOf];omega
   ·have Hfl:=a_ (HX.out.trans (hc_ ts (fun j hj=>Hok.out j hj (by omega))))
    have Hb:=a_ hb
    clear hb
    go_wp2
    go_ret
    exact ⟨b_ Hfl.out.symm,Hb.out⟩
 ·rw [decide_eq_false h4,Bool.false_and] at HX
  have h4i:(4:Int) < (ts.length:Int):=by omega
  go_enter Tryz.func200,Tryz.ntmps200
  go_wp2
  go_ret
  exact ⟨b_ HX.out.symm,br_ _ _⟩
theorem gL_ (b:Bk) (v:Bv) (w:World) (hr:RdK w b v) (hf:FewK b) :
  Calls Tryz.prog 201 #[bkV b v] w fun e w'=>e=.returned (.bool (e9B b))/\Below w.heap.size w w':=by
 have hfn:=hf.n
 have hfs:=hf.ns
 have HE:Hid (e9B b=if b.en=true then setB b.nx && decide (b.rt.size=32) else decide (b.nx.length=0) && decide (b.rt=⟨#[]⟩)):=a_ rfl
 generalize e9B b=X at HE ⊢
 clear hf
 obtain ⟨id,ep,rd,mk,qr,qb,qw,tr,tw,th,ts,en,nx,rt⟩:=b
 obtain ⟨vq,vw,vh,vt,vn⟩:=v
 obtain ⟨hq,hw,hh,ht,hn⟩:=hr
 simp only [bkV] at *
 obtain ⟨aq,cq,rfl⟩:=hq.shape
 obtain ⟨aw,cw,rfl⟩:=hw.shape
 obtain ⟨ah,ch,rfl⟩:=hh.shape
 obtain ⟨at_,ct,rfl⟩:=ht.shape
 obtain ⟨an,cn,rfl⟩:=hn.shape
 obtain ⟨w1,hw1⟩:∃ x,w.alloc (.cells #[.int .i64 id,.int .i64 ep,.int .i64 rd,.string mk,.int .i64 qr,.int .i64 qb,.slice aq qw.length cq,.int .i64 tr,.slice aw tw.length cw,.slice ah th.length ch,.slice at_ ts.length ct,.bool en,.slice an nx.length cn,.string rt] 146)=x:=⟨_,rfl⟩
 have b1:Below w.heap.size w w1:=by rw [<- hw1];exact (br_ _ w).alloc (nr_ _) _
 have k1:Blk w1 w.heap.size 146 [.int .i64 id,.int .i64 ep,.int .i64 rd,.string mk,.int .i64 qr,.int .i64 qb,.slice aq qw.length cq,.int .i64 tr,.slice aw tw.length cw,.slice ah th.length ch,.slice at_ ts.length ct,.bool en,.slice an nx.length cn,.string rt]:=by rw [<- hw1];exact Blk.new w _ _
 have K1:=a_ k1
 have HB1:=a_ b1
 have HS:=a_ (bA_ (.slice an nx.length cn) nx w1 (hn.below b1 (nr_ _)) hfn hfs)
 have x11:=k1.cell 11
 have x12:=k1.cell 12
 have x13:=k1.cell 13
 simp only [gz_,gs_] at x11 x12 x13
 clear hq hw hh ht hn k1 b1 hfs
 cases en
 ·rw [if_neg (by simp)] at HE
  by_cases h5:nx.length=0
  ·have h5i:((nx.length:Int) == 0)=true:=by rw [beq_iff_eq];omega
   by_cases h6:rt=⟨#[]⟩
   ·have Hfl:=a_ (HE.out.trans (by rw [decide_eq_true h5,decide_eq_true h6,Bool.true_and]))
    subst h6
    clear h5 HE
    go_enter Tryz.func201,Tryz.ntmps201
    go_wp2
    go_ret
    exact ⟨b_ Hfl.out.symm,HB1.out⟩
   ·have Hfl:=a_ (HE.out.trans (by rw [decide_eq_false h6,Bool.and_false]))
    have h6b:=iW_ h6
    clear h5 h6 HE
    go_enter Tryz.func201,Tryz.ntmps201
    go_wp2
    go_ret
    exact ⟨b_ Hfl.out.symm,HB1.out⟩
  ·have Hfl:=a_ (HE.out.trans (by rw [decide_eq_false h5,Bool.false_and]))
   have h5i:((nx.length:Int) == 0)=false:=by rw [beq_eq_false_iff_ne];omega
   clear h5 HE
   go_enter Tryz.func201,Tryz.ntmps201
   go_wp2
   go_ret
   exact ⟨b_ Hfl.out.symm,HB1.out⟩
 ·rw [if_pos rfl] at HE
  generalize setB nx=S0 at HE HS
  cases S0
  ·have Hfl:=a_ (HE.out.trans (by rw [Bool.false_and]))
   clear HE
   go_enter Tryz.func201,Tryz.ntmps201
   go_wp2_with (go_at_call 159;refine HS.out.mono ?_;rintro e w7 ⟨rfl,hb7⟩)
   go_ret
   exact ⟨b_ Hfl.out.symm,HB1.out.trans (hb7.mono HB1.out.size)⟩
  ·by_cases h8:rt.size=32
   ·have Hfl:=a_ (HE.out.trans (by rw [decide_eq_true h8,Bool.true_and]))
    have h8i:((rt.size:Int) == 32)=true:=by rw [beq_iff_eq];omega
    clear h8 HE
    go_enter Tryz.func201,Tryz.ntmps201
    go_wp2_with (go_at_call 159;refine HS.out.mono ?_;rintro e w7 ⟨rfl,hb7⟩;have k7:=K1.out.below hb7 K1.out.lt;have u13:=k7.cell 13;simp only [gz_,gs_] at u13)
    go_ret
    exact ⟨b_ Hfl.out.symm,HB1.out.trans (hb7.mono HB1.out.size)⟩
   ·have Hfl:=a_ (HE.out.trans (by rw [decide_eq_false h8,Bool.true_and]))
    have h8i:((rt.size:Int) == 32)=false:=by rw [beq_eq_false_iff_ne];omega
    clear h8 HE
    go_enter Tryz.func201,Tryz.ntmps201
    go_wp2_with (go_at_call 159;refine HS.out.mono ?_;rintro e w7 ⟨rfl,hb7⟩;have k7:=K1.out.below hb7 K1.out.lt;have u13:=k7.cell 13;simp only [gz_,gs_] at u13)
    go_ret
    exact ⟨b_ Hfl.out.symm,HB1.out.trans (hb7.mono HB1.out.size)⟩
theorem cT_ (b:Bk) (v:Bv) (w:World) (hr:RdK w b v) (hf:FewK b) (hbd:-9223372036854775808<=b.tr/\b.tr<=9223372036854775807) :
  Calls Tryz.prog 190 #[bkV b v] w fun e w'=>e=.returned (.bool (blB b))/\Below w.heap.size w w':=by
 have HH:=a_ (fun V (hV:Below w.heap.size w V)=>eZ_ b v V (hr.below hV (nr_ _)) hf)
 have HQ:Hid (∀ V,Below w.heap.size w V->Calls Tryz.prog 198 #[qcV b.qr b.qb v.q,.int .i64 (wrap64 (b.rd - 1)),.int .i64 (wrap64 (b.id - 1))] V fun e w'=>e=.returned (.bool (q9B b))/\Below V.heap.size V w') :=
  a_ (fun V hV=>dH_ b.qr b.qb _ _ v.q b.qw V (hr.q.below hV (nr_ _)) hf.q hf.qs)
 have HT:Hid (∀ V,Below w.heap.size w V->Calls Tryz.prog 199 #[tcV b.tr v.w v.h,.int .i64 (wrap64 (b.rd - 1))] V fun e w'=>e=.returned (.bool (t9B b))/\Below V.heap.size V w') :=
  a_ (fun V hV=>dA_ b.tr _ v.w v.h b.tw b.th V (hr.p.below hV (nr_ _)) (hr.h.below hV (nr_ _)) hf.w hf.h hf.ws hbd.2)
 have HO:=a_ (fun V (hV:Below w.heap.size w V)=>gv_ v.t b.ts V (hr.t.below hV (nr_ _)) hf.t hf.ts)
 have HE:=a_ (fun V (hV:Below w.heap.size w V)=>gL_ b v V (hr.below hV (nr_ _)) hf)
 have HX:Hid (blB b=(h9B b && (q9B b && (t9B b && ((decide (b.ts.length<=4) && b.ts.all txB) && e9B b))))):=a_ (by
  unfold blB h9B
  simp only [Bool.and_assoc])
 generalize blB b=X at HX ⊢
 generalize h9B b=H0 at HX HH
 generalize q9B b=Q0 at HX HQ
 generalize t9B b=T0 at HX HT
 generalize (decide (b.ts.length<=4) && b.ts.all txB)=O0 at HX HO
 generalize e9B b=E0 at HX HE
 clear hf hbd
 obtain ⟨id,ep,rd,mk,qr,qb,qw,tr,tw,th,ts,en,nx,rt⟩:=b
 obtain ⟨vq,vw,vh,vt,vn⟩:=v
 obtain ⟨hq,hw,hh,ht,hn⟩:=hr
 simp only [bkV,qcV,tcV] at *
 have e1:IntKind.i64.wrap (rd - 1)=wrap64 (rd - 1):=by rw [IntKind.wrap_i64];unfold wrap64;omega
 have e2:IntKind.i64.wrap (id - 1)=wrap64 (id - 1):=by rw [IntKind.wrap_i64];unfold wrap64;omega
 generalize wrap64 (rd - 1)=D1 at HQ HT e1
 generalize wrap64 (id - 1)=D2 at HQ e2
 obtain ⟨aq,cq,rfl⟩:=hq.shape
 obtain ⟨aw,cw,rfl⟩:=hw.shape
 obtain ⟨ah,ch,rfl⟩:=hh.shape
 obtain ⟨at_,ct,rfl⟩:=ht.shape
 obtain ⟨an,cn,rfl⟩:=hn.shape
 obtain ⟨w1,hw1⟩:∃ x,w.alloc (.cells #[.int .i64 id,.int .i64 ep,.int .i64 rd,.string mk,.int .i64 qr,.int .i64 qb,.slice aq qw.length cq,.int .i64 tr,.slice aw tw.length cw,.slice ah th.length ch,.slice at_ ts.length ct,.bool en,.slice an nx.length cn,.string rt] 146)=x:=⟨_,rfl⟩
 have b1:Below w.heap.size w w1:=by rw [<- hw1];exact (br_ _ w).alloc (nr_ _) _
 have k1:Blk w1 w.heap.size 146 [.int .i64 id,.int .i64 ep,.int .i64 rd,.string mk,.int .i64 qr,.int .i64 qb,.slice aq qw.length cq,.int .i64 tr,.slice aw tw.length cw,.slice ah th.length ch,.slice at_ ts.length ct,.bool en,.slice an nx.length cn,.string rt]:=by rw [<- hw1];exact Blk.new w _ _
 have K1:=a_ k1
 have HB1:=a_ b1
 clear hq hw hh ht hn
 have HH1:=a_ (HH.out w1 b1)
 have x0:=k1.cell 0
 have x1:=k1.cell 1
 have x2:=k1.cell 2
 have x3:=k1.cell 3
 have x4:=k1.cell 4
 have x5:=k1.cell 5
 have x6:=k1.cell 6
 have x7:=k1.cell 7
 have x8:=k1.cell 8
 have x9:=k1.cell 9
 have x10:=k1.cell 10
 have x11:=k1.cell 11
 have x12:=k1.cell 12
 have x13:=k1.cell 13
 simp only [gz_,gs_] at x0 x1 x2 x3 x4 x5 x6 x7 x8 x9 x10 x11 x12 x13
 clear k1 b1 HH
 cases H0
 ·rw [Bool.false_and] at HX
  go_enter Tryz.func190,Tryz.ntmps190
  go_wp2_with (first
    | (go_at_call 197;refine HH1.out.mono ?_;rintro e w2 ⟨rfl,hb2⟩;have hB2:=HB1.out.trans (hb2.mono HB1.out.size);have k2:=K1.out.below hb2 K1.out.lt;have y0:=k2.cell 0;have y1:=k2.cell 1;have y2:=k2.cell 2;have y3:=k2.cell 3;have y4:=k2.cell 4;have y5:=k2.cell 5;have y6:=k2.cell 6;have y7:=k2.cell 7;have y8:=k2.cell 8;have y9:=k2.cell 9;have y10:=k2.cell 10;have y11:=k2.cell 11;have y12:=k2.cell 12;have y13:=k2.cell 13;simp only [gz_,gs_] at y0 y1 y2 y3 y4 y5 y6 y7 y8 y9 y10 y11 y12 y13))
  go_ret
  exact ⟨b_ HX.out.symm,hB2⟩
 ·rw [Bool.true_and] at HX
  cases Q0
  ·rw [Bool.false_and] at HX
   go_enter Tryz.func190,Tryz.ntmps190
   go_wp2_with (first
     | (go_at_call 197;refine HH1.out.mono ?_;rintro e w2 ⟨rfl,hb2⟩;have hB2:=HB1.out.trans (hb2.mono HB1.out.size);have k2:=K1.out.below hb2 K1.out.lt;have y0:=k2.cell 0;have y1:=k2.cell 1;have y2:=k2.cell 2;have y3:=k2.cell 3;have y4:=k2.cell 4;have y5:=k2.cell 5;have y6:=k2.cell 6;have y7:=k2.cell 7;have y8:=k2.cell 8;have y9:=k2.cell 9;have y10:=k2.cell 10;have y11:=k2.cell 11;have y12:=k2.cell 12;have y13:=k2.cell 13;simp only [gz_,gs_] at y0 y1 y2 y3 y4 y5 y6 y7 y8 y9 y10 y11 y12 y13)
     | (go_at_call 198;refine (HQ.out w2 hB2).mono ?_;rintro e w3 ⟨rfl,hb3⟩;have hB3:=hB2.trans (hb3.mono hB2.size);have k3:=k2.below hb3 k2.lt;have z0:=k3.cell 0;have z1:=k3.cell 1;have z2:=k3.cell 2;have z3:=k3.cell 3;have z4:=k3.cell 4;have z5:=k3.cell 5;have z6:=k3.cell 6;have z7:=k3.cell 7;have z8:=k3.cell 8;have z9:=k3.cell 9;have z10:=k3.cell 10;have z11:=k3.cell 11;have z12:=k3.cell 12;have z13:=k3.cell 13;simp only [gz_,gs_] at z0 z1 z2 z3 z4 z5 z6 z7 z8 z9 z10 z11 z12 z13))
   go_ret
   exact ⟨b_ HX.out.symm,hB3⟩
  ·rw [Bool.true_and] at HX
   cases T0
   ·rw [Bool.false_and] at HX
    go_enter Tryz.func190,Tryz.ntmps190
    go_wp2_with (first
      | (go_at_call 197;refine HH1.out.mono ?_;rintro e w2 ⟨rfl,hb2⟩;have hB2:=HB1.out.trans (hb2.mono HB1.out.size);have k2:=K1.out.below hb2 K1.out.lt;have y0:=k2.cell 0;have y1:=k2.cell 1;have y2:=k2.cell 2;have y3:=k2.cell 3;have y4:=k2.cell 4;have y5:=k2.cell 5;have y6:=k2.cell 6;have y7:=k2.cell 7;have y8:=k2.cell 8;have y9:=k2.cell 9;have y10:=k2.cell 10;have y11:=k2.cell 11;have y12:=k2.cell 12;have y13:=k2.cell 13;simp only [gz_,gs_] at y0 y1 y2 y3 y4 y5 y6 y7 y8 y9 y10 y11 y12 y13)
      | (go_at_call 198;refine (HQ.out w2 hB2).mono ?_;rintro e w3 ⟨rfl,hb3⟩;have hB3:=hB2.trans (hb3.mono hB2.size);have k3:=k2.below hb3 k2.lt;have z0:=k3.cell 0;have z1:=k3.cell 1;have z2:=k3.cell 2;have z3:=k3.cell 3;have z4:=k3.cell 4;have z5:=k3.cell 5;have z6:=k3.cell 6;have z7:=k3.cell 7;have z8:=k3.cell 8;have z9:=k3.cell 9;have z10:=k3.cell 10;have z11:=k3.cell 11;have z12:=k3.cell 12;have z13:=k3.cell 13;simp only [gz_,gs_] at z0 z1 z2 z3 z4 z5 z6 z7 z8 z9 z10 z11 z12 z13)
      | (go_at_call 199;refine (HT.out w3 hB3).mono ?_;rintro e w4 ⟨rfl,hb4⟩;have hB4:=hB3.trans (hb4.mono hB3.size);have k4:=k3.below hb4 k3.lt;have u0:=k4.cell 0;have u1:=k4.cell 1;have u2:=k4.cell 2;have u3:=k4.cell 3;have u4:=k4.cell 4;have u5:=k4.cell 5;have u6:=k4.cell 6;have u7:=k4.cell 7;have u8:=k4.cell 8;have u9:=k4.cell 9;have u10:=k4.cell 10;have u11:=k4.cell 11;have u12:=k4.cell 12;have u13:=k4.cell 13;simp only [gz_,gs_] at u0 u1 u2 u3 u4 u5 u6 u7 u8 u9 u10 u11 u12 u13))
    go_ret
    exact ⟨b_ HX.out.symm,hB4⟩
   ·rw [Bool.true_and] at HX
    cases O0
    ·rw [Bool.false_and] at HX
     go_enter Tryz.func190,Tryz.ntmps190
     go_wp2_with (first
       | (go_at_call 197;refine HH1.out.mono ?_;rintro e w2 ⟨rfl,hb2⟩;have hB2:=HB1.out.trans (hb2.mono HB1.out.size);have k2:=K1.out.below hb2 K1.out.lt;have y0:=k2.cell 0;have y1:=k2.cell 1;have y2:=k2.cell 2;have y3:=k2.cell 3;have y4:=k2.cell 4;have y5:=k2.cell 5;have y6:=k2.cell 6;have y7:=k2.cell 7;have y8:=k2.cell 8;have y9:=k2.cell 9;have y10:=k2.cell 10;have y11:=k2.cell 11;have y12:=k2.cell 12;have y13:=k2.cell 13;simp only [gz_,gs_] at y0 y1 y2 y3 y4 y5 y6 y7 y8 y9 y10 y11 y12 y13)
       | (go_at_call 198;refine (HQ.out w2 hB2).mono ?_;rintro e w3 ⟨rfl,hb3⟩;have hB3:=hB2.trans (hb3.mono hB2.size);have k3:=k2.below hb3 k2.lt;have z0:=k3.cell 0;have z1:=k3.cell 1;have z2:=k3.cell 2;have z3:=k3.cell 3;have z4:=k3.cell 4;have z5:=k3.cell 5;have z6:=k3.cell 6;have z7:=k3.cell 7;have z8:=k3.cell 8;have z9:=k3.cell 9;have z10:=k3.cell 10;have z11:=k3.cell 11;have z12:=k3.cell 12;have z13:=k3.cell 13;simp only [gz_,gs_] at z0 z1 z2 z3 z4 z5 z6 z7 z8 z9 z10 z11 z12 z13)
       | (go_at_call 199;refine (HT.out w3 hB3).mono ?_;rintro e w4 ⟨rfl,hb4⟩;have hB4:=hB3.trans (hb4.mono hB3.size);have k4:=k3.below hb4 k3.lt;have u0:=k4.cell 0;have u1:=k4.cell 1;have u2:=k4.cell 2;have u3:=k4.cell 3;have u4:=k4.cell 4;have u5:=k4.cell 5;have u6:=k4.cell 6;have u7:=k4.cell 7;have u8:=k4.cell 8;have u9:=k4.cell 9;have u10:=k4.cell 10;have u11:=k4.cell 11;have u12:=k4.cell 12;have u13:=k4.cell 13;simp only [gz_,gs_] at u0 u1 u2 u3 u4 u5 u6 u7 u8 u9 u10 u11 u12 u13)
       | (go_at_call 200;refine (HO.out w4 hB4).mono ?_;rintro e w5 ⟨rfl,hb5⟩;have hB5:=hB4.trans (hb5.mono hB4.size);have k5:=k4.below hb5 k4.lt;have s0:=k5.cell 0;have s1:=k5.cell 1;have s2:=k5.cell 2;have s3:=k5.cell 3;have s4:=k5.cell 4;have s5:=k5.cell 5;have s6:=k5.cell 6;have s7:=k5.cell 7;have s8:=k5.cell 8;have s9:=k5.cell 9;have s10:=k5.cell 10;have s11:=k5.cell 11;have s12:=k5.cell 12;have s13:=k5.cell 13;simp only [gz_,gs_] at s0 s1 s2 s3 s4 s5 s6 s7 s8 s9 s10 s11 s12 s13))
     go_ret
     exact ⟨b_ HX.out.symm,hB5⟩
    ·rw [Bool.true_and] at HX
     go_enter Tryz.func190,Tryz.ntmps190
     go_wp2_with (first
       | (go_at_call 197;refine HH1.out.mono ?_;rintro e w2 ⟨rfl,hb2⟩;have hB2:=HB1.out.trans (hb2.mono HB1.out.size);have k2:=K1.out.below hb2 K1.out.lt;have y0:=k2.cell 0;have y1:=k2.cell 1;have y2:=k2.cell 2;have y3:=k2.cell 3;have y4:=k2.cell 4;have y5:=k2.cell 5;have y6:=k2.cell 6;have y7:=k2.cell 7;have y8:=k2.cell 8;have y9:=k2.cell 9;have y10:=k2.cell 10;have y11:=k2.cell 11;have y12:=k2.cell 12;have y13:=k2.cell 13;simp only [gz_,gs_] at y0 y1 y2 y3 y4 y5 y6 y7 y8 y9 y10 y11 y12 y13)
       | (go_at_call 198;refine (HQ.out w2 hB2).mono ?_;rintro e w3 ⟨rfl,hb3⟩;have hB3:=hB2.trans (hb3.mono hB2.size);have k3:=k2.below hb3 k2.lt;have z0:=k3.cell 0;have z1:=k3.cell 1;have z2:=k3.cell 2;have z3:=k3.cell 3;have z4:=k3.cell 4;have z5:=k3.cell 5;have z6:=k3.cell 6;have z7:=k3.cell 7;have z8:=k3.cell 8;have z9:=k3.cell 9;have z10:=k3.cell 10;have z11:=k3.cell 11;have z12:=k3.cell 12;have z13:=k3.cell 13;simp only [gz_,gs_] at z0 z1 z2 z3 z4 z5 z6 z7 z8 z9 z10 z11 z12 z13)
       | (go_at_call 199;refine (HT.out w3 hB3).mono ?_;rintro e w4 ⟨rfl,hb4⟩;have hB4:=hB3.trans (hb4.mono hB3.size);have k4:=k3.below hb4 k3.lt;have u0:=k4.cell 0;have u1:=k4.cell 1;have u2:=k4.cell 2;have u3:=k4.cell 3;have u4:=k4.cell 4;have u5:=k4.cell 5;have u6:=k4.cell 6;have u7:=k4.cell 7;have u8:=k4.cell 8;have u9:=k4.cell 9;have u10:=k4.cell 10;have u11:=k4.cell 11;have u12:=k4.cell 12;have u13:=k4.cell 13;simp only [gz_,gs_] at u0 u1 u2 u3 u4 u5 u6 u7 u8 u9 u10 u11 u12 u13)
       | (go_at_call 200;refine (HO.out w4 hB4).mono ?_;rintro e w5 ⟨rfl,hb5⟩;have hB5:=hB4.trans (hb5.mono hB4.size);have k5:=k4.below hb5 k4.lt;have s0:=k5.cell 0;have s1:=k5.cell 1;have s2:=k5.cell 2;have s3:=k5.cell 3;have s4:=k5.cell 4;have s5:=k5.cell 5;have s6:=k5.cell 6;have s7:=k5.cell 7;have s8:=k5.cell 8;have s9:=k5.cell 9;have s10:=k5.cell 10;have s11:=k5.cell 11;have s12:=k5.cell 12;have s13:=k5.cell 13;simp only [gz_,gs_] at s0 s1 s2 s3 s4 s5 s6 s7 s8 s9 s10 s11 s12 s13)
       | (go_at_call 201;refine (HE.out w5 hB5).mono ?_;rintro e w6 ⟨rfl,hb6⟩;have hB6:=hB5.trans (hb6.mono hB5.size)))
     go_ret
     exact ⟨b_ HX.out.symm,hB6⟩
end Go.Proofs.YtamljhcmiphdgaaGreatDoor
