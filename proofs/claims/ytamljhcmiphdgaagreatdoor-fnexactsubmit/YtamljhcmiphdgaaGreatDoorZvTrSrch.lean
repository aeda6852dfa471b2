/- A row of limbs, and a limb found in it by halving. -/
import Derived.Test.YtamljhcmiphdgaaGreatDoorZvTrAt
set_option maxRecDepth 20000
set_option maxHeartbeats 2000000
namespace Go.Proofs.YtamljhcmiphdgaaGreatDoor
open Go.RowKit Go.Sort
set_option linter.unusedVariables false
theorem ar_ (x a b:Int) (w:World) :
  Calls Tryz.prog 162 #[.int .i64 x,.int .i64 a,.int .i64 b] w fun e w'=>e=.returned (.bool (inB x a b))/\w'=w:=by
 by_cases h1:a<=x
 ·by_cases h2:x<=b
  ·have e:Hid (inB x a b=true):=a_ (by simp [inB,h1,h2])
   go_enter Tryz.func162,Tryz.ntmps162
   go_wp2
   go_ret
   rw [e.out];exact ⟨rfl,rfl⟩
  ·have e:Hid (inB x a b=false):=a_ (by simp [inB,h1,h2])
   go_enter Tryz.func162,Tryz.ntmps162
   go_wp2
   go_ret
   rw [e.out];exact ⟨rfl,rfl⟩
 ·have e:Hid (inB x a b=false):=a_ (by simp [inB,h1])
  go_enter Tryz.func162,Tryz.ntmps162
  go_wp2
  go_ret
  rw [e.out];exact ⟨rfl,rfl⟩
theorem bA_ (v:Value) (l:List Vl) (w:World) (hr:RdV w v l) (hl:l.length<=4000000) (hall:∀ a ∈ l,a.1.size<=maxLen) :
  Calls Tryz.prog 159 #[v] w fun e w'=>e=.returned (.bool (setB l))/\Below w.heap.size w w':=by
 rcases hr with ⟨a,cap,rfl,rfl,-⟩ | ⟨b,off,cap,h0,rfl,h1,h2,h3,h4⟩
 ·have HW:=a_ (fun w=>ar_ 0 1 12 w)
  have h0:inB 0 1 12=false:=rfl
  rw [h0] at HW
  go_enter Tryz.func159,Tryz.ntmps159
  go_wp2_with fail
  refine (HW.out _).mono ?_
  rintro e w2 ⟨rfl,rfl⟩
  go_wp2
  go_ret
  exact ⟨rfl,br_ _ _⟩
 ·have H4 := a_ h4
  have Hs:=a_ hall
  clear h4 hall
  have Hset:Hid (setB l=((List.range l.length).all (vlAt l) && inB l.length 1 12)):=a_ rfl
  cases h12:inB (l.length:Int) 1 12
  ·rw [h12,Bool.and_false] at Hset
   have HW:=a_ (fun w=>ar_ (l.length:Int) 1 12 w)
   rw [h12] at HW
   clear h12
   go_enter Tryz.func159,Tryz.ntmps159
   go_wp2_with fail
   refine (HW.out _).mono ?_
   rintro e w2 ⟨rfl,rfl⟩
   go_wp2
   go_ret
   exact ⟨b_ Hset.out.symm,br_ _ _⟩
  clear Hset
  have HW:=a_ (fun w=>ar_ (l.length:Int) 1 12 w)
  rw [h12] at HW
  go_enter Tryz.func159,Tryz.ntmps159
  go_wp2_with fail
  refine (HW.out _).mono ?_
  rintro e w ⟨rfl,rfl⟩
  go_wp2
  go_loopw [11] (fun i wr=>∃ k:Nat,k<=l.length/\i=.int .i64 k/\(∀ j,j < k->vlAt l j=true)/\Below w.heap.size w wr) (fun i _=>l.length - (intOf i).toNat)
  case atStart=>exact ⟨0,Nat.zero_le _,rfl,fun j hj=>by omega,br_ _ _⟩
  case round =>
   obtain ⟨k,hk,rfl,hok,hb⟩:=hrel
   have Hall:=a_ hok
   clear hok
   by_cases hlt:k < l.length
   ·obtain ⟨d0,d1⟩:=H4.out k hlt
    have c0:=(hb.cell (p:=⟨b,off+k * 2,none⟩) h3).trans d0
    have c1:=(hb.cell (p:=⟨b,off+k * 2+1,none⟩) h3).trans d1
    have hsz:=Hs.out l[k] (List.getElem_mem hlt)
    have Hok:=a_ (gQ_ l k l[k] hlt rfl)
    have Hno:=a_ (jn_ l k hlt)
    have hli:(k:Int) < (l.length:Int):=by omega
    have Hnx:Hid (vlAt l k=true->∀ j,j < k+1->vlAt l j=true):=a_ (fun h j hj=>by
     by_cases e:j=k
     ·subst e;exact h
     ·exact Hall.out j (by omega))
    have hprev:Hid (k ≥ 1->wr.cell? ⟨b,off+(k - 1) * 2,none⟩=some (.string (l.getD (k - 1) vl0).1)):=a_ (fun hk1=>by
     rw [List.getD_eq_getElem?_getD,List.getElem?_eq_getElem (show k - 1 < l.length by omega)]
     exact (hb.cell (p:=⟨b,off+(k - 1) * 2,none⟩) h3).trans (H4.out (k - 1) (by omega)).1)
    clear d0 d1
    generalize l[k]=ak at c0 c1 Hok hsz
    generalize (l.getD (k - 1) vl0).1=pn at hprev Hok
    obtain ⟨nm,wt⟩:=ak
    simp only at c0 c1 Hok hsz
    obtain ⟨w1,hw1⟩:∃ w1,wr.alloc (.cells #[.string nm,.int .i64 wt] 152)=w1:=⟨_,rfl⟩
    have hA:Below wr.heap.size wr w1:=by rw [<- hw1];exact (br_ _ wr).alloc (nr_ _) _
    have hbb:b < wr.heap.size:=Nat.lt_of_lt_of_le h3 hb.size
    have HB1:Hid (Below w.heap.size w w1):=a_ (hb.trans (hA.mono hb.size))
    have hk1:Blk w1 wr.heap.size 152 [.string nm,.int .i64 wt]:=by rw [<- hw1];exact Blk.new wr _ _
    have HN:=a_ (fun (d:Nat) (os:Array Obj)=>N_ (m_ nm (grow (redrawn w1 d) os) hsz))
    have HI:=a_ (fun (d:Nat) (os:Array Obj)=>N_ (ar_ wt 1 1000000 (grow (redrawn w1 d) os)))
    have e0:=hk1.cell 0
    have e1:=hk1.cell 1
    simp only [gz_,gs_] at e0 e1
    have g0:=cell_regrown e0
    have g1:=cell_regrown e1
    have hprev1:Hid (k ≥ 1->w1.cell? ⟨b,off+(k - 1) * 2,none⟩=some (.string pn)):=a_ (fun h=>(hA.cell (p:=⟨b,off+(k - 1) * 2,none⟩) hbb).trans (hprev.out h))
    clear e0 e1 hprev hsz hk1 hA
    cases hn:nmB nm
    ·have hf:=a_ (Hno.out (by rw [Hok.out,hn];rfl))
     rw [hn] at HN
     clear hn hprev1 Hnx
     go_wp2
     clear c0 c1
     refine wp_region_quiet_below (by kernel_rfl) (by kernel_rfl) ?_
     repeat (go_big_quiet_step ((first | (go_at_call 133;exact HN.out _ _) | (go_at_call 162;exact HI.out _ _))))
     refine wpQuiet_nil ?_
     intro _ hw'
     obtain ⟨⟨dq,osq⟩,hw''⟩:=hw'
     subst hw''
     go_wp2
     go_ret
     exact ⟨b_ hf.out.symm,HB1.out.trans ((below_regrown w1 dq osq).mono HB1.out.size)⟩
    ·rw [hn] at HN
     cases hi:inB wt 1 1000000
     ·have hf:=a_ (Hno.out (by rw [Hok.out,hn,hi];rfl))
      rw [hi] at HI
      clear hn hi hprev1 Hnx
      go_wp2
      clear c0 c1
      refine wp_region_quiet_below (by kernel_rfl) (by kernel_rfl) ?_
      repeat (go_big_quiet_step ((first | (go_at_call 133;exact HN.out _ _) | (go_at_call 162;exact HI.out _ _))))
      refine wpQuiet_nil ?_
      intro _ hw'
      obtain ⟨⟨dq,osq⟩,hw''⟩:=hw'
      subst hw''
      go_wp2
      go_ret
      exact ⟨b_ hf.out.symm,HB1.out.trans ((below_regrown w1 dq osq).mono HB1.out.size)⟩
     ·rw [hi] at HI
      by_cases hk1:k < 1
      ·have hd:decide (0 < k)=false:=by simp;omega
       have hd2:decide ((0:Int) < (k:Int))=false:=by simp;omega
       have Hnx:=a_ (Hnx.out (by rw [Hok.out,hn,hi,show k=0 from by omega];rfl))
       clear hn hi hprev1
       go_wp2
       clear c0 c1
       refine wp_region_quiet_below (by kernel_rfl) (by kernel_rfl) ?_
       repeat (go_big_quiet_step ((first | (go_at_call 133;exact HN.out _ _) | (go_at_call 162;exact HI.out _ _))))
       refine wpQuiet_nil ?_
       intro _ hw'
       obtain ⟨⟨dq,osq⟩,hw''⟩:=hw'
       subst hw''
       go_wp2
       go_roundw
       case rel=>exact ⟨k+1,by omega,by go_num,Hnx.out,HB1.out.trans ((below_regrown w1 dq osq).mono HB1.out.size)⟩
       case measure=>simp [intOf];omega
      ·have hcp:=cell_regrown (hprev1.out (by omega))
       clear hprev1
       have hpos:(0:Int) < (k:Int):=by omega
       have hposN:0 < k:=by omega
       have hd1:decide (0 < k)=true:=by simp;omega
       have hix:((k:Int) - 1).toNat=k - 1:=by omega
       have hix1:(0:Int)<=(k:Int) - 1:=by omega
       have hix2:(k:Int) - 1 < (l.length:Int):=by omega
       cases hless:Op.bytesLess pn.toList nm.toList
       ·have hf:=a_ (Hno.out (by rw [Hok.out,hn,hi,hless];simp;omega))
        clear hn hi Hnx
        go_wp2
        clear c0 c1
        refine wp_region_quiet_below (by kernel_rfl) (by kernel_rfl) ?_
        repeat (go_big_quiet_step ((first | (go_at_call 133;exact HN.out _ _) | (go_at_call 162;exact HI.out _ _))))
        refine wpQuiet_nil ?_
        intro _ hw'
        obtain ⟨⟨dq,osq⟩,hw''⟩:=hw'
        subst hw''
        go_wp2
        go_ret
        exact ⟨b_ hf.out.symm,HB1.out.trans ((below_regrown w1 dq osq).mono HB1.out.size)⟩
       ·have Hnx:=a_ (Hnx.out (by rw [Hok.out,hn,hi,hless];simp))
        clear hn hi
        go_wp2
        clear c0 c1
        refine wp_region_quiet_below (by kernel_rfl) (by kernel_rfl) ?_
        repeat (go_big_quiet_step ((first | (go_at_call 133;exact HN.out _ _) | (go_at_call 162;exact HI.out _ _))))
        refine wpQuiet_nil ?_
        intro _ hw'
        obtain ⟨⟨dq,osq⟩,hw''⟩:=hw'
        subst hw''
        go_wp2
        go_roundw
        case rel=>exact ⟨k+1,by omega,by go_num,Hnx.out,HB1.out.trans ((below_regrown w1 dq osq).mono HB1.out.size)⟩
        case measure=>simp [intOf];omega
   ·have hf:=a_ (ha_ l (fun j hj=>Hall.out j (by omega)))
    rw [h12] at hf
    go_wp2
    go_ret
    exact ⟨b_ hf.out.symm,hb⟩
open Go.RowKit
def ptr (B:Nat):Value:=.pointer (some ⟨B,0,none⟩)
def limC (b:Bk) (v:Bv) (p:Value):List Value:=.int .i64 b.id :: (bkC b v ++ [p])
structure RdP (w:World) (v:Value) (Bs:List Nat) (ids:List Int):Prop where
 len:Bs.length=ids.length
 row:∃ a cap,v=.slice a Bs.length cap/\∀ i (h:i < Bs.length),∃ g off,a=some ⟨g,off,none⟩/\w.cell? ⟨g,off+i,none⟩=some (ptr Bs[i])
 at_:∀ i (h:i < Bs.length) (h2:i < ids.length),w.cell? ⟨Bs[i],0,none⟩=some (.int .i64 ids[i])
def cmpT (x y:Int):Int:=if x < y then -1 else if y < x then 1 else 0
theorem cE_ (x:Int) (w:World):Calls Tryz.prog 185 #[.int .i64 x] w fun e w'=>e=.returned (.bool false)/\w'=w:=by
 go_enter Tryz.func185,Tryz.ntmps185
 go_wp2
 go_ret
 exact ⟨by simp,rfl⟩
theorem jv_ (x y:Int) (w:World):Calls Tryz.prog 168 #[.int .i64 x,.int .i64 y] w fun e w'=>e=.returned (.int .i64 (cmpT x y))/\w'=w:=by
 have Hd:Hid (cmpT x y=if x < y then -1 else if y < x then 1 else 0):=a_ rfl
 generalize cmpT x y=X at Hd
 by_cases h1:x < y
 ·rw [if_pos h1] at Hd
  go_enter Tryz.func168,Tryz.ntmps168
  go_wp2_with (go_at_call 185;refine (cE_ _ _).mono ?_;rintro e w ⟨rfl,rfl⟩)
  go_ret
  exact ⟨h_ Hd.out.symm,rfl⟩
 ·rw [if_neg h1] at Hd
  by_cases h2:y < x
  ·rw [if_pos h2] at Hd
   go_enter Tryz.func168,Tryz.ntmps168
   go_wp2_with (go_at_call 185;refine (cE_ _ _).mono ?_;rintro e w ⟨rfl,rfl⟩)
   go_ret
   exact ⟨h_ Hd.out.symm,rfl⟩
  ·rw [if_neg h2] at Hd
   go_enter Tryz.func168,Tryz.ntmps168
   go_wp2_with (go_at_call 185;refine (cE_ _ _).mono ?_;rintro e w ⟨rfl,rfl⟩)
   go_ret
   exact ⟨h_ Hd.out.symm,rfl⟩
theorem et_ (B:Nat) (x y:Int) (w:World) (h:w.cell? ⟨B,0,none⟩=some (.int .i64 x)) :
  Calls Tryz.prog 203 #[ptr B,.int .i64 y] w fun e w'=>e=.returned (.int .i64 (cmpT x y))/\w'=w:=by
 simp only [ptr]
 go_enter Tryz.func203,Tryz.ntmps203
 go_wp2_with fail
 refine (jv_ x y w).mono ?_
 rintro e w ⟨rfl,rfl⟩
 go_wp2
 go_ret
 exact ⟨rfl,rfl⟩
def SrP (ids:List Int) (y:Int) (p:Nat) (f:Bool):Prop:=(f=true/\∃ h:p < ids.length,ids[p]=y)\/(f=false/\∀ i (h:i < ids.length),ids[i] ≠ y)
theorem hW_ (v:Value) (Bs:List Nat) (ids:List Int) (y:Int) (w:World) (hr:RdP w v Bs ids) (hasc:∀ a b (ha:a < ids.length) (hb:b < ids.length),a < b->ids[a] < ids[b]) (hn:Bs.length<=1000000) :
  Calls Tryz.prog 202 #[v,.int .i64 y,.func (.func 203) #[] #[]] w fun e w'=>∃ (p:Nat) (f:Bool),e=.returned (.tuple #[.int .i64 (p:Int),.bool f])/\SrP ids y p f/\w'=w:=by
 obtain ⟨hlen,⟨a,cap,rfl,hrow⟩,hat⟩:=hr
 have Hrow:=a_ hrow
 have Hat:=a_ hat
 have Hasc:=a_ hasc
 have Hlen:=a_ hlen
 clear hrow hat hasc hlen
 obtain ⟨n,hnn⟩:∃ n,Bs.length=n:=⟨_,rfl⟩
 have Hn:=a_ hnn
 rw [hnn] at hn ⊢
 clear hnn
 go_enter Tryz.func202,Tryz.ntmps202
 go_wp2
 go_loopw [9,10] (fun iv jv wr=>∃ i j:Nat,i<=j/\j<=n/\iv=.int .i64 (i:Int)/\jv=.int .i64 (j:Int)/\(∀ t (h:t < ids.length),t < i->ids[t] < y)/\(∀ t (h:t < ids.length),j<=t->y<=ids[t])/\wr=w) (fun iv jv _=>(intOf jv).toNat - (intOf iv).toNat)
 case atStart=>exact ⟨0,n,Nat.zero_le _,nr_ _,rfl,rfl,fun t _ h=>by omega,fun t h h2=>by have:=Hlen.out;have:=Hn.out;omega,rfl⟩
 case round =>
  obtain ⟨i,j,hij,hjn,rfl,rfl,hlo,hhi,rfl⟩:=hrel
  have Hlo:=a_ hlo
  have Hhi:=a_ hhi
  clear hlo hhi
  by_cases hlt:i < j
  ·have hmi:i<=((i+j) / 2):=by omega
   have hmj:((i+j) / 2) < j:=by omega
   have hmB:((i+j) / 2) < Bs.length:=by have:=Hn.out;omega
   have hmI:((i+j) / 2) < ids.length:=by have:=Hlen.out;omega
   obtain ⟨g,off,rfl,hc⟩:=Hrow.out ((i+j) / 2) hmB
   have hv:=Hat.out ((i+j) / 2) hmB hmI
   have e1:wrap64 ((i:Int)+(j:Int))=((i+j:Nat):Int):=by unfold wrap64;omega
   have hm0:(0:Int)<=(((i+j) / 2:Nat):Int):=by omega
   have hmn:(((i+j) / 2:Nat):Int) < (n:Int):=by omega
   have hij2:(i:Int) < (j:Int):=by omega
   have HC:=a_ (et_ Bs[((i+j) / 2)] ids[((i+j) / 2)] y wr hv)
   have HL:Hid (ids[((i+j) / 2)] < y->∀ t (h:t < ids.length),t < ((i+j) / 2)+1->ids[t] < y):=a_ (fun h t ht htm=>by
    by_cases e:t=((i+j) / 2)
    ·subst e;exact h
    ·have:=Hasc.out t ((i+j) / 2) ht hmI (by omega);omega)
   have HH:Hid (y<=ids[((i+j) / 2)]->∀ t (h:t < ids.length),((i+j) / 2)<=t->y<=ids[t]):=a_ (fun h t ht htm=>by
    by_cases e:t=((i+j) / 2)
    ·subst e;exact h
    ·have:=Hasc.out ((i+j) / 2) t hmI ht (by omega);omega)
   generalize ids[(i+j) / 2]=x at hv HC HL HH
   simp only [ptr] at hc HC
   clear hv
   by_cases hx:x < y
   ·have HL:=a_ (HL.out hx)
    have ec:cmpT x y=-1:=by unfold cmpT;rw [if_pos hx]
    rw [ec] at HC
    clear HH ec
    go_wp2_with (go_at_call 203;refine HC.out.mono ?_;rintro e w ⟨rfl,rfl⟩)
    go_roundw
    case rel=>exact ⟨((i+j) / 2)+1,j,by omega,hjn,by congr 1,rfl,HL.out,Hhi.out,by first | trivial | rfl⟩
    case measure=>simp [intOf];omega
   ·have HH:=a_ (HH.out (by omega))
    have ec:cmpT x y < 0 ↔ False:=by
     unfold cmpT
     rw [if_neg hx]
     split <;> simp
    have ec2:decide (cmpT x y < 0)=false:=by rw [decide_eq_false_iff_not,ec];exact fun h=>h
    generalize cmpT x y=c at HC ec2
    clear HL ec hx
    go_wp2_with (go_at_call 203;refine HC.out.mono ?_;rintro e w ⟨rfl,rfl⟩)
    go_roundw
    case rel=>exact ⟨i,((i+j) / 2),by omega,by omega,rfl,by congr 1,Hlo.out,HH.out,by first | trivial | rfl⟩
    case measure=>simp [intOf];omega
  ·obtain rfl:i=j:=by omega
   by_cases hin:i < n
   ·have hmB:i < Bs.length:=by have:=Hn.out;omega
    have hmI:i < ids.length:=by have:=Hlen.out;omega
    obtain ⟨g,off,rfl,hc⟩:=Hrow.out i hmB
    have hv:=Hat.out i hmB hmI
    have HC:=a_ (et_ Bs[i] ids[i] y wr hv)
    have hii:(i:Int) < (n:Int):=by omega
    have hi0:(0:Int)<=(i:Int):=by omega
    have HS : Hid (SrP ids y i (cmpT ids[i] y == 0)):=a_ (by
     by_cases e:ids[i]=y
     ·refine .inl ⟨?_,hmI,e⟩
      rw [e,beq_iff_eq];unfold cmpT
      rw [if_neg (by omega),if_neg (by omega)]
     ·refine .inr ⟨?_,fun t ht e2=>?_⟩
      ·rw [beq_eq_false_iff_ne];unfold cmpT
       split
       ·omega
       ·split <;> omega
      ·by_cases h:t < i
       ·have:=Hlo.out t ht h;omega
       ·by_cases h2:t=i
        ·subst h2;exact e e2
        ·have h3:=Hasc.out i t hmI ht (by omega)
         have h4:=Hhi.out i hmI (nr_ _)
         omega)
    generalize cmpT ids[i] y=c at HC HS
    simp only [ptr] at hc HC
    clear hv Hlo Hhi hlt
    go_wp2_with (go_at_call 203;refine HC.out.mono ?_;rintro e w ⟨rfl,rfl⟩)
    go_ret2
    exact ⟨i,_,rfl,HS.out,rfl⟩
   ·have HS:Hid (SrP ids y i false):=a_ (.inr ⟨rfl,fun t ht e=>by
     have:=Hlen.out;have:=Hn.out
     have:=Hlo.out t ht (by omega);omega⟩)
    clear Hlo Hhi hlt
    go_wp2
    go_ret2
    exact ⟨i,_,rfl,HS.out,rfl⟩
def LmP (Bs:List Nat) (ids:List Int) (y:Int) (v:Value):Prop :=
 (v=.pointer none/\∀ i (h:i < ids.length),ids[i] ≠ y)\/∃ p,∃ h:p < Bs.length,∃ h2:p < ids.length,ids[p]=y/\v=ptr Bs[p]
theorem hs_ (v:Value) (Bs:List Nat) (ids:List Int) (y:Int) (w:World) (hr:∀ V,Below w.heap.size w V->RdP V v Bs ids) (hasc:∀ a b (ha:a < ids.length) (hb:b < ids.length),a < b->ids[a] < ids[b]) (hn:Bs.length<=1000000) :
  Calls Tryz.prog 191 #[.agg #[v],.int .i64 y] w fun e w'=>∃ x,e=.returned x/\LmP Bs ids y x/\Below w.heap.size w w':=by
 obtain ⟨w1,hw1⟩:∃ x,w.alloc (.cells #[v] 221)=x:=⟨_,rfl⟩
 have b1:Below w.heap.size w w1:=by rw [<- hw1];exact (br_ _ w).alloc (nr_ _) _
 have k1:Blk w1 w.heap.size 221 [v]:=by rw [<- hw1];exact Blk.new w _ _
 have hr1:=hr w1 b1
 have HS:=a_ (hW_ v Bs ids y w1 hr1 hasc hn)
 have HB:=a_ b1
 have x0:=k1.cell 0
 simp only [gz_] at x0
 have hlen:=hr1.len
 obtain ⟨a,cap,rfl,hrow⟩:=hr1.row
 have Hrow:=a_ hrow
 have Hlen:=a_ hlen
 clear hr hr1 k1 b1 hasc hrow hlen
 go_enter Tryz.func191,Tryz.ntmps191
 go_wp2_with fail
 refine HS.out.mono ?_
 rintro e w1 ⟨p,f,rfl,hsr,rfl⟩
 rcases hsr with ⟨rfl,hp,he⟩ | ⟨rfl,hno⟩
 ·have hpB:p < Bs.length:=by have:=Hlen.out;omega
  obtain ⟨g,off,rfl,hc⟩:=Hrow.out p hpB
  have hp0:(0:Int)<=(p:Int):=by omega
  have hpl:(p:Int) < (Bs.length:Int):=by omega
  have HX:Hid (LmP Bs ids y (ptr Bs[p])):=a_ (.inr ⟨p,hpB,hp,he,rfl⟩)
  generalize Bs[p]=B at hc HX
  simp only [ptr] at hc HX
  clear he
  go_wp2
  go_ret
  exact ⟨_,rfl,HX.out,HB.out⟩
 ·have HX:Hid (LmP Bs ids y (.pointer none)):=a_ (.inl ⟨rfl,hno⟩)
  clear hno
  go_wp2
  go_ret
  exact ⟨_,rfl,HX.out,HB.out⟩
theorem if_ (b off i:Nat):(⟨b,off,none⟩:Addr).add i=⟨b,off+i,none⟩:=by
 by_cases hz:i=0
 ·subst hz;simp [Addr.add]
 ·simp [Addr.add,hz]
theorem Tryz.infoPt:(Tryz.prog.info? 227).map (fun i=>(i.zero,i.size,i.bytes))=some (some (.pointer none),1,8):=by kernel_rfl
structure Limbs (base:Nat) (w:World) (v:Value) (l:List Bk) (n:Nat) (Bs:List Nat):Prop where
 len:Bs.length=n
 le:n<=l.length
 row:w.ownsRow base 227 1 v n (Bs.map ptr)
 at_:∀ i (h:i < Bs.length) (h2:i < l.length),∃ bv p,Blk w Bs[i] 230 (limC l[i] bv p)/\base<=Bs[i] /\
  ((rootB l[i].qr l[i].qb l[i].qw=true/\p=.pointer none)\/∃ j,∃ hj:j < i,(l[j]'(by omega)).id=l[i].qb/\p=ptr (Bs[j]'(by omega)))
theorem Limbs.nil (base:Nat) (w:World) (l:List Bk):Limbs base w (.slice none 0 0) l 0 []:=⟨rfl,Nat.zero_le _,World.ownsRow_nil _ _ _ _,fun i h=>by simp at h⟩
theorem Limbs.below {base B:Nat} {w w':World} {v:Value} {l:List Bk} {n:Nat} {Bs:List Nat} (h:Limbs base w v l n Bs) (hb:Below B w w') (hB:w.heap.size<=B):Limbs base w' v l n Bs :=
 ⟨h.len,h.le,j_ h.row hb hB,fun i hi h2=>by
  obtain ⟨bv,p,k,r⟩:=h.at_ i hi h2
  exact ⟨bv,p,k.below hb (by have:=k.lt;omega),r⟩⟩
theorem Limbs.mono {base base':Nat} {w:World} {v:Value} {l:List Bk} {n:Nat} {Bs:List Nat} (h:Limbs base w v l n Bs) (hB:base'<=base):Limbs base' w v l n Bs :=
 ⟨h.len,h.le,⟨h.row.1,by
  rcases h.row.2 with h' | ⟨g,cap,cur,hv,hbb,r⟩
  ·exact .inl h'
  ·exact .inr ⟨g,cap,cur,hv,by omega,r⟩⟩,fun i hi h2=>by
  obtain ⟨bv,p,k,q,r⟩:=h.at_ i hi h2
  exact ⟨bv,p,k,by omega,r⟩⟩
theorem Limbs.other {base:Nat} {w w':World} {v:Value} {l:List Bk} {n:Nat} {Bs:List Nat} {g:Nat} (h:Limbs base w v l n Bs) (hg:w.grownBy w' (some g)) (hlt:g < base):Limbs base w' v l n Bs :=
 ⟨h.len,h.le,World.ownsRow.kept h.row hg (.inr (fun e=>by have:=(World.ownsRow.lt h.row g e).1;omega)),fun i hi h2=>by
  obtain ⟨bv,p,k,q,r⟩:=h.at_ i hi h2
  exact ⟨bv,p,(hg.block Bs[i] k.lt (fun e=>by simp only [Option.some.injEq] at e;omega)).trans k,q,r⟩⟩
theorem Limbs.apart {base:Nat} {w:World} {v:Value} {l:List Bk} {n:Nat} {Bs:List Nat} (h:Limbs base w v l n Bs) (i:Nat) (hi:i < Bs.length):v.ownBlock ≠ some Bs[i]:=by
 obtain ⟨bv,p,k,-⟩:=h.at_ i hi (by have:=h.le;have:=h.len;omega)
 rcases h.row.2 with ⟨hv,_⟩ | ⟨g,cap,cur,hv,hbb,hg,r⟩
 ·rw [hv];simp [Value.ownBlock]
 ·rw [hv]
  simp only [Value.ownBlock,ne_eq,Option.some.injEq]
  intro e
  rw [e,show w.heap[Bs[i]]?=_ from k] at hg
  simp only [Option.some.injEq,Obj.cells.injEq] at hg
  exact absurd hg.2.1 (by decide)
theorem Limbs.snoc {base:Nat} {w w':World} {v v':Value} {l:List Bk} {n:Nat} {Bs:List Nat} (h:Limbs base w v l n Bs) (hn:n < l.length) (B:Nat) (hg:w.grownBy w' v.ownBlock) (hrow:w'.ownsRow base 227 1 v' (n+1) (Bs.map ptr ++ [ptr B]))
  (bv:Bv) (p:Value) (hB:Blk w' B 230 (limC l[n] bv p)) (hb:base<=B)
  (hp:(rootB l[n].qr l[n].qb l[n].qw=true/\p=.pointer none)\/∃ j,∃ hj:j < Bs.length,(l[j]'(by have:=h.len;omega)).id=l[n].qb/\p=ptr Bs[j]):Limbs base w' v' l (n+1) (Bs ++ [B]):=by
 have hl:=h.len
 refine ⟨by simp [hl],by omega,by simpa using hrow,fun i hi h2=>?_⟩
 by_cases hin:i < n
 ·obtain ⟨bv2,p2,k,q,r⟩:=h.at_ i (by omega) h2
  rw [List.getElem_append_left (by omega)]
  refine ⟨bv2,p2,(hg.block _ k.lt (h.apart i (by omega)).symm).trans k,q,?_⟩
  rcases r with r | ⟨j,hj,e,f⟩
  ·exact .inl r
  ·refine .inr ⟨j,hj,e,?_⟩
   rw [List.getElem_append_left (by omega)]
   exact f
 ·have e:i=n:=by simp at hi;omega
  subst e
  rw [List.getElem_append_right (by omega)]
  refine ⟨bv,p,by simpa [hl] using hB,by simpa [hl] using hb,?_⟩
  rcases hp with hp | ⟨j,hj,e,f⟩
  ·exact .inl hp
  ·refine .inr ⟨j,by omega,e,?_⟩
   rw [List.getElem_append_left hj]
   exact f
theorem Limbs.rdP {base:Nat} {w:World} {v:Value} {l:List Bk} {n:Nat} {Bs:List Nat} (h:Limbs base w v l n Bs):RdP w v Bs ((l.take n).map (·.id)):=by
 have hl:=h.len
 have hle:=h.le
 refine ⟨by simp;omega,?_,fun i hi h2=>?_⟩
 ·rcases h.row.2 with ⟨hv,hn⟩ | ⟨g,cap,cur,hv,hbb,hg,r⟩
  ·refine ⟨none,0,by rw [hv,hl,hn],fun i hi=>?_⟩
   omega
  ·refine ⟨_,cap,by rw [hv,hl],fun i hi=>⟨g,0,rfl,?_⟩⟩
   have h':=h.row
   rw [hv] at h'
   rw [Nat.zero_add,h'.cellAt i (by omega)]
   simp [hi]
 ·obtain ⟨bv,p,k,-⟩:=h.at_ i hi (by omega)
  rw [k.cell 0]
  simp [limC]
theorem aM_ {base:Nat} {w:World} {e:TypeId} {sz:Nat} {v:Value} {n:Nat} {xs:List Value} (h:w.ownsRow base e sz v n xs):∃ a c,v=.slice a n c:=by
 rcases h.2 with ⟨hv,hn⟩ | ⟨g,cap,cur,hv,r⟩
 ·exact ⟨none,0,by rw [hv,hn]⟩
 ·exact ⟨_,cap,hv⟩
theorem cP_ {ops:Array Oper} {rest:List Oper} {o:Oper} {a:Act} {Q:Exit->Act->World->Prop} (w:World) (hgd:o.guard=none) (s x:Operand)
  (ho:o.op=.call { callee:=.builtin .append,args:=#[s,x],argTypes:=#[219,219] })
  (base:Nat) (v:Value) (C:Nat) (n:Nat) (Bs:List Nat) (B:Nat) (hs:a.eval s=v) (hx:a.eval x=.slice (some ⟨C,0,none⟩) 1 1) (hown:w.ownsRow base 227 1 v n (Bs.map ptr)) (hblk:Blk w C 227 [ptr B])
  (hlen:n<=1000000) (hbase:base<=w.heap.size)
  (h:∀ v' w',w'.ownsRow base 227 1 v' (n+1) (Bs.map ptr ++ [ptr B])->w.grownBy w' v.ownBlock->wpList Tryz.prog ops Q rest (a.put o.dst v') w'):wpList Tryz.prog ops Q (o :: rest) a w:=by
 obtain ⟨i0,hi,hz0,hz1,hz2⟩:=info_parts Tryz.infoPt
 refine wpList_append_own w hgd s x 219 ho base 227 i0 (.pointer none) 1 8 Tryz.underlying219 hi hz0 hz1 hz2 rfl (by decide) v n (Bs.map ptr) hs hown ⟨C,0,none⟩ 1 1 [ptr B] hx rfl (fun j u hj=>by rw [if_,Nat.zero_add,hblk.cell j];exact hj) (fun u hu=>by
  simp only [List.mem_cons,List.not_mem_nil,or_false] at hu
  subst hu;rfl) (by unfold maxLen;omega) (by omega) hbase ?_
 intro v' w' ho' hg _
 exact h v' w' ho' hg
end Go.Proofs.YtamljhcmiphdgaaGreatDoor
