/- The model's certificates. -/
import Derived.Test.YtamljhcmiphdgaaGreatDoorZvVsQuo
set_option maxRecDepth 20000
set_option maxHeartbeats 2000000
namespace Go.Proofs.YtamljhcmiphdgaaGreatDoor
open Go.RowKit
set_option linter.unusedVariables false
def inB (x a b:Int):Bool:=decide (a<=x/\x<=b)
theorem d_ (x a b:Int) (w:World) :
  Calls Tryz.prog 87 #[.int .i64 x,.int .i64 a,.int .i64 b] w fun e w'=>e=.returned (.bool (inB x a b))/\w'=w:=by
 by_cases h1:a<=x
 ·by_cases h2:x<=b
  ·have e:Hid (inB x a b=true):=a_ (by simp [inB,h1,h2])
   go_enter Tryz.func87,Tryz.ntmps87
   go_wp2
   go_ret
   rw [e.out];exact ⟨rfl,rfl⟩
  ·have e:Hid (inB x a b=false):=a_ (by simp [inB,h1,h2])
   go_enter Tryz.func87,Tryz.ntmps87
   go_wp2
   go_ret
   rw [e.out];exact ⟨rfl,rfl⟩
 ·have e:Hid (inB x a b=false):=a_ (by simp [inB,h1])
  go_enter Tryz.func87,Tryz.ntmps87
  go_wp2
  go_ret
  rw [e.out];exact ⟨rfl,rfl⟩
def nbB (x:Int):Bool:=inB x 97 122 || inB x 48 57
def nmB (s:ByteArray):Bool:=s.data.toList.all (fun c=>nbB (c.toNat:Int)) && inB s.size 1 8
theorem in_ (s:ByteArray) (k:Nat) (h:k < s.size):s.data.toList.take (k+1)=s.data.toList.take k ++ [s[k]]:=by
 rw [List.take_succ_eq_append_getElem (by simpa using h)];rfl
theorem ct_ (s:ByteArray) (k:Nat) (h:k < s.size) (p:UInt8->Bool) (h1:(s.data.toList.take k).all p=true) (h2:p s[k]=true):(s.data.toList.take (k+1)).all p=true:=by
 rw [in_ s k h,List.all_append,h1];simp [h2]
theorem gV_ (s:ByteArray) (k:Nat) (h:k < s.size) (p:UInt8->Bool) (h2:p s[k]=false):s.data.toList.all p=false:=by
 rw [Bool.eq_false_iff];intro ha
 rw [List.all_eq_true] at ha
 have:=ha s[k] (by simp [ByteArray.getElem_eq_getElem_data])
 rw [h2] at this;cases this
theorem ex_ (s:ByteArray) (p:UInt8->Bool) (h:(s.data.toList.take s.size).all p=true):s.data.toList.all p=true:=by
 rwa [List.take_of_length_le (by simp)] at h
theorem bb_ (x:Int) (w:World) :
  Calls Tryz.prog 156 #[.int .u8 x] w fun e w'=>e=.returned (.bool (nbB x))/\w'=w:=by
 rcases (show (97<=x/\x<=122)\/(122 < x)\/(57 < x/\x < 97)\/(48<=x/\x<=57)\/x < 48 from by omega) with h | h | h | h | h
 all_goals
  have e:Hid (nbB x=decide ((97<=x/\x<=122)\/(48<=x/\x<=57))):=a_ (by simp only [nbB,inB,Bool.or_eq_decide];simp)
  go_enter Tryz.func156,Tryz.ntmps156
  go_wp2
  go_ret
  exact ⟨b_ (by rw [e.out,Bool.eq_iff_iff];simp only [Bool.or_eq_true,decide_eq_true_eq,Bool.false_eq_true,true_iff,false_iff];omega),rfl⟩
theorem k_ (s:ByteArray) (w:World) (hs:s.size<=maxLen) :
  Calls Tryz.prog 82 #[.string s] w fun e w'=>e=.returned (.bool (nmB s))/\w'=w:=by
 unfold maxLen at hs
 go_enter Tryz.func82,Tryz.ntmps82
 go_wp2
 go_loop [3] (fun i=>∃ k:Nat,k<=s.size/\i=.int .i64 k/\(s.data.toList.take k).all (fun c=>nbB (c.toNat:Int))=true) (fun i=>s.size - (intOf i).toNat)
 case atStart=>exact ⟨0,Nat.zero_le _,rfl,rfl⟩
 case round =>
  obtain ⟨k,hk,rfl,hall⟩:=hrel
  by_cases hlt:k < s.size
  ·have Hall:=a_ hall
   clear hall
   have hb:(s[k].toNat:Int) < 256:=by have:=s[k].toNat_lt;omega
   cases h1:inB (s[k].toNat:Int) 97 122
   ·cases h2:inB (s[k].toNat:Int) 48 57
    ·have hf:Hid (nmB s=false):=a_ (by unfold nmB;rw [gV_ s k hlt _ (by simp only [nbB,h1,h2];rfl)];rfl)
     go_wp2_with (go_at_call 87;refine (d_ _ _ _ _).mono ?_;rintro e w' ⟨rfl,rfl⟩)
     go_ret
     rw [hf.out];exact ⟨rfl,rfl⟩
    ·have hn:Hid (nbB (s[k].toNat:Int)=true):=a_ (by simp [nbB,h1,h2])
     go_wp2_with (go_at_call 87;refine (d_ _ _ _ _).mono ?_;rintro e w' ⟨rfl,rfl⟩)
     go_round
     case rel=>exact ⟨k+1,by omega,by go_num,ct_ s k hlt _ Hall.out hn.out⟩
     case measure=>simp [intOf];omega
   ·have hn:Hid (nbB (s[k].toNat:Int)=true):=a_ (by simp [nbB,h1])
    go_wp2_with (go_at_call 87;refine (d_ _ _ _ _).mono ?_;rintro e w' ⟨rfl,rfl⟩)
    go_round
    case rel=>exact ⟨k+1,by omega,by go_num,ct_ s k hlt _ Hall.out hn.out⟩
    case measure=>simp [intOf];omega
  ·have hf:Hid (nmB s=inB s.size 1 8):=a_ (by
    have:k=s.size:=by omega
    subst this
    unfold nmB;rw [ex_ s _ hall];rfl)
   clear hall
   go_wp2_with (go_at_call 87;refine (d_ _ _ _ _).mono ?_;rintro e w' ⟨rfl,rfl⟩)
   go_ret
   rw [hf.out];exact ⟨rfl,rfl⟩
theorem m_ (s:ByteArray) (w:World) (hs:s.size<=maxLen) :
  Calls Tryz.prog 133 #[.string s] w fun e w'=>e=.returned (.bool (nmB s))/\w'=w:=by
 unfold maxLen at hs
 rcases (show s.size < 1\/8 < s.size\/(1<=s.size/\s.size<=8) from by omega) with h | h | h
 ·have hf:Hid (nmB s=false):=a_ (by unfold nmB inB;rw [decide_eq_false (by omega)];simp)
  go_enter Tryz.func133,Tryz.ntmps133
  go_wp2
  go_ret
  rw [hf.out];exact ⟨rfl,rfl⟩
 ·have hf:Hid (nmB s=false):=a_ (by unfold nmB inB;rw [decide_eq_false (by omega)];simp)
  have h':¬ s.size < 1:=by omega
  go_enter Tryz.func133,Tryz.ntmps133
  go_wp2
  go_ret
  rw [hf.out];exact ⟨rfl,rfl⟩
 ·have hin:inB s.size 1 8=true:=by unfold inB;rw [decide_eq_true (by omega)]
  have Hin:=a_ hin
  clear hin
  go_enter Tryz.func133,Tryz.ntmps133
  go_wp2
  go_loop [14] (fun i=>∃ k:Nat,k<=s.size/\i=.int .i64 k/\(s.data.toList.take k).all (fun c=>nbB (c.toNat:Int))=true) (fun i=>s.size - (intOf i).toNat)
  case atStart=>exact ⟨0,Nat.zero_le _,rfl,rfl⟩
  case round =>
   obtain ⟨k,hk,rfl,hall⟩:=hrel
   by_cases hlt:k < s.size
   ·have Hall:=a_ hall
    clear hall
    cases h1:nbB (s[k].toNat:Int)
    ·have hf:Hid (nmB s=false):=a_ (by unfold nmB;rw [gV_ s k hlt _ h1];rfl)
     go_wp2_with (go_at_call 156;refine (bb_ _ _).mono ?_;rintro e w' ⟨rfl,rfl⟩)
     go_ret
     rw [hf.out];exact ⟨rfl,rfl⟩
    ·have hn:=a_ h1
     go_wp2_with (go_at_call 156;refine (bb_ _ _).mono ?_;rintro e w' ⟨rfl,rfl⟩)
     go_round
     case rel=>exact ⟨k+1,by omega,by go_num,ct_ s k hlt _ Hall.out hn.out⟩
     case measure=>simp [intOf];omega
   ·have hf:Hid (nmB s=true):=a_ (by
     have:k=s.size:=by omega
     subst this
     unfold nmB;rw [ex_ s _ hall,Hin.out];rfl)
    clear hall
    go_wp2
    go_ret
    rw [hf.out];exact ⟨rfl,rfl⟩
def okAt (ls:List ByteArray) (i:Nat):Bool:=nmB (ls.getD i ByteArray.empty) && (decide (i=0) || Op.bytesLess (ls.getD (i - 1) ByteArray.empty).toList (ls.getD i ByteArray.empty).toList)
def nmsB (ls:List ByteArray):Bool:=(List.range ls.length).all (okAt ls) && decide (ls.length<=20)
theorem iC_ (ls:List ByteArray) (k:Nat) (h:k < ls.length) (hk:okAt ls k=false):nmsB ls=false:=by
 unfold nmsB
 rw [Bool.and_eq_false_iff]
 left
 rw [Bool.eq_false_iff];intro ha
 rw [List.all_eq_true] at ha
 have:=ha k (by simpa using h)
 rw [hk] at this;cases this
theorem gW_ (ls:List ByteArray) (h:∀ j,j < ls.length->okAt ls j=true):nmsB ls=decide (ls.length<=20):=by
 unfold nmsB
 have:(List.range ls.length).all (okAt ls)=true:=by
  rw [List.all_eq_true];intro j hj;exact h j (by simpa using hj)
 rw [this];rfl
theorem hk_ (ls:List ByteArray) (k:Nat) (s:ByteArray) (h:k < ls.length) (hs:ls[k]=s):okAt ls k=(nmB s && (decide (k=0) || Op.bytesLess (ls.getD (k - 1) ByteArray.empty).toList s.toList)):=by
 have:ls.getD k ByteArray.empty=s:=by rw [List.getD_eq_getElem?_getD,List.getElem?_eq_getElem h,<- hs];rfl
 unfold okAt;rw [this]
theorem ag_ (v:Value) (ls:List ByteArray) (w:World) (hr:RdS w v ls) (hl:ls.length<=4000000) (hs:∀ s ∈ ls,s.size<=maxLen) :
  Calls Tryz.prog 152 #[v] w fun e w'=>e=.returned (.bool (nmsB ls))/\Sm w w':=by
 rcases hr with ⟨a,cap,rfl,rfl,-⟩ | ⟨b,off,cap,h0,rfl,h1,h2,h3,h4⟩
 ·go_enter Tryz.func152,Tryz.ntmps152
  go_wp2
  refine wp_loop_rounds 1 ?_
  rw [rounds_succ]
  go_wp2
  go_ret
  exact ⟨rfl,Sm.refl _⟩
 ·have H4 := a_ h4
  have Hs:=a_ hs
  clear h4 hs
  go_enter Tryz.func152,Tryz.ntmps152
  go_wp2
  go_loopw [3] (fun i wr=>∃ k:Nat,k<=ls.length/\i=.int .i64 k/\(∀ j,j < k->okAt ls j=true)/\Sm w wr) (fun i _=>ls.length - (intOf i).toNat)
  case atStart=>exact ⟨0,Nat.zero_le _,rfl,fun j hj=>by omega,Sm.refl _⟩
  case round =>
   obtain ⟨k,hk,rfl,hall,hsm⟩:=hrel
   have Hall:=a_ hall
   have Hsm:=a_ hsm
   by_cases hlt:k < ls.length
   ·have hc : wr.cell? ⟨b,off+k,none⟩=some (.string ls[k]):=(hsm.cell _).trans (H4.out k hlt)
    have hsz:=Hs.out ls[k] (List.getElem_mem hlt)
    have Hok:=a_ (hk_ ls k ls[k] hlt rfl)
    have Hno:=a_ (iC_ ls k hlt)
    have hli:(k:Int) < (ls.length:Int):=by omega
    have hprev:k ≥ 1->wr.cell? ⟨b,off+(k - 1),none⟩=some (.string (ls.getD (k - 1) ByteArray.empty)):=fun hk1=>by
     have h:=(hsm.cell _).trans (H4.out (k - 1) (by omega))
     rw [h];rw [List.getD_eq_getElem?_getD,List.getElem?_eq_getElem (by omega)];rfl
    clear hall hsm
    generalize ls[k]=s at hc hsz Hok
    generalize ls.getD (k - 1) ByteArray.empty=p at hprev Hok
    have Hq:=a_ (fun w=>k_ s w hsz)
    clear hsz
    cases hn:nmB s
    ·have hf:=a_ (Hno.out (by rw [Hok.out,hn];rfl))
     rw [hn] at Hq
     clear hn hprev
     go_wp2
     go_quiet ((go_at_call 82;exact Calls.quiet_of_same (Hq.out _)))
     go_wp2
     go_ret
     exact ⟨b_ hf.out.symm,Hsm.out.drewN _⟩
    ·rw [hn] at Hq
     by_cases hk1:k < 1
     ·have hd:decide (0 < k)=false:=by simp;omega
      have hd2:decide ((0:Int) < (k:Int))=false:=by simp;omega
      have Hnx:Hid (okAt ls k=true):=a_ (by rw [Hok.out,hn,show k=0 from by omega];rfl)
      clear hn hprev
      go_wp2
      go_quiet ((go_at_call 82;exact Calls.quiet_of_same (Hq.out _)))
      go_wp2
      go_roundw
      case rel=>exact ⟨k+1,by omega,by go_num,fun j hj=>by
             by_cases hjk:j=k
             ·subst hjk;exact Hnx.out
             ·exact Hall.out j (by omega),Hsm.out.drewN _⟩
      case measure=>simp [intOf];omega
     ·have hcp:=hprev (by omega)
      clear hprev
      have hpos:(0:Int) < (k:Int):=by omega
      have hposN:0 < k:=by omega
      have hd1:decide (0 < k)=true:=by simp;omega
      have hix:((k:Int) - 1).toNat=k - 1:=by omega
      have hix1:(0:Int)<=(k:Int) - 1:=by omega
      have hix2:(k:Int) - 1 < (ls.length:Int):=by omega
      cases hless:Op.bytesLess p.toList s.toList
      ·have hf:=a_ (Hno.out (by rw [Hok.out,hn,hless];simp;omega))
       clear hn
       go_wp2
       go_quiet ((go_at_call 82;exact Calls.quiet_of_same (Hq.out _)))
       go_wp2
       go_ret
       exact ⟨b_ hf.out.symm,Hsm.out.drewN _⟩
      ·have Hnx:Hid (okAt ls k=true):=a_ (by rw [Hok.out,hn,hless];simp)
       clear hn
       go_wp2
       go_quiet ((go_at_call 82;exact Calls.quiet_of_same (Hq.out _)))
       go_wp2
       go_roundw
       case rel=>exact ⟨k+1,by omega,by go_num,fun j hj=>by
              by_cases hjk:j=k
              ·subst hjk;exact Hnx.out
              ·exact Hall.out j (by omega),Hsm.out.drewN _⟩
       case measure=>simp [intOf];omega
   ·have hf:=a_ (gW_ ls (fun j hj=>Hall.out j (by omega)))
    clear hall hsm
    go_wp2
    go_ret
    exact ⟨b_ (by rw [hf.out,Bool.eq_iff_iff];simp only [decide_eq_true_eq];omega),Hsm.out⟩
theorem aj_ (v:Value) (ls:List ByteArray) (w:World) (hr:RdS w v ls) (hl:ls.length<=4000000) (hs:∀ s ∈ ls,s.size<=maxLen) :
  Calls Tryz.prog 192 #[v] w fun e w'=>e=.returned (.bool (nmsB ls))/\w'=w:=by
 by_cases h20:20 < ls.length
 ·have hf:Hid (nmsB ls=false):=a_ (by unfold nmsB;rw [decide_eq_false (by omega)];simp)
  obtain ⟨a,cap,rfl⟩:=hr.shape
  clear hr hs
  go_enter Tryz.func192,Tryz.ntmps192
  go_wp2
  go_ret
  exact ⟨b_ hf.out.symm,rfl⟩
 rcases hr with ⟨a,cap,rfl,rfl,-⟩ | ⟨b,off,cap,h0,rfl,h1,h2,h3,h4⟩
 ·go_enter Tryz.func192,Tryz.ntmps192
  go_wp2
  refine wp_loop_rounds 1 ?_
  rw [rounds_succ]
  go_wp2
  go_ret
  exact ⟨rfl,rfl⟩
 ·have H4 := a_ h4
  have Hs:=a_ hs
  clear h4 hs
  go_enter Tryz.func192,Tryz.ntmps192
  go_wp2
  go_loop [10] (fun i=>∃ k:Nat,k<=ls.length/\i=.int .i64 k/\(∀ j,j < k->okAt ls j=true)) (fun i=>ls.length - (intOf i).toNat)
  case atStart=>exact ⟨0,Nat.zero_le _,rfl,fun j hj=>by omega⟩
  case round =>
   obtain ⟨k,hk,rfl,hall⟩:=hrel
   have Hall:=a_ hall
   by_cases hlt:k < ls.length
   ·have hc : w.cell? ⟨b,off+k,none⟩=some (.string ls[k]):=H4.out k hlt
    have hsz:=Hs.out ls[k] (List.getElem_mem hlt)
    have Hok:=a_ (hk_ ls k ls[k] hlt rfl)
    have Hno:=a_ (iC_ ls k hlt)
    have hli:(k:Int) < (ls.length:Int):=by omega
    have hprev:k ≥ 1->w.cell? ⟨b,off+(k - 1),none⟩=some (.string (ls.getD (k - 1) ByteArray.empty)):=fun hk1=>by
     rw [H4.out (k - 1) (by omega)];rw [List.getD_eq_getElem?_getD,List.getElem?_eq_getElem (by omega)];rfl
    clear hall
    generalize ls[k]=s at hc hsz Hok
    generalize ls.getD (k - 1) ByteArray.empty=p at hprev Hok
    have Hq:=a_ (fun w=>m_ s w hsz)
    clear hsz
    cases hn:nmB s
    ·have hf:=a_ (Hno.out (by rw [Hok.out,hn];rfl))
     rw [hn] at Hq
     clear hn hprev
     go_wp2_with (go_at_call 133;refine (Hq.out _).mono ?_;rintro e w' ⟨rfl,rfl⟩)
     go_ret
     exact ⟨b_ hf.out.symm,rfl⟩
    ·rw [hn] at Hq
     by_cases hk1:k < 1
     ·have Hnx:Hid (okAt ls k=true):=a_ (by rw [Hok.out,hn,show k=0 from by omega];rfl)
      clear hn hprev
      go_wp2_with (go_at_call 133;refine (Hq.out _).mono ?_;rintro e w' ⟨rfl,rfl⟩)
      go_round
      case rel=>exact ⟨k+1,by omega,by go_num,fun j hj=>by
             by_cases hjk:j=k
             ·subst hjk;exact Hnx.out
             ·exact Hall.out j (by omega)⟩
      case measure=>simp [intOf];omega
     ·have hcp:=hprev (by omega)
      clear hprev
      have hpos:(0:Int) < (k:Int):=by omega
      have hposN:0 < k:=by omega
      have hix:((k:Int) - 1).toNat=k - 1:=by omega
      have hix1:(0:Int)<=(k:Int) - 1:=by omega
      have hix2:(k:Int) - 1 < (ls.length:Int):=by omega
      cases hless:Op.bytesLess p.toList s.toList
      ·have hf:=a_ (Hno.out (by rw [Hok.out,hn,hless];simp;omega))
       clear hn
       go_wp2_with (go_at_call 133;refine (Hq.out _).mono ?_;rintro e w' ⟨rfl,rfl⟩)
       go_ret
       exact ⟨b_ hf.out.symm,rfl⟩
      ·have Hnx:Hid (okAt ls k=true):=a_ (by rw [Hok.out,hn,hless];simp)
       clear hn
       go_wp2_with (go_at_call 133;refine (Hq.out _).mono ?_;rintro e w' ⟨rfl,rfl⟩)
       go_round
       case rel=>exact ⟨k+1,by omega,by go_num,fun j hj=>by
              by_cases hjk:j=k
              ·subst hjk;exact Hnx.out
              ·exact Hall.out j (by omega)⟩
       case measure=>simp [intOf];omega
   ·have hf:=a_ (gW_ ls (fun j hj=>Hall.out j (by omega)))
    clear hall
    go_wp2
    go_ret
    exact ⟨b_ (by rw [hf.out,eq_comm,decide_eq_true_eq];omega),rfl⟩
def ModV (l:List Vl):Prop:=(0<=totalV l/\totalV l<=1000000000)/\∀ ns,0<=weightV l ns/\weightV l ns<=1000000000
def qcV (r b:Int) (vw:Value):Value:=.agg #[.int .i64 r,.int .i64 b,vw]
def rootB (r b:Int) (ns:List ByteArray):Bool:=decide (r=0) && (decide (b=-1) && decide (ns.length=0))
def allV (l:List Vl) (ns:List ByteArray):Bool:=ns.all (fun s=>hasN (l.map (·.1)) s) && nmsB ns
def quoB (l:List Vl) (ns:List ByteArray):Bool:=decide (2 * totalV l < 3 * weightV l ns)
def qcB (l:List Vl) (r b:Int) (ns:List ByteArray):Bool:=rootB r b ns || (inB r 1 10000 && (inB b 0 100000 && (allV l ns && quoB l ns)))
theorem fb_ (v:Value) (l:List Vl) (s:ByteArray) (w:World) (hr:RdV w v l) (hl:l.length<=4000000) :
  Calls Tryz.prog 151 #[v,.string s] w fun e w'=>e=.returned (.bool (hasN (l.map (·.1)) s))/\Below w.heap.size w w':=by
 rcases hr with ⟨a,cap,rfl,rfl,-⟩ | ⟨b,off,cap,h0,rfl,h1,h2,h3,h4⟩
 ·go_enter Tryz.func151,Tryz.ntmps151
  go_wp2
  refine wp_loop_rounds 1 ?_
  rw [rounds_succ]
  go_wp2
  go_ret
  exact ⟨rfl,br_ _ _⟩
 ·have H4:=a_ h4
  clear h4
  go_enter Tryz.func151,Tryz.ntmps151
  go_wp2
  go_loopw [5] (fun i wr=>∃ k:Nat,k<=l.length/\i=.int .i64 k/\s ∉ (l.map (·.1)).take k/\Below w.heap.size w wr) (fun i _=>l.length - (intOf i).toNat)
  case atStart=>exact ⟨0,Nat.zero_le _,rfl,by simp,br_ _ _⟩
  case round =>
   obtain ⟨k,hk,rfl,hno,hb⟩:=hrel
   have Hno:=a_ hno
   clear hno
   by_cases hlt:k < l.length
   ·have hc:=(hb.cell (p:=⟨b,off+k * 2,none⟩) h3).trans (H4.out k hlt).1
    have hli:(k:Int) < (l.length:Int):=by omega
    have hlm:k < (l.map (·.1)).length:=by simpa using hlt
    by_cases he:l[k].1=s
    ·have Hr:Hid (hasN (l.map (·.1)) s=true):=a_ (bq_ (by rw [<- he];exact List.mem_map_of_mem (List.getElem_mem _)))
     rw [he] at hc
     clear he
     go_wp2
     go_ret
     exact ⟨b_ Hr.out.symm,hb⟩
    ·have Hn2:=a_ (bk_ hlm Hno.out (by simpa using he))
     have hq:=A_ he
     clear he Hno
     generalize l[k].1=t at hc hq
     go_wp2
     go_roundw
     case rel=>exact ⟨k+1,by omega,by go_num,Hn2.out,hb⟩
     case measure=>simp [intOf];omega
   ·have Hr:Hid (hasN (l.map (·.1)) s=false):=a_ (ce_ (by have:=Hno.out;rwa [List.take_of_length_le (by simp;omega)] at this))
    go_wp2
    go_ret
    exact ⟨b_ Hr.out.symm,hb⟩
theorem all_no (l:List Vl) (ns:List ByteArray) (k:Nat) (h:k < ns.length) (hk:hasN (l.map (·.1)) ns[k]=false):allV l ns=false:=by
 unfold allV
 have:ns.all (fun s=>hasN (l.map (·.1)) s)=false:=by
  rw [List.all_eq_false]
  exact ⟨ns[k],List.getElem_mem _,by simp [hk]⟩
 rw [this,Bool.false_and]
theorem ky_ (l:List Vl) (ns:List ByteArray) (h:∀ j (hj:j < ns.length),hasN (l.map (·.1)) ns[j]=true):allV l ns=nmsB ns:=by
 unfold allV
 have:ns.all (fun s=>hasN (l.map (·.1)) s)=true:=by
  rw [List.all_eq_true]
  intro s hs
  obtain ⟨j,hj,rfl⟩:=List.mem_iff_getElem.1 hs
  exact h j hj
 rw [this,Bool.true_and]
theorem bB_ (v vn:Value) (l:List Vl) (ns:List ByteArray) (w:World) (hr:RdV w v l) (hrn:RdS w vn ns) (hl:l.length<=4000000) (hln:ns.length<=4000000) (hs:∀ s ∈ ns,s.size<=maxLen) :
  Calls Tryz.prog 129 #[v,vn] w fun e w'=>e=.returned (.bool (allV l ns))/\Below w.heap.size w w':=by
 obtain ⟨al,cl,rfl⟩:=hr.shape
 have HN:=a_ (fun w h=>ag_ vn ns w h hln hs)
 have Hrn:=a_ hrn
 rcases hrn with ⟨a,cap,rfl,rfl,-⟩ | ⟨b,off,cap,h0,rfl,h1,h2,h3,h4⟩
 ·clear hr
  go_enter Tryz.func129,Tryz.ntmps129
  go_wp2
  refine wp_loop_rounds 1 ?_
  rw [rounds_succ]
  go_wp2_with fail
  refine (HN.out _ Hrn.out).mono ?_
  rintro e w2 ⟨rfl,hb2⟩
  go_wp2
  go_ret
  exact ⟨rfl,hb2 _⟩
 ·have H4:=a_ h4
  have HI:=a_ (fun s w h=>fb_ (.slice al l.length cl) l s w h hl)
  have Hr:=a_ hr
  clear h4 hr
  go_enter Tryz.func129,Tryz.ntmps129
  go_wp2
  go_loopw [5] (fun i wr=>∃ k:Nat,k<=ns.length/\i=.int .i64 k/\(∀ j (hj:j < ns.length),j < k->hasN (l.map (·.1)) ns[j]=true)/\Below w.heap.size w wr) (fun i _=>ns.length - (intOf i).toNat)
  case atStart=>exact ⟨0,Nat.zero_le _,rfl,fun j _ hj=>by omega,br_ _ _⟩
  case round =>
   obtain ⟨k,hk,rfl,hok,hb⟩:=hrel
   have Hok:=a_ hok
   clear hok
   by_cases hlt:k < ns.length
   ·have hc:=(hb.cell (p:=⟨b,off+k,none⟩) h3).trans (H4.out k hlt)
    have hli:(k:Int) < (ns.length:Int):=by omega
    have HI2:=a_ (HI.out ns[k] wr (Hr.out.below hb (nr_ _)))
    have Hno:=a_ (all_no l ns k hlt)
    have Hnx:Hid (hasN (l.map (·.1)) ns[k]=true->∀ j (hj:j < ns.length),j < k+1->hasN (l.map (·.1)) ns[j]=true):=a_ (fun h j hj hjk=>by
     by_cases e:j=k
     ·subst e;exact h
     ·exact Hok.out j hj (by omega))
    generalize ns[k]=s at hc HI2 Hno Hnx
    have Hb:=a_ hb
    clear hb
    cases hh:hasN (l.map (·.1)) s
    ·rw [hh] at HI2
     have Hf:=a_ (Hno.out hh)
     clear hh Hnx
     go_wp2_with fail
     refine HI2.out.mono ?_
     rintro e w2 ⟨rfl,hb2⟩
     have HB2:=a_ (Hb.out.trans (hb2.mono Hb.out.size))
     go_wp2
     go_ret
     exact ⟨b_ Hf.out.symm,HB2.out⟩
    ·rw [hh] at HI2
     have Hnx:=a_ (Hnx.out hh)
     clear hh
     go_wp2_with fail
     refine HI2.out.mono ?_
     rintro e w2 ⟨rfl,hb2⟩
     have HB2:=a_ (Hb.out.trans (hb2.mono Hb.out.size))
     clear hb2
     go_wp2
     go_roundw
     case rel=>exact ⟨k+1,by omega,by go_num,Hnx.out,HB2.out⟩
     case measure=>simp [intOf];omega
   ·have Hf:=a_ (ky_ l ns (fun j hj=>Hok.out j hj (by omega)))
    have HN2:=a_ (HN.out wr (Hrn.out.below hb (nr_ _)))
    have Hb:=a_ hb
    clear hb
    generalize nmsB ns=N at Hf HN2
    go_wp2_with fail
    refine HN2.out.mono ?_
    rintro e w2 ⟨rfl,hb2⟩
    have HB2:=a_ (Hb.out.trans (hb2 _))
    go_wp2
    go_ret
    exact ⟨b_ Hf.out.symm,HB2.out⟩
theorem ap_ (r b:Int) (vw:Value) (ws:List ByteArray) (w:World) (hrw:RdS w vw ws) (hlw:ws.length<=4000000) :
  Calls Tryz.prog 127 #[qcV r b vw] w fun e w'=>e=.returned (.bool (rootB r b ws))/\Below w.heap.size w w':=by
 obtain ⟨a,c,rfl⟩:=hrw.shape
 clear hrw
 simp only [qcV]
 have HB:=a_ ((br_ _ w).alloc (nr_ _) (.cells #[.int .i64 r,.int .i64 b,.slice a ws.length c] 48))
 by_cases h1:r=0
 ·by_cases h2:b=-1
  ·by_cases h3:ws.length=0
   ·have Hf:Hid (rootB r b ws=true):=a_ (by unfold rootB;rw [decide_eq_true h1,decide_eq_true h2,decide_eq_true h3];rfl)
    have h3i:((ws.length:Int) == 0)=true:=by rw [beq_iff_eq];omega
    subst h1 h2
    generalize rootB 0 (-1) ws=X at Hf ⊢
    clear h3
    go_enter Tryz.func127,Tryz.ntmps127
    go_wp2
    go_ret
    exact ⟨b_ Hf.out.symm,HB.out⟩
   ·have Hf:Hid (rootB r b ws=false):=a_ (by unfold rootB;rw [decide_eq_false h3,Bool.and_false,Bool.and_false])
    have h3i:((ws.length:Int) == 0)=false:=by rw [beq_eq_false_iff_ne];omega
    subst h1 h2
    generalize rootB 0 (-1) ws=X at Hf ⊢
    go_enter Tryz.func127,Tryz.ntmps127
    go_wp2
    go_ret
    exact ⟨b_ Hf.out.symm,HB.out⟩
  ·have Hf:Hid (rootB r b ws=false):=a_ (by unfold rootB;rw [decide_eq_false h2,Bool.false_and,Bool.and_false])
   have h2i:(b == -1)=false:=by rw [beq_eq_false_iff_ne];exact h2
   subst h1
   generalize rootB 0 b ws=X at Hf ⊢
   clear h2
   go_enter Tryz.func127,Tryz.ntmps127
   go_wp2
   go_ret
   exact ⟨b_ Hf.out.symm,HB.out⟩
 ·have Hf:Hid (rootB r b ws=false):=a_ (by unfold rootB;rw [decide_eq_false h1,Bool.false_and])
  have h1i:(r == 0)=false:=by rw [beq_eq_false_iff_ne];exact h1
  generalize rootB r b ws=X at Hf ⊢
  clear h1
  go_enter Tryz.func127,Tryz.ntmps127
  go_wp2
  go_ret
  exact ⟨b_ Hf.out.symm,HB.out⟩
theorem fD_ (v vw:Value) (l:List Vl) (r b:Int) (ws:List ByteArray) (w:World) (hr:RdV w v l) (hrw:RdS w vw ws) (hl:l.length<=4000000) (hlw:ws.length<=4000000) (hs:∀ s ∈ ws,s.size<=maxLen) (hm:ModV l) :
  Calls Tryz.prog 88 #[v,qcV r b vw] w fun e w'=>e=.returned (.bool (qcB l r b ws))/\Below w.heap.size w w':=by
 obtain ⟨al,cl,rfl⟩:=hr.shape
 obtain ⟨a,c,rfl⟩:=hrw.shape
 obtain ⟨w1,hw1⟩:∃ w1,w.alloc (.cells #[.int .i64 r,.int .i64 b,.slice a ws.length c] 48)=w1:=⟨_,rfl⟩
 have hb1:Below w.heap.size w w1:=by rw [<- hw1];exact (br_ _ w).alloc (nr_ _) _
 have k1:Blk w1 w.heap.size 48 [.int .i64 r,.int .i64 b,.slice a ws.length c]:=by rw [<- hw1];exact Blk.new w _ _
 have HR:=a_ (ap_ r b _ ws w1 (hrw.below hb1 (nr_ _)) hlw)
 have HA:=a_ (fun V (hb:Below w.heap.size w V)=>bB_ (.slice al l.length cl) (.slice a ws.length c) l ws V (hr.below hb (nr_ _)) (hrw.below hb (nr_ _)) hl hlw hs)
 have HQ:=a_ (fun V (hb:Below w.heap.size w V)=>az_ (.slice al l.length cl) (.slice a ws.length c) l ws V (hr.below hb (nr_ _)) (hrw.below hb (nr_ _)) hl hlw hm.1 (hm.2 ws))
 have HX:Hid (qcB l r b ws=(rootB r b ws || (inB r 1 10000 && (inB b 0 100000 && (allV l ws && quoB l ws))))):=a_ rfl
 have HU:Hid (decide (2 * totalV l < 3 * weightV l ws)=quoB l ws):=a_ rfl
 rw [HU.out] at HQ
 generalize qcB l r b ws=X at HX ⊢
 generalize rootB r b ws=R0 at HX HR
 generalize allV l ws=A0 at HX HA
 generalize quoB l ws=Q0 at HX HQ HU
 simp only [qcV] at *
 have x0:=k1.cell 0
 have x1:=k1.cell 1
 have x2:=k1.cell 2
 simp only [gz_,gs_] at x0 x1 x2
 clear hr hrw hs hm HU
 cases R0
 ·rw [Bool.false_or] at HX
  go_enter Tryz.func88,Tryz.ntmps88
  go_wp2_with fail
  refine HR.out.mono ?_
  rintro e w2 ⟨rfl,hb2⟩
  have k2:=k1.below hb2 k1.lt
  have hB2:=hb1.trans (hb2.mono hb1.size)
  have y0:=k2.cell 0
  have y1:=k2.cell 1
  have y2:=k2.cell 2
  simp only [gz_,gs_] at y0 y1 y2
  clear x0 x1 x2 k1 hb2 hw1
  cases h1:inB r 1 10000
  ·rw [h1,Bool.false_and] at HX
   go_wp2_with (go_at_call 87;refine (d_ _ _ _ _).mono ?_;rintro e w3 ⟨rfl,rfl⟩)
   go_ret
   exact ⟨b_ HX.out.symm,hB2⟩
  ·rw [h1,Bool.true_and] at HX
   cases h2:inB b 0 100000
   ·rw [h2,Bool.false_and] at HX
    go_wp2_with (go_at_call 87;refine (d_ _ _ _ _).mono ?_;rintro e w3 ⟨rfl,rfl⟩)
    go_ret
    exact ⟨b_ HX.out.symm,hB2⟩
   ·rw [h2,Bool.true_and] at HX
    have HA2:=a_ (HA.out _ hB2)
    cases A0
    ·rw [Bool.false_and] at HX
     go_wp2_with (first
      | (go_at_call 87;refine (d_ _ _ _ _).mono ?_;rintro e w3 ⟨rfl,rfl⟩)
      | (go_at_call 129;refine HA2.out.mono ?_;rintro e w4 ⟨rfl,hb4⟩))
     go_ret
     exact ⟨b_ HX.out.symm,hB2.trans (hb4.mono hB2.size)⟩
    ·rw [Bool.true_and] at HX
     go_wp2_with (first
      | (go_at_call 87;refine (d_ _ _ _ _).mono ?_;rintro e w3 ⟨rfl,rfl⟩)
      | (go_at_call 129;refine HA2.out.mono ?_;rintro e w4 ⟨rfl,hb4⟩;have hB4:=hB2.trans (hb4.mono hB2.size);have k4:=k2.below hb4 k2.lt;have z2:=k4.cell 2;simp only [gz_,gs_] at z2)
      | (go_at_call 130;refine (HQ.out _ hB4).mono ?_;rintro e w5 ⟨rfl,hb5⟩))
     go_ret
     exact ⟨b_ HX.out.symm,hB4.trans (hb5.mono hB4.size)⟩
 ·rw [Bool.true_or] at HX
  go_enter Tryz.func88,Tryz.ntmps88
  go_wp2_with fail
  refine HR.out.mono ?_
  rintro e w2 ⟨rfl,hb2⟩
  have hB2:=hb1.trans (hb2.mono hb1.size)
  clear x0 x1 x2 k1 hb2
  go_wp2
  go_ret
  exact ⟨b_ HX.out.symm,hB2⟩
end Go.Proofs.YtamljhcmiphdgaaGreatDoor
