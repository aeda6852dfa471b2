/- When a node is right (plain); who votes, where the set is right or none, is not of great weight. -/
import Derived.Test.YtamljhcmiphdgaaGreatDoorZvTxLessI
import Derived.Test.YtamljhcmiphdgaaGreatDoorZvNdRd
import Derived.Test.YtamljhcmiphdgaaGreatDoorZvNdEp
set_option maxRecDepth 20000
set_option maxHeartbeats 2000000
namespace Go.Proofs.YtamljhcmiphdgaaGreatDoor
open Go.RowKit Go.Sort
set_option linter.unusedVariables false
theorem bu_ {w:World} {b o:Nat} {kd am nc:Int} {fm tn:ByteArray} (h:TxAt w b o (kd,fm,tn,am,nc)):w.cell? ⟨b,o,none⟩=some (.int .i64 kd)/\w.cell? ⟨b,o+1,none⟩=some (.string fm)/\w.cell? ⟨b,o+2,none⟩=some (.string tn)/\w.cell? ⟨b,o+3,none⟩=some (.int .i64 am)/\w.cell? ⟨b,o+4,none⟩=some (.int .i64 nc):=⟨h.c0,h.c1,h.c2,h.c3,h.c4⟩
theorem ab_ (v:Value) (l:List Tx5) (w:World) (hr:RdT w v l) (hl:l.length<=4000000) (hall:∀ a ∈ l,a.2.1.size<=maxLen/\a.2.2.1.size<=maxLen) :
  Calls Tryz.prog 84 #[v] w fun e w'=>e=.returned (.bool (poolB l))/\Below w.heap.size w w':=by
 rcases hr with ⟨a,cap,rfl,rfl,-⟩ | ⟨b,off,cap,h0,rfl,h1,h2,h3,h4⟩
 ·go_enter Tryz.func84,Tryz.ntmps84
  go_wp2
  refine wp_loop_rounds 1 ?_
  rw [rounds_succ]
  go_wp2
  go_ret
  exact ⟨rfl,br_ _ _⟩
 ·have H4 := a_ h4
  have Hs:=a_ hall
  clear h4 hall
  go_enter Tryz.func84,Tryz.ntmps84
  go_wp2
  go_loopw [3] (fun i wr=>∃ k:Nat,k<=l.length/\i=.int .i64 k/\(∀ j,j < k->poAt l j=true)/\Below w.heap.size w wr) (fun i _=>l.length - (intOf i).toNat)
  case atStart=>exact ⟨0,Nat.zero_le _,rfl,fun j hj=>by omega,br_ _ _⟩
  case round =>
   obtain ⟨k,hk,rfl,hok,hb⟩:=hrel
   have Hall:=a_ hok
   clear hok
   by_cases hlt:k < l.length
   ·have hT:=(H4.out k hlt).below hb h3
    have hsz:=Hs.out l[k] (List.getElem_mem hlt)
    have Hok:=a_ (ca_ l k l[k] hlt rfl)
    have Hno:=a_ (he_ l k hlt)
    have hli:(k:Int) < (l.length:Int):=by omega
    have Hnx:Hid (poAt l k=true->∀ j,j < k+1->poAt l j=true):=a_ (fun h j hj=>by
     by_cases e:j=k
     ·subst e;exact h
     ·exact Hall.out j (by omega))
    have hprev:Hid (k ≥ 1->TxAt wr b (off+(k - 1) * 5) (l.getD (k - 1) tx0)):=a_ (fun hk1=>by
     rw [U_ (show k - 1 < l.length by omega)]
     exact (H4.out (k - 1) (by omega)).below hb h3)
    generalize l[k]=ak at hT Hok hsz
    generalize l.getD (k - 1) tx0=pn at hprev Hok
    obtain ⟨kd,fm,tn,am,nc⟩:=ak
    obtain ⟨kp,fp,tp,ap,np⟩:=pn
    simp only at hsz
    obtain ⟨c0,c1,c2,c3,c4⟩:=bu_ hT
    have g0:=cell_regrown c0
    have g1:=cell_regrown c1
    have g2:=cell_regrown c2
    have g3:=cell_regrown c3
    have g4:=cell_regrown c4
    have hB:Hid (Below w.heap.size w wr):=a_ hb
    clear c0 c1 c2 c3 c4 hT
    have HN:=a_ (fun (d:Nat) (os:Array Obj)=>Calls.regrown_of (bP_ (kd,fm,tn,am,nc) (grow (redrawn wr d) os) hsz.1 hsz.2))
    have HL:=a_ (fun (d:Nat) (os:Array Obj)=>Calls.regrown_of (be_ (kp,fp,tp,ap,np) (kd,fm,tn,am,nc) (grow (redrawn wr d) os)))
    simp only [txV] at HN HL
    clear hsz
    have hb:=hB.out
    clear hB
    have Hb:=a_ hb
    clear hb
    cases hn:txB (kd,fm,tn,am,nc)
    ·have hf:=a_ (Hno.out (by rw [Hok.out,hn];rfl))
     rw [hn] at HN
     clear hn hprev Hnx HL
     go_wp2
     refine wp_region_quiet_below (by kernel_rfl) (by kernel_rfl) ?_
     repeat (go_big_quiet_step ((first | (go_at_call 125;exact HN.out _ _) | (go_at_call 90;exact HL.out _ _))))
     refine wpQuiet_nil ?_
     intro _ hw'
     obtain ⟨⟨dq,osq⟩,hw''⟩:=hw'
     subst hw''
     go_wp2
     go_ret
     exact ⟨b_ hf.out.symm,Hb.out.trans ((below_regrown wr dq osq).mono Hb.out.size)⟩
    ·rw [hn] at HN
     by_cases hk1:k < 1
     ·have hd:decide (0 < k)=false:=by simp;omega
      have hd2:decide ((0:Int) < (k:Int))=false:=by simp;omega
      have Hnx:=a_ (Hnx.out (by rw [Hok.out,hn,show k=0 from by omega];rfl))
      clear hn hprev HL
      go_wp2
      refine wp_region_quiet_below (by kernel_rfl) (by kernel_rfl) ?_
      repeat (go_big_quiet_step ((first | (go_at_call 125;exact HN.out _ _) | (go_at_call 90;exact HL.out _ _))))
      refine wpQuiet_nil ?_
      intro _ hw'
      obtain ⟨⟨dq,osq⟩,hw''⟩:=hw'
      subst hw''
      go_wp2
      go_roundw
      case rel=>exact ⟨k+1,by omega,by go_num,Hnx.out,Hb.out.trans ((below_regrown wr dq osq).mono Hb.out.size)⟩
      case measure=>simp [intOf];omega
     ·obtain ⟨p0,p1,p2,p3,p4⟩:=bu_ (hprev.out (by omega))
      have q0:=cell_regrown p0
      have q1:=cell_regrown p1
      have q2:=cell_regrown p2
      have q3:=cell_regrown p3
      have q4:=cell_regrown p4
      clear hprev p0 p1 p2 p3 p4
      have hpos:(0:Int) < (k:Int):=by omega
      have hposN:0 < k:=by omega
      have hd1:decide (0 < k)=true:=by simp;omega
      have hix:((k:Int) - 1).toNat=k - 1:=by omega
      have hix1:(0:Int)<=(k:Int) - 1:=by omega
      have hix2:(k:Int) - 1 < (l.length:Int):=by omega
      cases hless:lessT (kp,fp,tp,ap,np) (kd,fm,tn,am,nc)
      ·have hf:=a_ (Hno.out (by rw [Hok.out,hn,hless];simp;omega))
       rw [hless] at HL
       clear hn hless Hnx
       go_wp2
       refine wp_region_quiet_below (by kernel_rfl) (by kernel_rfl) ?_
       repeat (go_big_quiet_step ((first | (go_at_call 125;exact HN.out _ _) | (go_at_call 90;exact HL.out _ _))))
       refine wpQuiet_nil ?_
       intro _ hw'
       obtain ⟨⟨dq,osq⟩,hw''⟩:=hw'
       subst hw''
       go_wp2
       go_ret
       exact ⟨b_ hf.out.symm,Hb.out.trans ((below_regrown wr dq osq).mono Hb.out.size)⟩
      ·have Hnx:=a_ (Hnx.out (by rw [Hok.out,hn,hless];simp))
       rw [hless] at HL
       clear hn hless
       go_wp2
       refine wp_region_quiet_below (by kernel_rfl) (by kernel_rfl) ?_
       repeat (go_big_quiet_step ((first | (go_at_call 125;exact HN.out _ _) | (go_at_call 90;exact HL.out _ _))))
       refine wpQuiet_nil ?_
       intro _ hw'
       obtain ⟨⟨dq,osq⟩,hw''⟩:=hw'
       subst hw''
       go_wp2
       go_roundw
       case rel=>exact ⟨k+1,by omega,by go_num,Hnx.out,Hb.out.trans ((below_regrown wr dq osq).mono Hb.out.size)⟩
       case measure=>simp [intOf];omega
   ·have hf:=a_ (fm_ l (fun j hj=>Hall.out j (by omega)))
    by_cases h20:l.length<=20
    ·have hf:=a_ (hf.out.trans (decide_eq_true h20))
     have hle:(l.length:Int)<=20:=by omega
     go_wp2
     go_ret
     exact ⟨b_ hf.out.symm,hb⟩
    ·have hf:=a_ (hf.out.trans (decide_eq_false h20))
     have hle:¬ ((l.length:Int)<=20):=by omega
     go_wp2
     go_ret
     exact ⟨b_ hf.out.symm,hb⟩
theorem aX_ (v:Value) (l:List Tx5) (w:World) (hr:RdT w v l) (hl:l.length<=4000000) (hall:∀ a ∈ l,a.2.1.size<=maxLen/\a.2.2.1.size<=maxLen) :
  Calls Tryz.prog 136 #[v] w fun e w'=>e=.returned (.bool (poolB l))/\Below w.heap.size w w':=by
 rcases hr with ⟨a,cap,rfl,rfl,-⟩ | ⟨b,off,cap,h0,rfl,h1,h2,h3,h4⟩
 ·go_enter Tryz.func136,Tryz.ntmps136
  go_wp2
  refine wp_loop_rounds 1 ?_
  rw [rounds_succ]
  go_wp2
  go_ret
  exact ⟨rfl,br_ _ _⟩
 ·have H4 := a_ h4
  have Hs:=a_ hall
  clear h4 hall
  rcases Nat.lt_or_ge 20 l.length with h20 | h20
  ·have Hno:Hid (poolB l=false):=a_ (by unfold poolB;rw [decide_eq_false (by omega),Bool.and_false])
   have hgt:(20:Int) < (l.length:Int):=by omega
   clear h20
   go_enter Tryz.func136,Tryz.ntmps136
   go_wp2
   go_ret
   exact ⟨b_ Hno.out.symm,br_ _ _⟩
  have hle:¬ ((20:Int) < (l.length:Int)):=by omega
  have H20:=a_ h20
  clear h20
  go_enter Tryz.func136,Tryz.ntmps136
  go_wp2
  go_loopw [10] (fun i wr=>∃ k:Nat,k<=l.length/\i=.int .i64 k/\(∀ j,j < k->poAt l j=true)/\Below w.heap.size w wr) (fun i _=>l.length - (intOf i).toNat)
  case atStart=>exact ⟨0,Nat.zero_le _,rfl,fun j hj=>by omega,br_ _ _⟩
  case round =>
   obtain ⟨k,hk,rfl,hok,hb⟩:=hrel
   have Hall:=a_ hok
   clear hok
   by_cases hlt:k < l.length
   ·have hT:=(H4.out k hlt).below hb h3
    have hsz:=Hs.out l[k] (List.getElem_mem hlt)
    have Hok:=a_ (ca_ l k l[k] hlt rfl)
    have Hno:=a_ (he_ l k hlt)
    have hli:(k:Int) < (l.length:Int):=by omega
    have Hnx:Hid (poAt l k=true->∀ j,j < k+1->poAt l j=true):=a_ (fun h j hj=>by
     by_cases e:j=k
     ·subst e;exact h
     ·exact Hall.out j (by omega))
    have hprev:Hid (k ≥ 1->TxAt wr b (off+(k - 1) * 5) (l.getD (k - 1) tx0)):=a_ (fun hk1=>by
     rw [U_ (show k - 1 < l.length by omega)]
     exact (H4.out (k - 1) (by omega)).below hb h3)
    generalize l[k]=ak at hT Hok hsz
    generalize l.getD (k - 1) tx0=pn at hprev Hok
    obtain ⟨kd,fm,tn,am,nc⟩:=ak
    obtain ⟨kp,fp,tp,ap,np⟩:=pn
    simp only at hsz
    obtain ⟨c0,c1,c2,c3,c4⟩:=bu_ hT
    obtain ⟨w1,hw1⟩:∃ w1,wr.alloc (.cells #[.int .i64 kd,.string fm,.string tn,.int .i64 am,.int .i64 nc] 59)=w1:=⟨_,rfl⟩
    have hA:Below wr.heap.size wr w1:=by rw [<- hw1];exact (br_ _ wr).alloc (nr_ _) _
    have hbb:b < wr.heap.size:=Nat.lt_of_lt_of_le h3 hb.size
    have hB:Hid (Below w.heap.size w w1):=a_ (hb.trans (hA.mono hb.size))
    have hk1:Blk w1 wr.heap.size 59 [.int .i64 kd,.string fm,.string tn,.int .i64 am,.int .i64 nc]:=by rw [<- hw1];exact Blk.new wr _ _
    have e0:=hk1.cell 0
    have e1:=hk1.cell 1
    have e2:=hk1.cell 2
    have e3:=hk1.cell 3
    have e4:=hk1.cell 4
    simp only [gz_,gs_] at e0 e1 e2 e3 e4
    have g0:=cell_regrown e0
    have g1:=cell_regrown e1
    have g2:=cell_regrown e2
    have g3:=cell_regrown e3
    have g4:=cell_regrown e4
    have hprev:=a_ (fun h=>(hprev.out h).below hA hbb)
    clear e0 e1 e2 e3 e4 hk1 hA hT
    have HN:=a_ (fun (d:Nat) (os:Array Obj)=>Calls.regrown_of (bO_ (kd,fm,tn,am,nc) (grow (redrawn w1 d) os) hsz.1 hsz.2))
    have HL:=a_ (fun (d:Nat) (os:Array Obj)=>Calls.regrown_of (ba_ (kp,fp,tp,ap,np) (kd,fm,tn,am,nc) (grow (redrawn w1 d) os)))
    simp only [txV] at HN HL
    clear hsz
    have hb:=hB.out
    clear hB
    have Hb:=a_ hb
    clear hb
    cases hn:txB (kd,fm,tn,am,nc)
    ·have hf:=a_ (Hno.out (by rw [Hok.out,hn];rfl))
     rw [hn] at HN
     clear hn hprev Hnx HL
     go_wp2
     clear c0 c1 c2 c3 c4
     refine wp_region_quiet_below (by kernel_rfl) (by kernel_rfl) ?_
     repeat (go_big_quiet_step ((first | (go_at_call 165;exact HN.out _ _) | (go_at_call 139;exact HL.out _ _))))
     refine wpQuiet_nil ?_
     intro _ hw'
     obtain ⟨⟨dq,osq⟩,hw''⟩:=hw'
     subst hw''
     go_wp2
     go_ret
     exact ⟨b_ hf.out.symm,Hb.out.trans ((below_regrown w1 dq osq).mono Hb.out.size)⟩
    ·rw [hn] at HN
     by_cases hk1:k < 1
     ·have hd:decide (0 < k)=false:=by simp;omega
      have hd2:decide ((0:Int) < (k:Int))=false:=by simp;omega
      have Hnx:=a_ (Hnx.out (by rw [Hok.out,hn,show k=0 from by omega];rfl))
      clear hn hprev HL
      go_wp2
      clear c0 c1 c2 c3 c4
      refine wp_region_quiet_below (by kernel_rfl) (by kernel_rfl) ?_
      repeat (go_big_quiet_step ((first | (go_at_call 165;exact HN.out _ _) | (go_at_call 139;exact HL.out _ _))))
      refine wpQuiet_nil ?_
      intro _ hw'
      obtain ⟨⟨dq,osq⟩,hw''⟩:=hw'
      subst hw''
      go_wp2
      go_roundw
      case rel=>exact ⟨k+1,by omega,by go_num,Hnx.out,Hb.out.trans ((below_regrown w1 dq osq).mono Hb.out.size)⟩
      case measure=>simp [intOf];omega
     ·obtain ⟨p0,p1,p2,p3,p4⟩:=bu_ (hprev.out (by omega))
      have q0:=cell_regrown p0
      have q1:=cell_regrown p1
      have q2:=cell_regrown p2
      have q3:=cell_regrown p3
      have q4:=cell_regrown p4
      clear hprev p0 p1 p2 p3 p4
      have hpos:(0:Int) < (k:Int):=by omega
      have hposN:0 < k:=by omega
      have hd1:decide (0 < k)=true:=by simp;omega
      have hix:((k:Int) - 1).toNat=k - 1:=by omega
      have hix1:(0:Int)<=(k:Int) - 1:=by omega
      have hix2:(k:Int) - 1 < (l.length:Int):=by omega
      cases hless:lessT (kp,fp,tp,ap,np) (kd,fm,tn,am,nc)
      ·have hf:=a_ (Hno.out (by rw [Hok.out,hn,hless];simp;omega))
       rw [hless] at HL
       clear hn hless Hnx
       go_wp2
       clear c0 c1 c2 c3 c4
       refine wp_region_quiet_below (by kernel_rfl) (by kernel_rfl) ?_
       repeat (go_big_quiet_step ((first | (go_at_call 165;exact HN.out _ _) | (go_at_call 139;exact HL.out _ _))))
       refine wpQuiet_nil ?_
       intro _ hw'
       obtain ⟨⟨dq,osq⟩,hw''⟩:=hw'
       subst hw''
       go_wp2
       go_ret
       exact ⟨b_ hf.out.symm,Hb.out.trans ((below_regrown w1 dq osq).mono Hb.out.size)⟩
      ·have Hnx:=a_ (Hnx.out (by rw [Hok.out,hn,hless];simp))
       rw [hless] at HL
       clear hn hless
       go_wp2
       clear c0 c1 c2 c3 c4
       refine wp_region_quiet_below (by kernel_rfl) (by kernel_rfl) ?_
       repeat (go_big_quiet_step ((first | (go_at_call 165;exact HN.out _ _) | (go_at_call 139;exact HL.out _ _))))
       refine wpQuiet_nil ?_
       intro _ hw'
       obtain ⟨⟨dq,osq⟩,hw''⟩:=hw'
       subst hw''
       go_wp2
       go_roundw
       case rel=>exact ⟨k+1,by omega,by go_num,Hnx.out,Hb.out.trans ((below_regrown w1 dq osq).mono Hb.out.size)⟩
       case measure=>simp [intOf];omega
   ·have hf:=a_ (fm_ l (fun j hj=>Hall.out j (by omega)))
    have hf:=a_ (hf.out.trans (decide_eq_true H20.out))
    go_wp2
    go_ret
    exact ⟨b_ hf.out.symm,hb⟩
open Go.RowKit
theorem hb_ (f:Vl->Int):∀ (l:List Vl) (s:Int),(∀ p ∈ l,0<=f p/\f p<=1000001)->0<=s->s+1000001 * l.length<=1000000000->0<=l.foldl (fun s p=>wrap64 (s+f p)) s/\l.foldl (fun s p=>wrap64 (s+f p)) s<=s+1000001 * l.length
 | [],s,_,h0,_=>by simp;omega
 | p :: l,s,h,h0,h1=>by
  have h2:=h p (List.mem_cons_self)
  rw [List.length_cons] at h1 ⊢
  have hw:wrap64 (s+f p)=s+f p:=by unfold wrap64;omega
  rw [List.foldl_cons,hw]
  have h3:=hb_ f l (s+f p) (fun q hq=>h q (List.mem_cons_of_mem _ hq)) (by omega) (by omega)
  omega
theorem hd_ {l:List Vl} (h:(decide (l.length=0) || setB l)=true):ModV l:=by
 have hl:l.length<=12/\∀ p ∈ l,0<=p.2/\p.2<=1000001:=by
  rcases Bool.or_eq_true _ _ ▸ h with h | h
  ·have e:l=[]:=List.length_eq_zero_iff.1 (of_decide_eq_true h)
   subst e
   exact ⟨by simp,by simp⟩
  ·unfold setB at h
   rw [Bool.and_eq_true,List.all_eq_true] at h
   have h2:=h.2
   unfold inB at h2
   rw [decide_eq_true_eq] at h2
   refine ⟨by omega,fun p hp=>?_⟩
   obtain ⟨i,hi,rfl⟩:=List.mem_iff_getElem.1 hp
   have h3:=h.1 i (List.mem_range.2 hi)
   unfold vlAt valB inB at h3
   rw [Bool.and_eq_true,Bool.and_eq_true,decide_eq_true_eq] at h3
   have h4:=h3.1.2
   rw [List.getD_eq_getElem?_getD,List.getElem?_eq_getElem hi] at h4
   simp only [Option.getD_some] at h4
   omega
 have h1:∀ f:Vl->Int,(∀ p ∈ l,0<=f p/\f p<=1000001)->0<=sumV f l/\sumV f l<=1000000000:=fun f hf=>by
  have:=hb_ f l 0 hf (by omega) (by omega)
  unfold sumV
  omega
 refine ⟨h1 _ (fun p hp=>hl.2 p hp),fun ns=>h1 _ (fun p hp=>?_)⟩
 have:=hl.2 p hp
 unfold wtN
 split <;> omega
def nodB (p:Nd):Bool:=nmB p.nm && (epkB p.la p.st p.tt p.ep p.be && (rdsB p.st p.rd p.vd p.ld p.hr p.hb p.tr p.hw p.tw p.th && (poolB p.pl && (decide (p.vo.length<=1000) && (decide (p.go.length<=1000) && (decide (p.dn.length<=200) && decide (p.ps.length<=200)))))))
theorem ks_ {la:List Ac} {l:List Vl} {lt:List Bk} {e be:Int} (h:epkB la l lt e be=true):ModV l:=by
 unfold epkB at h
 simp only [Bool.and_eq_true] at h
 exact hd_ h.2.2.1
end Go.Proofs.YtamljhcmiphdgaaGreatDoor
