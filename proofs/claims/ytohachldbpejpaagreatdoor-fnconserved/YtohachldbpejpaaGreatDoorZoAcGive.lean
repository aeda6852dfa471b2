/- What is given in the book. -/
import Derived.Test.YtohachldbpejpaaGreatDoorZoAcImpl
import Derived.Test.YtohachldbpejpaaGreatDoorZoAcBookOf
import Derived.RegionTactic
set_option maxRecDepth 20000
set_option maxHeartbeats 2000000
namespace Go.Proofs.YtohachldbpejpaaGreatDoor
open Go.RowKit Go.Sort
set_option linter.unusedVariables false
theorem implAcctAt_any (v:Value) (l:List Ac) (s:ByteArray) (w:World) (hr:RdA w v l) (hl:l.length<=4000000) :
    Calls Tryz.prog 108 #[v,.string s] w fun e w'=>e=.returned (.int .i64 (atA l s))/\Below w.heap.size w w':=by
  rcases hr with ⟨a,cap,rfl,rfl,-⟩ | ⟨b,off,cap,h0,rfl,h1,h2,h3,h4⟩
  · go_enter Tryz.func108,Tryz.ntmps108
    go_wp2
    refine wp_loop_rounds 1 ?_
    rw [rounds_succ]
    go_wp2
    go_ret
    exact ⟨rfl,Below.refl _ _⟩
  · have H4 := hide h4
    clear h4
    go_enter Tryz.func108,Tryz.ntmps108
    go_wp2
    go_loopw [9] (fun i wr=>∃ k:Nat,k<=l.length/\i=.int .i64 k/\(∀ j (h:j < l.length),j < k->l[j].1 ≠ s)/\Below w.heap.size w wr) (fun i _=>l.length - (intOf i).toNat)
    case atStart=>exact ⟨0,Nat.zero_le _,rfl,fun j _ hj=>by omega,Below.refl _ _⟩
    case round =>
      obtain ⟨k,hk,rfl,hno,hb⟩:=hrel
      have Hno:=hide hno
      clear hno
      by_cases hlt:k < l.length
      · obtain ⟨lv,hat,hrl⟩:=H4.out k hlt
        obtain ⟨c0,c1,c2,c3,c4⟩:=hat.below hb h3
        have hli:(k:Int) < (l.length:Int):=by omega
        have hbb:b < wr.heap.size:=Nat.lt_of_lt_of_le h3 hb.size
        have hshape:=hrl.shape
        clear hat hrl
        by_cases he:l[k].1=s
        · have Hr:Hid (atA l s=(k:Int)):=hide (by unfold atA;rw [atF_found s l 0 k hlt he (fun j hj=>Hno.out j (by omega) hj)];omega)
          rw [he] at c0
          clear he
          generalize l[k]=ak at c1 c2 c3 hshape
          obtain ⟨nm,fr,no,st,ls⟩:=ak
          obtain ⟨av,cv,rfl⟩:=hshape
          simp only at c1 c2 c3
          go_wp2
          go_ret
          exact ⟨ret_int Hr.out.symm,hb.alloc hb.size _⟩
        · have Hn2:Hid (∀ j (h:j < l.length),j < k+1->l[j].1 ≠ s):=hide (fun j h hj=>by
            by_cases e:j=k
            · subst e;exact he
            · exact Hno.out j h (by omega))
          have hq:=bytes_ne he
          clear he Hno
          generalize l[k]=ak at c0 c1 c2 c3 hq hshape
          obtain ⟨nm,fr,no,st,ls⟩:=ak
          obtain ⟨av,cv,rfl⟩:=hshape
          simp only at c0 c1 c2 c3 hq
          go_wp2
          go_roundw
          case rel=>exact ⟨k+1,by omega,by go_num,Hn2.out,hb.alloc hb.size _⟩
          case measure=>simp [intOf];omega
      · have Hr:Hid (atA l s=-1):=hide (by unfold atA;exact atF_none s l 0 (fun j hj=>Hno.out j hj (by omega)))
        go_wp2
        go_ret
        exact ⟨ret_int Hr.out.symm,hb⟩
theorem wrap64_add (a b:Int):wrap64 (a+wrap64 b)=wrap64 (a+b):=by unfold wrap64;omega
theorem wrap64_add' (a b:Int):wrap64 (wrap64 a+b)=wrap64 (a+b):=by unfold wrap64;omega
theorem fold_shift (s:Int):∀ (l:List (Int × Int)) (z:Int),wrap64 (s+l.foldl (fun s p=>wrap64 (s+p.1)) (wrap64 z))=l.foldl (fun s p=>wrap64 (s+p.1)) (wrap64 (s+wrap64 z))
  | [],z=>rfl
  | p :: l,z=>by
    have e:=fold_shift s l (wrap64 z+p.1)
    rw [List.foldl_cons,List.foldl_cons,e]
    congr 1
    rw [wrap64_add,wrap64_add',<- Int.add_assoc]
theorem implWealth_any (v:Value) (l:List Ac) (w:World) (hr:RdA w v l) (hl:l.length<=4000000) (hall:∀ a ∈ l,a.2.2.2.2.length<=4000000) :
    Calls Tryz.prog 13 #[v] w fun e w'=>e=.returned (.int .i64 (wealthA l))/\Below w.heap.size w w':=by
  rcases hr with ⟨a,cap,rfl,rfl,-⟩ | ⟨b,off,cap,h0,rfl,h1,h2,h3,h4⟩
  · go_enter Tryz.func13,Tryz.ntmps13
    go_wp2
    refine wp_loop_rounds 1 ?_
    rw [rounds_succ]
    go_wp2
    go_ret
    exact ⟨rfl,Below.refl _ _⟩
  · have H4 := hide h4
    have Hall:=hide hall
    clear h4 hall
    go_enter Tryz.func13,Tryz.ntmps13
    go_wp2
    go_loopw [3,10] (fun nv iv wr=>∃ k:Nat,k<=l.length/\iv=.int .i64 k/\nv=.int .i64 ((l.take k).foldl (fun s a=>wrap64 (s+ofA a)) 0)/\Below w.heap.size w wr) (fun _ iv _=>l.length - (intOf iv).toNat)
    case atStart=>exact ⟨0,Nat.zero_le _,rfl,rfl,Below.refl _ _⟩
    case round =>
      obtain ⟨k,hkl,rfl,rfl,hb⟩:=hrel
      by_cases hlt:k < l.length
      · obtain ⟨lv,hat,hrl⟩:=H4.out k hlt
        obtain ⟨c0,c1,c2,c3,c4⟩:=hat.below hb h3
        have hli:(k:Int) < (l.length:Int):=by omega
        have hbb:b < wr.heap.size:=Nat.lt_of_lt_of_le h3 hb.size
        have Hf:=hide (fold_snoc (fun s (a:Ac)=>wrap64 (s+ofA a)) 0 l k hlt)
        have Hrl:=hide (hrl.below hb (Nat.le_refl _))
        have hls:=Hall.out l[k] (List.getElem_mem _)
        have hshape:=hrl.shape
        clear hat hrl
        generalize (l.take k).foldl (fun s (a:Ac)=>wrap64 (s+ofA a)) 0=acc at Hf
        generalize l[k]=ak at c0 c1 c2 c3 Hf Hrl hshape hls
        obtain ⟨nm,fr,no,st,ls⟩:=ak
        obtain ⟨av,cv,rfl⟩:=hshape
        simp only at c0 c1 c2 c3 Hrl hls
        have Hof:Hid (wrap64 (acc+ofA (nm,fr,no,st,ls))=ls.foldl (fun s p=>wrap64 (s+p.1)) (wrap64 (acc+wrap64 (fr+st)))):=hide (fold_shift acc ls (fr+st))
        go_wp2
        obtain ⟨w1,hw1⟩:∃ w1,wr.alloc (.cells #[.string nm,.int .i64 fr,.int .i64 no,.int .i64 st,.slice av ls.length cv] 105)=w1:=⟨_,rfl⟩
        have HB1:Hid (Below w.heap.size w w1):=hide (by rw [<- hw1];exact hb.alloc hb.size _)
        have HL1:Hid (RdL w1 (.slice av ls.length cv) ls):=hide (by rw [<- hw1];exact Hrl.out.below ((Below.refl _ wr).alloc (Nat.le_refl _) _) (Nat.le_refl _))
        rw [hw1]
        go_loopw [3,24] (fun nv iv wq=>∃ j:Nat,j<=ls.length/\iv=.int .i64 j/\nv=.int .i64 ((ls.take j).foldl (fun s p=>wrap64 (s+p.1)) (wrap64 (acc+wrap64 (fr+st))))/\Below w1.heap.size w1 wq) (fun _ iv _=>ls.length - (intOf iv).toNat)
        case atStart=>exact ⟨0,Nat.zero_le _,rfl,rfl,Below.refl _ _⟩
        case round =>
          obtain ⟨j,hjl,rfl,rfl,hq⟩:=hrel
          by_cases hjt:j < ls.length
          · have hrr:=HL1.out
            rcases hrr with ⟨_,_,_,e,_⟩ | ⟨b',off',cap',g0,hv,g1,g2,g3,g4⟩
            · subst e;simp at hjt
            injection hv with ha _ hcap
            subst ha hcap
            have d1:=(hq.cell (p:=⟨b',off'+j * 2,none⟩) g3).trans (g4 j hjt).1
            have d2:=(hq.cell (p:=⟨b',off'+j * 2+1,none⟩) g3).trans (g4 j hjt).2
            have hji:(j:Int) < (ls.length:Int):=by omega
            have hbq:b' < wr.heap.size:=Nat.lt_of_lt_of_le g3 hq.size
            have Hg:=hide (fold_snoc (fun s (p:Int × Int)=>wrap64 (s+p.1)) (wrap64 (acc+wrap64 (fr+st))) ls j hjt)
            clear g4
            generalize ls[j]=p at d1 d2 Hg
            obtain ⟨x,y⟩:=p
            simp only at d1 d2 Hg
            generalize (ls.take j).foldl (fun s (p:Int × Int)=>wrap64 (s+p.1)) (wrap64 (acc+wrap64 (fr+st)))=acc2 at Hg
            go_wp2
            go_roundw
            case rel=>exact ⟨j+1,by omega,by go_num,by rw [Hg.out],hq.alloc hq.size _⟩
            case measure=>simp [intOf];omega
          · have Hg:Hid (wrap64 (acc+ofA (nm,fr,no,st,ls))=(ls.take j).foldl (fun s p=>wrap64 (s+p.1)) (wrap64 (acc+wrap64 (fr+st)))):=hide (by rw [Hof.out,List.take_of_length_le (by omega)])
            generalize (ls.take j).foldl (fun s (p:Int × Int)=>wrap64 (s+p.1)) (wrap64 (acc+wrap64 (fr+st)))=acc2 at Hg
            go_wp2
            go_roundw
            case rel=>exact ⟨k+1,by omega,by go_num,by rw [Hf.out,Hg.out],HB1.out.trans (hq.mono HB1.out.size)⟩
            case measure=>simp [intOf];omega
      · have Hf:Hid (wealthA l=(l.take k).foldl (fun s a=>wrap64 (s+ofA a)) 0):=hide (by unfold wealthA;rw [List.take_of_length_le (by omega)])
        generalize (l.take k).foldl (fun s (a:Ac)=>wrap64 (s+ofA a)) 0=acc at Hf
        go_wp2
        go_ret
        exact ⟨ret_int Hf.out.symm,hb⟩
theorem implAcctsOk_any (v:Value) (l:List Ac) (w:World) (hr:RdA w v l) (hl:l.length<=4000000) (hall:∀ a ∈ l,a.1.size<=maxLen/\a.2.2.2.2.length<=4000000) :
    Calls Tryz.prog 54 #[v] w fun e w'=>e=.returned (.bool (acsB l))/\Below w.heap.size w w':=by
  have HW:=hide (fun w h=>implWealth_any v l w h hl (fun a ha=>(hall a ha).2))
  have Hr:=hide hr
  rcases hr with ⟨a,cap,rfl,rfl,-⟩ | ⟨b,off,cap,h0,rfl,h1,h2,h3,h4⟩
  · go_enter Tryz.func54,Tryz.ntmps54
    go_wp2
    refine wp_loop_rounds 1 ?_
    rw [rounds_succ]
    go_wp2_with fail
    refine (HW.out _ Hr.out).mono ?_
    rintro e w2 ⟨rfl,hb2⟩
    go_wp2
    go_ret
    exact ⟨rfl,hb2⟩
  · have H4 := hide h4
    have Hs:=hide hall
    clear h4 hall
    by_cases h12:l.length<=12
    · have h12i : (l.length:Int)<=12:=by omega
      go_enter Tryz.func54,Tryz.ntmps54
      go_wp2
      go_loopw [10] (fun i wr=>∃ k:Nat,k<=l.length/\i=.int .i64 k/\(∀ j,j < k->acAt l j=true)/\Below w.heap.size w wr) (fun i _=>l.length - (intOf i).toNat)
      case atStart=>exact ⟨0,Nat.zero_le _,rfl,fun j hj=>by omega,Below.refl _ _⟩
      case round =>
        obtain ⟨k,hk,rfl,hok,hb⟩:=hrel
        have Hall:=hide hok
        clear hok
        by_cases hlt:k < l.length
        · obtain ⟨lv,hat,hrl⟩:=H4.out k hlt
          obtain ⟨c0,c1,c2,c3,c4⟩:=hat.below hb h3
          have hsz:=Hs.out l[k] (List.getElem_mem hlt)
          have Hok:=hide (acAt_eq l k l[k] hlt rfl)
          have Hno:=hide (acs_no l k hlt)
          have hli:(k:Int) < (l.length:Int):=by omega
          have hbb:b < wr.heap.size:=Nat.lt_of_lt_of_le h3 hb.size
          have Hnx:Hid (acAt l k=true->∀ j,j < k+1->acAt l j=true):=hide (fun h j hj=>by
            by_cases e:j=k
            · subst e;exact h
            · exact Hall.out j (by omega))
          have hprev:Hid (k ≥ 1->wr.cell? ⟨b,off+(k - 1) * 5,none⟩=some (.string (l.getD (k - 1) ac0).1)):=hide (fun hk1=>by
            obtain ⟨lv2,hat2,_⟩:=H4.out (k - 1) (by omega)
            rw [List.getD_eq_getElem?_getD,List.getElem?_eq_getElem (show k - 1 < l.length by omega)]
            exact (hat2.below hb h3).c0)
          have hshape:=hrl.shape
          have Hrl:=hide (hrl.below hb (Nat.le_refl _))
          clear hat hrl
          generalize l[k]=ak at c0 c1 c2 c3 Hok hshape Hrl hsz
          generalize (l.getD (k - 1) ac0).1=pn at hprev Hok
          obtain ⟨nm,fr,no,st,ls⟩:=ak
          obtain ⟨av,cv,rfl⟩:=hshape
          simp only at c0 c1 c2 c3 Hok Hrl hsz
          obtain ⟨w1,hw1⟩:∃ w1,wr.alloc (.cells #[.string nm,.int .i64 fr,.int .i64 no,.int .i64 st,.slice av ls.length cv] 105)=w1:=⟨_,rfl⟩
          have hA:Below wr.heap.size wr w1:=by rw [<- hw1];exact (Below.refl _ wr).alloc (Nat.le_refl _) _
          have HB1:Hid (Below w.heap.size w w1):=hide (hb.trans (hA.mono hb.size))
          have hk1:Blk w1 wr.heap.size 105 [.string nm,.int .i64 fr,.int .i64 no,.int .i64 st,.slice av ls.length cv]:=by rw [<- hw1];exact Blk.new wr _ _
          have HQ:=hide (fun (d:Nat) (os:Array Obj)=>Calls.regrown_of (implAcctOk_any (nm,fr,no,st,ls) (.slice av ls.length cv) (grow (redrawn w1 d) os) ((Hrl.out.below hA (Nat.le_refl _)).below (below_regrown w1 d os) (Nat.le_refl _)) hsz.1 hsz.2))
          simp only [acV] at HQ
          have e0:=hk1.cell 0
          have e1:=hk1.cell 1
          have e2:=hk1.cell 2
          have e3:=hk1.cell 3
          have e4:=hk1.cell 4
          simp only [List.getElem?_cons_zero,List.getElem?_cons_succ] at e0 e1 e2 e3 e4
          have g0:=cell_regrown e0
          have g1:=cell_regrown e1
          have g2:=cell_regrown e2
          have g3:=cell_regrown e3
          have g4:=cell_regrown e4
          have hprev1:Hid (k ≥ 1->w1.cell? ⟨b,off+(k - 1) * 5,none⟩=some (.string pn)):=hide (fun h=>(hA.cell (p:=⟨b,off+(k - 1) * 5,none⟩) hbb).trans (hprev.out h))
          clear e0 e1 e2 e3 e4 hprev hsz Hrl hk1 hA
          cases hn:acB (nm,fr,no,st,ls)
          · have hf:=hide (Hno.out (by rw [Hok.out,hn];rfl))
            rw [hn] at HQ
            clear hn hprev1 Hnx
            go_wp2
            clear c0 c1 c2 c3 c4
            refine wp_region_quiet_below (by kernel_rfl) (by kernel_rfl) ?_
            repeat (go_big_quiet_step ((go_at_call 115;exact HQ.out _ _)))
            refine wpQuiet_nil ?_
            intro _ hw'
            obtain ⟨⟨dq,osq⟩,hw''⟩:=hw'
            subst hw''
            go_wp2
            go_ret
            exact ⟨ret_bool hf.out.symm,HB1.out.trans ((below_regrown w1 dq osq).mono HB1.out.size)⟩
          · rw [hn] at HQ
            by_cases hk1:k < 1
            · have hd:decide (0 < k)=false:=by simp;omega
              have hd2:decide ((0:Int) < (k:Int))=false:=by simp;omega
              have Hnx:=hide (Hnx.out (by rw [Hok.out,hn,show k=0 from by omega];rfl))
              clear hn hprev1
              go_wp2
              clear c0 c1 c2 c3 c4
              refine wp_region_quiet_below (by kernel_rfl) (by kernel_rfl) ?_
              repeat (go_big_quiet_step ((go_at_call 115;exact HQ.out _ _)))
              refine wpQuiet_nil ?_
              intro _ hw'
              obtain ⟨⟨dq,osq⟩,hw''⟩:=hw'
              subst hw''
              go_wp2
              go_roundw
              case rel=>exact ⟨k+1,by omega,by go_num,Hnx.out,HB1.out.trans ((below_regrown w1 dq osq).mono HB1.out.size)⟩
              case measure=>simp [intOf];omega
            · have hcp:=cell_regrown (hprev1.out (by omega))
              clear hprev1
              have hpos:(0:Int) < (k:Int):=by omega
              have hposN:0 < k:=by omega
              have hd1:decide (0 < k)=true:=by simp;omega
              have hix:((k:Int) - 1).toNat=k - 1:=by omega
              have hix1:(0:Int)<=(k:Int) - 1:=by omega
              have hix2:(k:Int) - 1 < (l.length:Int):=by omega
              cases hless:Op.bytesLess pn.toList nm.toList
              · have hf:=hide (Hno.out (by rw [Hok.out,hn,hless];simp;omega))
                clear hn Hnx
                go_wp2
                clear c0 c1 c2 c3 c4
                refine wp_region_quiet_below (by kernel_rfl) (by kernel_rfl) ?_
                repeat (go_big_quiet_step ((go_at_call 115;exact HQ.out _ _)))
                refine wpQuiet_nil ?_
                intro _ hw'
                obtain ⟨⟨dq,osq⟩,hw''⟩:=hw'
                subst hw''
                go_wp2
                go_ret
                exact ⟨ret_bool hf.out.symm,HB1.out.trans ((below_regrown w1 dq osq).mono HB1.out.size)⟩
              · have Hnx:=hide (Hnx.out (by rw [Hok.out,hn,hless];simp))
                clear hn
                go_wp2
                clear c0 c1 c2 c3 c4
                refine wp_region_quiet_below (by kernel_rfl) (by kernel_rfl) ?_
                repeat (go_big_quiet_step ((go_at_call 115;exact HQ.out _ _)))
                refine wpQuiet_nil ?_
                intro _ hw'
                obtain ⟨⟨dq,osq⟩,hw''⟩:=hw'
                subst hw''
                go_wp2
                go_roundw
                case rel=>exact ⟨k+1,by omega,by go_num,Hnx.out,HB1.out.trans ((below_regrown w1 dq osq).mono HB1.out.size)⟩
                case measure=>simp [intOf];omega
        · have hf:=hide (acs_yes l (fun j hj=>Hall.out j (by omega)))
          have HW2:=hide (HW.out _ (Hr.out.below hb (Nat.le_refl _)))
          rw [decide_eq_true h12,Bool.true_and] at hf
          generalize wealthA l=W at hf HW2
          go_wp2_with fail
          refine HW2.out.mono ?_
          rintro e w2 ⟨rfl,hb2⟩
          go_wp2
          go_ret
          exact ⟨ret_bool hf.out.symm,hb.trans (hb2.mono hb.size)⟩
    · have h12i:(12:Int) < (l.length:Int):=by omega
      have hf:Hid (acsB l=false):=hide (by unfold acsB;rw [decide_eq_false h12,Bool.false_and,Bool.and_false])
      clear h12
      go_enter Tryz.func54,Tryz.ntmps54
      go_wp2
      go_ret
      exact ⟨ret_bool hf.out.symm,Below.refl _ _⟩
end Go.Proofs.YtohachldbpejpaaGreatDoor
namespace Go.Proofs.YtohachldbpejpaaGreatDoor
open Go.RowKit Go.Maps
set_option linter.unusedVariables false
def befZ (s:ByteArray) (Z:List (Ac × Value)):Ac × Value:=(getZ s Z).getD ((ByteArray.empty,0,0,0,[]),.slice none 0 0)
theorem look_bef (s:ByteArray) (Z:List (Ac × Value)):lookB s Z=acV (befZ s Z).1 (befZ s Z).2:=by
  unfold lookB befZ
  cases getZ s Z <;> rfl
theorem aft_bef (s:ByteArray) (n:Int) (Z:List (Ac × Value)):aftA (Z.map (·.1)) s n=(s,wrap64 ((befZ s Z).1.2.1+n),(befZ s Z).1.2.2):=by
  unfold aftA befZ
  rw [<- getZ_fst]
  cases getZ s Z <;> rfl
theorem insZ_new (q:Ac × Value):∀ Z:List (Ac × Value),(∀ x ∈ Z,x.1.1 ≠ q.1.1)->(insZ q Z).Perm (q :: Z)
  | [],_=>List.Perm.refl _
  | x :: t,h=>by
    by_cases hl:Lt x.1.1 q.1.1
    · rw [insZ_lt hl]
      exact ((insZ_new q t (fun y hy=>h y (List.mem_cons_of_mem _ hy))).cons x).trans (List.Perm.swap q x t)
    · rw [insZ_gt (lt_or hl (h x List.mem_cons_self))]
theorem insZ_tl (q':Ac × Value):∀ {Z:List (Ac × Value)} {q:Ac × Value},Asc Z->getZ q'.1.1 Z=some q->tlZ q'=tlZ q->(insZ q' Z).map tlZ=Z.map tlZ
  | [],q,_,h,_=>by simp [getZ] at h
  | x :: t,q,ha,h,e=>by
    obtain ⟨h1,h2⟩:=List.pairwise_cons.1 ha
    unfold getZ at h
    split at h
    · rename_i he
      simp at h
      subst h
      rw [insZ_eq he,List.map_cons,List.map_cons,e]
    · have hq:=getZ_name h
      have hl:Lt x.1.1 q'.1.1:=by rw [<- hq.1];exact h1 q hq.2
      rw [insZ_lt hl,List.map_cons,List.map_cons,insZ_tl q' h2 h e]
theorem Lvs.put {base:Nat} {w:World} {g:Nat} {Z:List (Ac × Value)} (h:Lvs base w g Z) (ha:Asc Z) (s:ByteArray) (n:Int):Lvs base w g (insZ ((s,wrap64 ((befZ s Z).1.2.1+n),(befZ s Z).1.2.2),(befZ s Z).2) Z):=by
  cases hg:getZ s Z with
  | some q =>
    have e:befZ s Z=q:=by unfold befZ;rw [hg];rfl
    rw [e]
    exact h.same (insZ_tl _ ha hg rfl)
  | none =>
    have e:befZ s Z=((ByteArray.empty,0,0,0,[]),.slice none 0 0):=by unfold befZ;rw [hg];rfl
    rw [e]
    refine LvQ.lvs ?_
    refine (LvQ.cons_nil h.heap).perm ?_
    exact ((insZ_new ((s,wrap64 (0+n),0,0,[]),.slice none 0 0) Z (fun x hx=>getZ_none hg x hx)).map tlZ).symm
theorem insZ_len (q:Ac × Value):∀ Z:List (Ac × Value),(insZ q Z).length<=Z.length+1
  | []=>by simp [insZ]
  | x :: t=>by
    have:=insZ_len q t
    unfold insZ
    split
    · simp;omega
    · split <;> simp
theorem del_again (es:List (Lit × DataW Value)) (k:Lit) (hk:k.sameKey k=true) (d:DataW Value):((DataW.map es).put k d).del k=(DataW.map es).del k:=by
  show DataW.map _=DataW.map _
  rw [filt_insert k d hk,List.filter_filter]
  simp
theorem RowA.mono {base base':Nat} {w:World} {v:Value} {Z:List (Ac × Value)} (h:RowA base w v Z) (hB:base'<=base):RowA base' w v Z:=by
  refine ⟨h.1,?_⟩
  rcases h.2 with h' | ⟨g',cap',cur,hv,hbb,r⟩
  · exact .inl h'
  · exact .inr ⟨g',cap',cur,hv,by omega,r⟩
theorem Lvs.to {base:Nat} {w w':World} {b g:Nat} {Z:List (Ac × Value)} (h:Lvs base w b Z) (hb:Below w.heap.size w w') (hg:w.heap.size<=g):Lvs base w' g Z :=
  ⟨fun i hi=>(h.own i hi).below hb (Nat.le_refl _),fun i hi k hk=>by have:=(h.own i hi).lt k hk;omega,h.apart⟩
theorem book_mono {w:World} {b n n':Nat} {D:DataW Value} (h:w.ownsMap Tryz.prog 9 RV b n D) (hn:n<=n'):w.ownsMap Tryz.prog 9 RV b n' D:=by
  obtain ⟨es,clock,h1,h2,h3,h4⟩:=h
  exact ⟨es,clock,h1,h2,by omega,h4⟩
def Given (base b m:Nat) (w:World) (X:Bool) (L:List Ac) (e:Ending) (w':World):Prop :=
  ∃ Z':List (Ac × Value),e=.returned (.bool X)/\w'.ownsMap Tryz.prog 9 RV b (m+2) (bookD Z')/\Lvs base w' b Z'/\Asc Z'/\Z'.map (·.1)=L/\Below b w w'
def leftA (l l':List Ac):List Ac:=if acsB l'=true then l' else l
theorem leftA_yes {l l':List Ac} (h:acsB l'=true):leftA l l'=l':=if_pos h
theorem leftA_no {l l':List Ac} (h:acsB l'=false):leftA l l'=l:=if_neg (by rw [h];simp)
theorem give_any (b m:Nat) (Z:List (Ac × Value)) (s:ByteArray) (n:Int) (base:Nat) (w:World) (hown:w.ownsMap Tryz.prog 9 RV b m (bookD Z)) (ha:Asc Z) (hlv:Lvs base w b Z) (hm:m<=1000000) (hl:Z.length<=1000000)
    (hnm:∀ q ∈ Z,q.1.1.size<=maxLen/\q.1.2.2.2.2.length<=4000000) (hs:s.size<=maxLen) :
    Calls Tryz.prog 206 #[.map (some b),.string s,.int .i64 n] w fun e w'=>Given base b m w (acsB (insA (aftA (Z.map (·.1)) s n) (Z.map (·.1)))) (leftA (Z.map (·.1)) (insA (aftA (Z.map (·.1)) s n) (Z.map (·.1)))) e w':=by
  have hbl:=hown.lt
  have Ho:=hide hown
  have Hlv:=hide hlv
  have Hlk:=hide (look_bef s Z)
  have hshape:∃ a' m' c',(befZ s Z).2=.slice a' m' c':=by
    unfold befZ
    cases hg:getZ s Z with
    | none=>exact ⟨_,_,_,rfl⟩
    | some q =>
      obtain ⟨i,hi,e⟩:=List.mem_iff_getElem.1 (getZ_name hg).2
      obtain ⟨a',c',e'⟩:=(hlv.own i hi).rd.shape
      exact ⟨a',_,c',by rw [<- e];exact e'⟩
  generalize hbef:befZ s Z=q at Hlk hshape
  obtain ⟨⟨nm,fr,no,st,ls⟩,lv⟩:=q
  obtain ⟨a',m',c',hlv'⟩:=hshape
  simp only at hlv'
  subst hlv'
  simp only [acV] at Hlk
  generalize hhas:(getZ s Z).isSome=there
  have Hput:=hide (Lvs.put hlv ha s n)
  have Hpb:Hid ((bookD Z).put (keyB s) (.held (.agg #[.string s,.int .i64 (wrap64 (fr+n)),.int .i64 no,.int .i64 st,.slice a' m' c']))=bookD (insZ ((s,wrap64 (fr+n),no,st,ls),.slice a' m' c') Z)):=hide (put_book Z ha ((s,wrap64 (fr+n),no,st,ls),.slice a' m' c'))
  have Haft:=aft_bef s n Z
  rw [hbef] at Hput Haft
  simp only at Hput Haft
  have hls:ls.length<=4000000:=by
    unfold befZ at hbef
    cases hg:getZ s Z with
    | none=>rw [hg] at hbef;simp at hbef;rw [hbef.1.2.2.2.2];simp
    | some q =>
      rw [hg] at hbef
      have:=(hnm q (getZ_name hg).2).2
      simp at hbef
      rw [hbef] at this
      exact this
  have Hsl1:Hid (∀ q ∈ insZ ((s,wrap64 (fr+n),no,st,ls),.slice a' m' c') Z,∃ a m c,q.2=.slice a m c):=hide (fun q hq=>by
    obtain ⟨i,hi,e⟩:=List.mem_iff_getElem.1 hq
    obtain ⟨a'',c'',e'⟩:=(Hput.out.own i hi).rd.shape
    exact ⟨a'',_,c'',by rw [<- e];exact e'⟩)
  have Hnm1:Hid (∀ q ∈ insZ ((s,wrap64 (fr+n),no,st,ls),.slice a' m' c') Z,q.1.1.size<=maxLen/\q.1.2.2.2.2.length<=4000000):=hide (fun q hq=>by
    rcases insZ_mem _ _ _ hq with rfl | hq
    · exact ⟨hs,hls⟩
    · exact hnm q hq)
  have Hlen1:=hide (insZ_len ((s,wrap64 (fr+n),no,st,ls),.slice a' m' c') Z)
  have Hasc1:=hide (insZ_asc ((s,wrap64 (fr+n),no,st,ls),.slice a' m' c') Z ha)
  have Hfst1:insA (s,wrap64 (fr+n),no,st,ls) (Z.map (·.1))=(insZ ((s,wrap64 (fr+n),no,st,ls),.slice a' m' c') Z).map (·.1):=(insZ_fst ((s,wrap64 (fr+n),no,st,ls),.slice a' m' c') Z).symm
  have Hback:Hid (there=true->(bookD (insZ ((s,wrap64 (fr+n),no,st,ls),.slice a' m' c') Z)).put (keyB s) (.held (.agg #[.string nm,.int .i64 fr,.int .i64 no,.int .i64 st,.slice a' m' c']))=bookD Z):=hide (fun ht=>by
    unfold befZ at hbef
    cases hg:getZ s Z with
    | none=>rw [hg] at hhas;rw [ht] at hhas;cases hhas
    | some q =>
      rw [hg] at hbef
      simp at hbef
      subst hbef
      have e:=getZ_name hg
      simp only at e
      have hp:=put_book (insZ ((s,wrap64 (fr+n),no,st,ls),.slice a' m' c') Z) (insZ_asc _ Z ha) ((nm,fr,no,st,ls),.slice a' m' c')
      rw [insZ_back ((s,wrap64 (fr+n),no,st,ls),.slice a' m' c') rfl ha hg] at hp
      rw [show keyB s=keyB nm from by rw [e.1]]
      exact hp)
  have Hdel:Hid (there=false->∀ d,((bookD (insZ ((s,wrap64 (fr+n),no,st,ls),.slice a' m' c') Z)).put (keyB s) d).del (keyB s)=bookD Z):=hide (fun ht d=>by
    have hg:getZ s Z=none:=by
      cases hg:getZ s Z with
      | none=>rfl
      | some q=>rw [hg] at hhas;rw [ht] at hhas;cases hhas
    have h1:=del_again ((insZ ((s,wrap64 (fr+n),no,st,ls),.slice a' m' c') Z).map ent) (keyB s) (key_same rfl) d
    have h2:=del_put Z s (.held (acV (s,wrap64 (fr+n),no,st,ls) (.slice a' m' c'))) hg
    rw [put_book Z ha ((s,wrap64 (fr+n),no,st,ls),.slice a' m' c')] at h2
    exact h1.trans h2)
  rw [Haft,Hfst1]
  have Hhas:=hide hhas
  clear Hfst1 Haft hbef hhas hls
  generalize insZ ((s,wrap64 (fr+n),no,st,ls),.slice a' m' c') Z=Z1 at *
  clear hown hlv
  go_enter Tryz.func206,Tryz.ntmps206
  go_wp2_with (at_lookup;refine step_look _ rfl _ _ true rfl b m Z s rfl rfl Ho.out hs ?_;rw [Hlk.out,Hhas.out];simp only [if_true])
  go_region
  obtain ⟨w2,hw2⟩:∃ w2,((w.alloc (.cells #[.string nm,.int .i64 fr,.int .i64 no,.int .i64 st,.slice a' m' c'] 105)).alloc (.cells #[.string s,.int .i64 (wrap64 (fr+n)),.int .i64 no,.int .i64 st,.slice a' m' c'] 105)).drew=w2:=⟨_,rfl⟩
  rw [hw2]
  have hb2:Below w.heap.size w w2:=by rw [<- hw2];exact (((Below.refl _ w).alloc (Nat.le_refl _) _).alloc (by simp) _).drew
  have k0:Blk w2 w.heap.size 105 [.string nm,.int .i64 fr,.int .i64 no,.int .i64 st,.slice a' m' c']:=by
    rw [<- hw2]
    exact ((Blk.new w 105 [.string nm,.int .i64 fr,.int .i64 no,.int .i64 st,.slice a' m' c']).below (((Below.refl _ _).alloc (Nat.le_refl _) _).drew) (by simp))
  have k1:Blk w2 (w.heap.size+1) 105 [.string s,.int .i64 (wrap64 (fr+n)),.int .i64 no,.int .i64 st,.slice a' m' c']:=by
    rw [<- hw2]
    exact Blk.new' _ 105 [.string s,.int .i64 (wrap64 (fr+n)),.int .i64 no,.int .i64 st,.slice a' m' c'] _ (by simp)
  have e0:=k1.cell 0
  have e1:=k1.cell 1
  have e2:=k1.cell 2
  have e3:=k1.cell 3
  have e4:=k1.cell 4
  simp only [List.getElem?_cons_zero,List.getElem?_cons_succ] at e0 e1 e2 e3 e4
  have hs2:w.heap.size < w2.heap.size:=k0.lt
  have Ho2:=hide (book_below Ho.out hb2 hbl)
  have K0:=hide k0
  clear k0 k1
  go_wp2_with (at_mapUpdate;refine wpList_mapUpdate_in _ rfl _ _ _ 283 rfl 9 105 key_law Tryz.underlying283 RV b m (bookD Z) rfl Ho2.out (by unfold maxLen;omega) (.string s) (.agg #[.string s,.int .i64 (wrap64 (fr+n)),.int .i64 no,.int .i64 st,.slice a' m' c']) (keyB s) rfl rfl (key_of s hs) (.held (.agg #[.string s,.int .i64 (wrap64 (fr+n)),.int .i64 no,.int .i64 st,.slice a' m' c'])) [] rfl ?_;intro w3 hown3 htu3)
  rw [Hpb.out] at hown3
  have hbz3:w2.heap.size<=w3.heap.size:=htu3.grown.size
  have hB3:Below b w w3:=(hb2.mono (by omega)).trans (turned_below htu3 (Nat.le_refl _) (by omega))
  have HlvZ:=hide (Lvs.grown (Hlv.out.below hb2 (Nat.le_refl _)) htu3.grown)
  have Hlv1:=hide (Lvs.grown (Hput.out.below hb2 (Nat.le_refl _)) htu3.grown)
  have K03:Hid (Blk w3 w.heap.size 105 [.string nm,.int .i64 fr,.int .i64 no,.int .i64 st,.slice a' m' c']):=hide ((htu3.grown.block w.heap.size hs2 (fun e=>by injection e with e;omega)).trans K0.out)
  have Hown3:=hide hown3
  have hlen1:=Hlen1.out
  clear hown3 htu3 hb2 e0 e1 e2 e3 e4 Ho2 K0
  refine (listed_any b (m+1) Z1 w3 Hown3.out Hasc1.out (by omega) (fun q hq=>(Hnm1.out q hq).1) Hsl1.out).mono ?_
  rintro e w4 ⟨g,cap,rfl,hrow4,hb4⟩
  have hgw:w3.heap.size<=g:=hrow4.ge g rfl
  have HA:=hide (implAcctsOk_any (.slice (some ⟨g,0,none⟩) Z1.length cap) (Z1.map (·.1)) w4 (OwnA.of_row (hrow4.mono (Nat.zero_le _)) ((Hlv1.out.mono (Nat.zero_le _)).to hb4 hgw)).rd (by simp;omega) (fun a haa=>by
    obtain ⟨q,hq,rfl⟩:=List.mem_map.1 haa
    exact Hnm1.out q hq))
  have Hown4:=hide (book_below Hown3.out hb4 (by omega))
  have Hlv14:=hide (Hlv1.out.below hb4 (Nat.le_refl _))
  have HlvZ4:=hide (HlvZ.out.below hb4 (Nat.le_refl _))
  have K04:=hide (K03.out.below hb4 (by omega))
  have hB4:Below b w w4:=hB3.trans (hb4.mono (by omega))
  have hsz4:=hb4.size
  clear hrow4 hb4 hB3 K03 Hlv1 HlvZ Hown3
  go_wp2_with fail
  refine HA.out.mono ?_
  rintro e w5 ⟨rfl,hb5⟩
  have hown5:=book_below Hown4.out hb5 (by omega)
  have hlv15:=Hlv14.out.below hb5 (Nat.le_refl _)
  have hlvZ5:=HlvZ4.out.below hb5 (Nat.le_refl _)
  have k5:=K04.out.below hb5 (by omega)
  have hB5:Below b w w5:=hB4.trans (hb5.mono (by omega))
  have hsz5:=hb5.size
  clear Hown4 Hlv14 HlvZ4 K04 hb5 hB4 HA
  cases hX:acsB (Z1.map (·.1))
  · have Hown5:=hide hown5
    have Hlv5:=hide hlvZ5
    have HX:=hide hX
    have e0:=k5.cell 0
    have e1:=k5.cell 1
    have e2:=k5.cell 2
    have e3:=k5.cell 3
    have e4:=k5.cell 4
    simp only [List.getElem?_cons_zero,List.getElem?_cons_succ] at e0 e1 e2 e3 e4
    clear hown5 hlv15 hlvZ5 k5 hX
    cases there
    · go_wp2_with (first
        | (at_mapUpdate;refine wpList_mapUpdate_in _ rfl _ _ _ 283 rfl 9 105 key_law Tryz.underlying283 RV b (m+1) (bookD Z1) rfl Hown5.out (by unfold maxLen;omega) (.string s) (.agg #[.string nm,.int .i64 fr,.int .i64 no,.int .i64 st,.slice a' m' c']) (keyB s) rfl rfl (key_of s hs) (.held (.agg #[.string nm,.int .i64 fr,.int .i64 no,.int .i64 st,.slice a' m' c'])) [] rfl ?_;intro w6 hown6 htu6)
        | (at_delete;refine wpList_delete_own _ rfl _ _ 283 9 rfl 105 key_law Tryz.underlying283 RV b (m+1+1) _ rfl hown6 (.string s) (keyB s) rfl (key_of s hs) ?_;intro w7 hown7 htu7))
      go_ret
      rw [Hdel.out (by simp)] at hown7
      rw [HX.out,leftA_no HX.out]
      have hsz6:=htu6.grown.size
      exact ⟨Z,rfl,hown7,Lvs.grown (Lvs.grown Hlv5.out htu6.grown) htu7.grown,ha,rfl,(hB5.trans (turned_below htu6 (Nat.le_refl _) (by omega))).trans (turned_below htu7 (Nat.le_refl _) (by omega))⟩
    · go_wp2_with (at_mapUpdate;refine wpList_mapUpdate_in _ rfl _ _ _ 283 rfl 9 105 key_law Tryz.underlying283 RV b (m+1) (bookD Z1) rfl Hown5.out (by unfold maxLen;omega) (.string s) (.agg #[.string nm,.int .i64 fr,.int .i64 no,.int .i64 st,.slice a' m' c']) (keyB s) rfl rfl (key_of s hs) (.held (.agg #[.string nm,.int .i64 fr,.int .i64 no,.int .i64 st,.slice a' m' c'])) [] rfl ?_;intro w6 hown6 htu6)
      go_ret
      rw [Hback.out (by simp)] at hown6
      rw [HX.out,leftA_no HX.out]
      exact ⟨Z,rfl,hown6,Lvs.grown Hlv5.out htu6.grown,ha,rfl,hB5.trans (turned_below htu6 (Nat.le_refl _) (by omega))⟩
  · have HX:=hide hX
    clear hX k5
    go_wp2
    go_ret
    rw [HX.out,leftA_yes HX.out]
    exact ⟨Z1,rfl,book_mono hown5 (by omega),hlv15,Hasc1.out,rfl,hB5⟩
end Go.Proofs.YtohachldbpejpaaGreatDoor
