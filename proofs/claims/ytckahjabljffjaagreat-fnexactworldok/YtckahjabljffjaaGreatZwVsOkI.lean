/- The landed code's SetOk. -/
import Derived.Test.YtckahjabljffjaaGreatZwLgSpec
import Derived.Test.YtckahjabljffjaaGreatZwAcImpl2
set_option maxRecDepth 20000
set_option maxHeartbeats 2000000
namespace Go.Proofs.YtckahjabljffjaaGreat
open Go.RowKit
set_option linter.unusedVariables false
theorem implLedgerOk_any (e:Int) (v:Value) (l:List Ac) (w:World) (hr:RdA w v l) (hl:l.length<=4000000) (hall:∀ a ∈ l,a.1.size<=maxLen/\a.2.2.2.2.length<=4000000) :
    Calls Tryz.prog 29 #[lgV e v] w fun en w'=>en=.returned (.bool (lgB e l))/\Below w.heap.size w w':=by
  obtain ⟨a1,cv1,rfl⟩:=hr.shape
  simp only [lgV] at *
  have hb3:Below w.heap.size w (w.alloc (.cells #[.int .i64 e,.slice a1 l.length cv1] 30)):=(Below.refl _ w).alloc (Nat.le_refl _) _
  have HE:=hide (implAcctsOk_any _ l _ (hr.below hb3 (Nat.le_refl _)) hl hall)
  have Hb3:=hide hb3
  have Hx:Hid (lgB e l=(inB e 0 900 && acsB l)):=hide rfl
  clear hb3 hr hall
  generalize lgB e l=X at Hx
  generalize acsB l=A at Hx HE
  cases h0:inB e 0 900
  · rw [h0,Bool.false_and] at Hx
    go_enter Tryz.func29,Tryz.ntmps29
    go_wp2_with (go_at_call 74;refine (implWithin_any _ _ _ _).mono ?_;rintro en w1 ⟨rfl,rfl⟩)
    go_ret
    exact ⟨ret_bool Hx.out.symm,Hb3.out⟩
  · rw [h0,Bool.true_and] at Hx
    go_enter Tryz.func29,Tryz.ntmps29
    go_wp2_with (first
      | (go_at_call 74;refine (implWithin_any _ _ _ _).mono ?_;rintro en w1 ⟨rfl,rfl⟩)
      | (go_at_call 75;refine HE.out.mono ?_;rintro en w2 ⟨rfl,hb2⟩))
    go_ret
    exact ⟨ret_bool Hx.out.symm,Hb3.out.trans (hb2.mono Hb3.out.size)⟩
end Go.Proofs.YtckahjabljffjaaGreat
namespace Go.Proofs.YtckahjabljffjaaGreat
open Go.RowKit Go.Sort
set_option linter.unusedVariables false
theorem withinV_any (x a b:Int) (w:World) :
    Calls Tryz.prog 74 #[.int .i64 x,.int .i64 a,.int .i64 b] w fun e w'=>e=.returned (.bool (inB x a b))/\w'=w:=by
  by_cases h1:a<=x
  · by_cases h2:x<=b
    · have e:Hid (inB x a b=true):=hide (by simp [inB,h1,h2])
      go_enter Tryz.func74,Tryz.ntmps74
      go_wp2
      go_ret
      rw [e.out];exact ⟨rfl,rfl⟩
    · have e:Hid (inB x a b=false):=hide (by simp [inB,h1,h2])
      go_enter Tryz.func74,Tryz.ntmps74
      go_wp2
      go_ret
      rw [e.out];exact ⟨rfl,rfl⟩
  · have e:Hid (inB x a b=false):=hide (by simp [inB,h1])
    go_enter Tryz.func74,Tryz.ntmps74
    go_wp2
    go_ret
    rw [e.out];exact ⟨rfl,rfl⟩
theorem implSetOk_any (v:Value) (l:List Vl) (w:World) (hr:RdV w v l) (hl:l.length<=4000000) (hall:∀ a ∈ l,a.1.size<=maxLen) :
    Calls Tryz.prog 211 #[v] w fun e w'=>e=.returned (.bool (setB l))/\Below w.heap.size w w':=by
  rcases hr with ⟨a,cap,rfl,rfl,-⟩ | ⟨b,off,cap,h0,rfl,h1,h2,h3,h4⟩
  · have HW:=hide (fun w=>withinV_any 0 1 12 w)
    have h0:inB 0 1 12=false:=rfl
    rw [h0] at HW
    go_enter Tryz.func211,Tryz.ntmps211
    go_wp2_with fail
    refine (HW.out _).mono ?_
    rintro e w2 ⟨rfl,rfl⟩
    go_wp2
    go_ret
    exact ⟨rfl,Below.refl _ _⟩
  · have H4 := hide h4
    have Hs:=hide hall
    clear h4 hall
    have Hset:Hid (setB l=((List.range l.length).all (vlAt l) && inB l.length 1 12)):=hide rfl
    cases h12:inB (l.length:Int) 1 12
    · rw [h12,Bool.and_false] at Hset
      have HW:=hide (fun w=>withinV_any (l.length:Int) 1 12 w)
      rw [h12] at HW
      clear h12
      go_enter Tryz.func211,Tryz.ntmps211
      go_wp2_with fail
      refine (HW.out _).mono ?_
      rintro e w2 ⟨rfl,rfl⟩
      go_wp2
      go_ret
      exact ⟨ret_bool Hset.out.symm,Below.refl _ _⟩
    clear Hset
    have HW:=hide (fun w=>withinV_any (l.length:Int) 1 12 w)
    rw [h12] at HW
    go_enter Tryz.func211,Tryz.ntmps211
    go_wp2_with fail
    refine (HW.out _).mono ?_
    rintro e w ⟨rfl,rfl⟩
    go_wp2
    go_loopw [11] (fun i wr=>∃ k:Nat,k<=l.length/\i=.int .i64 k/\(∀ j,j < k->vlAt l j=true)/\Below w.heap.size w wr) (fun i _=>l.length - (intOf i).toNat)
    case atStart=>exact ⟨0,Nat.zero_le _,rfl,fun j hj=>by omega,Below.refl _ _⟩
    case round =>
      obtain ⟨k,hk,rfl,hok,hb⟩:=hrel
      have Hall:=hide hok
      clear hok
      by_cases hlt:k < l.length
      · obtain ⟨d0,d1⟩:=H4.out k hlt
        have c0:=(hb.cell (p:=⟨b,off+k * 2,none⟩) h3).trans d0
        have c1:=(hb.cell (p:=⟨b,off+k * 2+1,none⟩) h3).trans d1
        have hsz:=Hs.out l[k] (List.getElem_mem hlt)
        have Hok:=hide (vlAt_eq l k l[k] hlt rfl)
        have Hno:=hide (set_no l k hlt)
        have hli:(k:Int) < (l.length:Int):=by omega
        have Hnx:Hid (vlAt l k=true->∀ j,j < k+1->vlAt l j=true):=hide (fun h j hj=>by
          by_cases e:j=k
          · subst e;exact h
          · exact Hall.out j (by omega))
        have hprev:Hid (k ≥ 1->wr.cell? ⟨b,off+(k - 1) * 2,none⟩=some (.string (l.getD (k - 1) vl0).1)):=hide (fun hk1=>by
          rw [List.getD_eq_getElem?_getD,List.getElem?_eq_getElem (show k - 1 < l.length by omega)]
          exact (hb.cell (p:=⟨b,off+(k - 1) * 2,none⟩) h3).trans (H4.out (k - 1) (by omega)).1)
        clear d0 d1
        generalize l[k]=ak at c0 c1 Hok hsz
        generalize (l.getD (k - 1) vl0).1=pn at hprev Hok
        obtain ⟨nm,wt⟩:=ak
        simp only at c0 c1 Hok hsz
        obtain ⟨w1,hw1⟩:∃ w1,wr.alloc (.cells #[.string nm,.int .i64 wt] 174)=w1:=⟨_,rfl⟩
        have hA:Below wr.heap.size wr w1:=by rw [<- hw1];exact (Below.refl _ wr).alloc (Nat.le_refl _) _
        have hbb:b < wr.heap.size:=Nat.lt_of_lt_of_le h3 hb.size
        have HB1:Hid (Below w.heap.size w w1):=hide (hb.trans (hA.mono hb.size))
        have hk1:Blk w1 wr.heap.size 174 [.string nm,.int .i64 wt]:=by rw [<- hw1];exact Blk.new wr _ _
        have HN:=hide (fun (d:Nat) (os:Array Obj)=>sameV_regrown (implNameOk_any nm (grow (redrawn w1 d) os) hsz))
        have HI:=hide (fun (d:Nat) (os:Array Obj)=>sameV_regrown (withinV_any wt 1 1000000 (grow (redrawn w1 d) os)))
        have e0:=hk1.cell 0
        have e1:=hk1.cell 1
        simp only [List.getElem?_cons_zero,List.getElem?_cons_succ] at e0 e1
        have g0:=cell_regrown e0
        have g1:=cell_regrown e1
        have hprev1:Hid (k ≥ 1->w1.cell? ⟨b,off+(k - 1) * 2,none⟩=some (.string pn)):=hide (fun h=>(hA.cell (p:=⟨b,off+(k - 1) * 2,none⟩) hbb).trans (hprev.out h))
        clear e0 e1 hprev hsz hk1 hA
        cases hn:nmB nm
        · have hf:=hide (Hno.out (by rw [Hok.out,hn];rfl))
          rw [hn] at HN
          clear hn hprev1 Hnx
          go_wp2
          clear c0 c1
          refine wp_region_quiet_below (by kernel_rfl) (by kernel_rfl) ?_
          repeat (go_big_quiet_step ((first | (go_at_call 76;exact HN.out _ _) | (go_at_call 74;exact HI.out _ _))))
          refine wpQuiet_nil ?_
          intro _ hw'
          obtain ⟨⟨dq,osq⟩,hw''⟩:=hw'
          subst hw''
          go_wp2
          go_ret
          exact ⟨ret_bool hf.out.symm,HB1.out.trans ((below_regrown w1 dq osq).mono HB1.out.size)⟩
        · rw [hn] at HN
          cases hi:inB wt 1 1000000
          · have hf:=hide (Hno.out (by rw [Hok.out,hn,hi];rfl))
            rw [hi] at HI
            clear hn hi hprev1 Hnx
            go_wp2
            clear c0 c1
            refine wp_region_quiet_below (by kernel_rfl) (by kernel_rfl) ?_
            repeat (go_big_quiet_step ((first | (go_at_call 76;exact HN.out _ _) | (go_at_call 74;exact HI.out _ _))))
            refine wpQuiet_nil ?_
            intro _ hw'
            obtain ⟨⟨dq,osq⟩,hw''⟩:=hw'
            subst hw''
            go_wp2
            go_ret
            exact ⟨ret_bool hf.out.symm,HB1.out.trans ((below_regrown w1 dq osq).mono HB1.out.size)⟩
          · rw [hi] at HI
            by_cases hk1:k < 1
            · have hd:decide (0 < k)=false:=by simp;omega
              have hd2:decide ((0:Int) < (k:Int))=false:=by simp;omega
              have Hnx:=hide (Hnx.out (by rw [Hok.out,hn,hi,show k=0 from by omega];rfl))
              clear hn hi hprev1
              go_wp2
              clear c0 c1
              refine wp_region_quiet_below (by kernel_rfl) (by kernel_rfl) ?_
              repeat (go_big_quiet_step ((first | (go_at_call 76;exact HN.out _ _) | (go_at_call 74;exact HI.out _ _))))
              refine wpQuiet_nil ?_
              intro _ hw'
              obtain ⟨⟨dq,osq⟩,hw''⟩:=hw'
              subst hw''
              go_wp2
              go_roundw
              case rel=>exact ⟨k+1,by omega,by go_num,Hnx.out,HB1.out.trans ((below_regrown w1 dq osq).mono HB1.out.size)⟩
              case measure=>simp [intOf];omega
            · have hcp:=cell_regrown (hprev1.out (by omega))
              clear hprev1
              have hpos:(0:Int) < (k:Int):=by omega
              have hposN:0 < k:=by omega
              have hd1:decide (0 < k)=true:=by simp;omega
              have hix:((k:Int) - 1).toNat=k - 1:=by omega
              have hix1:(0:Int)<=(k:Int) - 1:=by omega
              have hix2:(k:Int) - 1 < (l.length:Int):=by omega
              cases hless:Op.bytesLess pn.toList nm.toList
              · have hf:=hide (Hno.out (by rw [Hok.out,hn,hi,hless];simp;omega))
                clear hn hi Hnx
                go_wp2
                clear c0 c1
                refine wp_region_quiet_below (by kernel_rfl) (by kernel_rfl) ?_
                repeat (go_big_quiet_step ((first | (go_at_call 76;exact HN.out _ _) | (go_at_call 74;exact HI.out _ _))))
                refine wpQuiet_nil ?_
                intro _ hw'
                obtain ⟨⟨dq,osq⟩,hw''⟩:=hw'
                subst hw''
                go_wp2
                go_ret
                exact ⟨ret_bool hf.out.symm,HB1.out.trans ((below_regrown w1 dq osq).mono HB1.out.size)⟩
              · have Hnx:=hide (Hnx.out (by rw [Hok.out,hn,hi,hless];simp))
                clear hn hi
                go_wp2
                clear c0 c1
                refine wp_region_quiet_below (by kernel_rfl) (by kernel_rfl) ?_
                repeat (go_big_quiet_step ((first | (go_at_call 76;exact HN.out _ _) | (go_at_call 74;exact HI.out _ _))))
                refine wpQuiet_nil ?_
                intro _ hw'
                obtain ⟨⟨dq,osq⟩,hw''⟩:=hw'
                subst hw''
                go_wp2
                go_roundw
                case rel=>exact ⟨k+1,by omega,by go_num,Hnx.out,HB1.out.trans ((below_regrown w1 dq osq).mono HB1.out.size)⟩
                case measure=>simp [intOf];omega
      · have hf:=hide (set_yes l (fun j hj=>Hall.out j (by omega)))
        rw [h12] at hf
        go_wp2
        go_ret
        exact ⟨ret_bool hf.out.symm,hb⟩
end Go.Proofs.YtckahjabljffjaaGreat
