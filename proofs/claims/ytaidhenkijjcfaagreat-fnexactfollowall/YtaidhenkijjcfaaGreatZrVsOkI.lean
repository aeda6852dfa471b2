/- The landed code's SetOk. -/
import Derived.Test.YtaidhenkijjcfaaGreatZrTxSpec
set_option maxRecDepth 20000
set_option maxHeartbeats 4000000
namespace Go.Proofs.YtaidhenkijjcfaaGreat
open Go.RowKit
open Go.RowKit Go.Sort
set_option linter.unusedVariables false
theorem same_regrown {P:Program} {f:FuncId} {args:Array Value} {w:World} {d:Nat} {os:Array Obj} {v:Value}
    (h:Calls P f args (grow (redrawn w d) os) fun e w'=>e=.returned v/\w'=grow (redrawn w d) os):Calls P f args (grow (redrawn w d) os) fun e w''=>e=.returned v/\∃ p:Regrown,w''=grow (redrawn w p.d) p.os :=
  h.mono fun _ _ ⟨he,hw⟩=>⟨he,⟨⟨d,os⟩,hw⟩⟩
theorem implWithinT_any (x a b:Int) (w:World) :
    Calls Tryz.prog 140 #[.int .i64 x,.int .i64 a,.int .i64 b] w fun e w'=>e=.returned (.bool (inB x a b))/\w'=w:=by
  by_cases h1:a<=x
  · by_cases h2:x<=b
    · have e:Hid (inB x a b=true):=hide (by simp [inB,h1,h2])
      go_enter Tryz.func140,Tryz.ntmps140
      go_wp2
      go_ret
      rw [e.out];exact ⟨rfl,rfl⟩
    · have e:Hid (inB x a b=false):=hide (by simp [inB,h1,h2])
      go_enter Tryz.func140,Tryz.ntmps140
      go_wp2
      go_ret
      rw [e.out];exact ⟨rfl,rfl⟩
  · have e:Hid (inB x a b=false):=hide (by simp [inB,h1])
    go_enter Tryz.func140,Tryz.ntmps140
    go_wp2
    go_ret
    rw [e.out];exact ⟨rfl,rfl⟩
theorem implOnly_any (k am no:Int) (f tO:ByteArray) (w:World) :
    Calls Tryz.prog 178 #[.agg #[.int .i64 k,.string f,.string tO,.int .i64 am,.int .i64 no]] w fun e w'=>e=.returned (.agg #[.int .i64 k,.string f,.string (if k=1 then tO else { data:=#[] }),.int .i64 am,.int .i64 no])/\Below w.heap.size w w':=by
  by_cases h1:k=1
  · rw [if_pos h1]
    subst h1
    go_enter Tryz.func178,Tryz.ntmps178
    go_wp2
    refine bodyPost_ret (v:=.agg #[.int .i64 1,.string f,.string tO,.int .i64 am,.int .i64 no]) (by simp [results,Tryz.f178,go_sem]) rfl ?_
    exact ⟨rfl,((Below.refl _ w).alloc (Nat.le_refl _) _).alloc (by simp) _⟩
  · rw [if_neg h1]
    have hq:(k == 1)=false:=by rw [beq_eq_false_iff_ne];exact h1
    clear h1
    go_enter Tryz.func178,Tryz.ntmps178
    go_wp2
    refine bodyPost_ret (v:=.agg #[.int .i64 k,.string f,.string { data:=#[] },.int .i64 am,.int .i64 no]) (by simp [results,Tryz.f178,go_sem]) rfl ?_
    exact ⟨rfl,((Below.refl _ w).alloc (Nat.le_refl _) _).alloc (by simp) _⟩
theorem txB_is (k am no:Int) (f tO:ByteArray):txB (k,f,tO,am,no)=(inB k 1 3 && ((decide (k=1) || decide (tO=ByteArray.empty)) && ((!decide (k=1) || nmB tO) && (nmB f && (inB am 1 1000000 && inB no 0 10000))))):=by
  simp only [txB]
  by_cases h:k=1
  · subst h
    simp only [if_pos,inB]
    cases nmB f <;> cases nmB tO <;> simp
  · rw [if_neg h]
    have e:inB k 2 3=inB k 1 3:=by
      rw [Bool.eq_iff_iff]
      simp only [inB,decide_eq_true_eq]
      omega
    rw [e]
    cases inB k 1 3 <;> cases nmB f <;> cases inB am 1 1000000 <;> cases inB no 0 10000 <;> simp [h]
theorem implTxOk_any (t:Tx5) (w:World) (hf:t.2.1.size<=maxLen) (ht:t.2.2.1.size<=maxLen) :
    Calls Tryz.prog 173 #[txV t] w fun e w'=>e=.returned (.bool (txB t))/\Below w.heap.size w w':=by
  obtain ⟨k,f,tO,am,no⟩:=t
  simp only [txV] at *
  obtain ⟨w0,hw0⟩:∃ w0,w.alloc (.cells #[.int .i64 k,.string f,.string tO,.int .i64 am,.int .i64 no] 177)=w0:=⟨_,rfl⟩
  have HB:Hid (Below w.heap.size w w0):=hide (by rw [<- hw0];exact (Below.refl _ w).alloc (Nat.le_refl _) _)
  have hk:Blk w0 w.heap.size 177 [.int .i64 k,.string f,.string tO,.int .i64 am,.int .i64 no]:=by rw [<- hw0];exact heap_alloc_new w _
  have k0:=hk.cell 0
  have k1:=hk.cell 1
  have k2:=hk.cell 2
  have k3:=hk.cell 3
  have k4:=hk.cell 4
  simp only [List.getElem?_cons_zero,List.getElem?_cons_succ] at k0 k1 k2 k3 k4
  have g0:=cell_regrown k0
  have g1:=cell_regrown k1
  have g2:=cell_regrown k2
  have g3:=cell_regrown k3
  have g4:=cell_regrown k4
  clear hk
  have Hx:=hide (txB_is k am no f tO)
  generalize txB (k,f,tO,am,no)=X at Hx
  have HO:=hide (fun (d:Nat) (os:Array Obj)=>Calls.regrown_of (implOnly_any k am no f tO (grow (redrawn w0 d) os)))
  cases e0:inB k 1 3
  · rw [e0,Bool.false_and] at Hx
    clear HO
    go_enter Tryz.func173,Tryz.ntmps173
    go_wp2
    clear k0 k1 k2 k3 k4
    refine wp_region_quiet_below (by kernel_rfl) (by kernel_rfl) ?_
    repeat (go_big_quiet_step ((first
          | (go_at_call 140;exact same_regrown (implWithinT_any _ _ _ _))
          | (go_at_call 178;exact HO.out _ _)
          | (go_at_call 141;exact same_regrown (implNameOk_any _ _ (by assumption))))))
    refine wpQuiet_nil ?_
    intro _ hw'
    obtain ⟨⟨dq,osq⟩,hw''⟩:=hw'
    subst hw''
    go_wp2
    go_ret
    exact ⟨ret_bool Hx.out.symm,HB.out.trans ((below_regrown w0 dq osq).mono HB.out.size)⟩
  · rw [e0, Bool.true_and] at Hx
    by_cases hk1:k=1
    · rw [if_pos hk1] at HO
      rw [decide_eq_true hk1,Bool.true_or,Bool.true_and,Bool.not_true,Bool.false_or] at Hx
      subst hk1
      cases e2:nmB tO
      · rw [e2,Bool.false_and] at Hx
        go_enter Tryz.func173,Tryz.ntmps173
        go_wp2
        clear k0 k1 k2 k3 k4
        refine wp_region_quiet_below (by kernel_rfl) (by kernel_rfl) ?_
        repeat (go_big_quiet_step ((first
          | (go_at_call 140;exact same_regrown (implWithinT_any _ _ _ _))
          | (go_at_call 178;exact HO.out _ _)
          | (go_at_call 141;exact same_regrown (implNameOk_any _ _ (by assumption))))))
        refine wpQuiet_nil ?_
        intro _ hw'
        obtain ⟨⟨dq,osq⟩,hw''⟩:=hw'
        subst hw''
        go_wp2
        go_ret
        exact ⟨ret_bool Hx.out.symm,HB.out.trans ((below_regrown w0 dq osq).mono HB.out.size)⟩
      · rw [e2,Bool.true_and] at Hx
        go_enter Tryz.func173,Tryz.ntmps173
        go_wp2
        clear k0 k1 k2 k3 k4
        refine wp_region_quiet_below (by kernel_rfl) (by kernel_rfl) ?_
        repeat (go_big_quiet_step ((first
          | (go_at_call 140;exact same_regrown (implWithinT_any _ _ _ _))
          | (go_at_call 178;exact HO.out _ _)
          | (go_at_call 141;exact same_regrown (implNameOk_any _ _ (by assumption))))))
        refine wpQuiet_nil ?_
        intro _ hw'
        obtain ⟨⟨dq,osq⟩,hw''⟩:=hw'
        subst hw''
        have HB1:Hid (Below w.heap.size w (grow (redrawn w0 dq) osq)):=hide (HB.out.trans ((below_regrown w0 dq osq).mono HB.out.size))
        have k1:=g1 dq osq
        have k3:=g3 dq osq
        have k4:=g4 dq osq
        clear g0 g1 g2 g3 g4 HB HO
        generalize grow (redrawn w0 dq) osq=w1 at *
        cases e3:nmB f <;> cases e4:inB am 1 1000000 <;> simp only [e3,e4,Bool.true_and,Bool.false_and] at Hx
        all_goals
          go_wp2_with (first
            | (go_at_call 141;refine (implNameOk_any _ _ (by assumption)).mono ?_;rintro e w1 ⟨rfl,rfl⟩)
            | (go_at_call 140;refine (implWithinT_any _ _ _ _).mono ?_;rintro e w1 ⟨rfl,rfl⟩))
          go_ret
          exact ⟨ret_bool Hx.out.symm,HB1.out⟩
    · rw [if_neg hk1] at HO
      rw [decide_eq_false hk1,Bool.false_or,Bool.not_false,Bool.true_or,Bool.true_and] at Hx
      have hkb:(k == 1)=false:=by rw [beq_eq_false_iff_ne];exact hk1
      clear hk1
      by_cases e2:tO=ByteArray.empty
      · rw [decide_eq_true e2,Bool.true_and] at Hx
        subst e2
        go_enter Tryz.func173,Tryz.ntmps173
        go_wp2
        clear k0 k1 k2 k3 k4
        refine wp_region_quiet_below (by kernel_rfl) (by kernel_rfl) ?_
        repeat (go_big_quiet_step ((first
          | (go_at_call 140;exact same_regrown (implWithinT_any _ _ _ _))
          | (go_at_call 178;exact HO.out _ _)
          | (go_at_call 141;exact same_regrown (implNameOk_any _ _ (by assumption))))))
        refine wpQuiet_nil ?_
        intro _ hw'
        obtain ⟨⟨dq,osq⟩,hw''⟩:=hw'
        subst hw''
        have HB1:Hid (Below w.heap.size w (grow (redrawn w0 dq) osq)):=hide (HB.out.trans ((below_regrown w0 dq osq).mono HB.out.size))
        have k1:=g1 dq osq
        have k3:=g3 dq osq
        have k4:=g4 dq osq
        clear g0 g1 g2 g3 g4 HB HO
        generalize grow (redrawn w0 dq) osq=w1 at *
        cases e3:nmB f <;> cases e4:inB am 1 1000000 <;> simp only [e3,e4,Bool.true_and,Bool.false_and] at Hx
        all_goals
          go_wp2_with (first
            | (go_at_call 141;refine (implNameOk_any _ _ (by assumption)).mono ?_;rintro e w1 ⟨rfl,rfl⟩)
            | (go_at_call 140;refine (implWithinT_any _ _ _ _).mono ?_;rintro e w1 ⟨rfl,rfl⟩))
          go_ret
          exact ⟨ret_bool Hx.out.symm,HB1.out⟩
      · rw [decide_eq_false e2,Bool.false_and] at Hx
        have hne:tO.toList.isEmpty=false:=by
          cases h:tO.toList.isEmpty
          · rfl
          · exact absurd (toList_inj5 (List.isEmpty_iff.1 h)) e2
        clear e2
        go_enter Tryz.func173,Tryz.ntmps173
        go_wp2
        clear k0 k1 k2 k3 k4
        refine wp_region_quiet_below (by kernel_rfl) (by kernel_rfl) ?_
        repeat (go_big_quiet_step ((first
          | (go_at_call 140;exact same_regrown (implWithinT_any _ _ _ _))
          | (go_at_call 178;exact HO.out _ _)
          | (go_at_call 141;exact same_regrown (implNameOk_any _ _ (by assumption))))))
        refine wpQuiet_nil ?_
        intro _ hw'
        obtain ⟨⟨dq,osq⟩,hw''⟩:=hw'
        subst hw''
        go_wp2
        go_ret
        exact ⟨ret_bool Hx.out.symm,HB.out.trans ((below_regrown w0 dq osq).mono HB.out.size)⟩
end Go.Proofs.YtaidhenkijjcfaaGreat
namespace Go.Proofs.YtaidhenkijjcfaaGreat
open Go.RowKit Go.Sort
set_option linter.unusedVariables false
theorem withinV_any (x a b:Int) (w:World) :
    Calls Tryz.prog 140 #[.int .i64 x,.int .i64 a,.int .i64 b] w fun e w'=>e=.returned (.bool (inB x a b))/\w'=w:=by
  by_cases h1:a<=x
  · by_cases h2:x<=b
    · have e:Hid (inB x a b=true):=hide (by simp [inB,h1,h2])
      go_enter Tryz.func140,Tryz.ntmps140
      go_wp2
      go_ret
      rw [e.out];exact ⟨rfl,rfl⟩
    · have e:Hid (inB x a b=false):=hide (by simp [inB,h1,h2])
      go_enter Tryz.func140,Tryz.ntmps140
      go_wp2
      go_ret
      rw [e.out];exact ⟨rfl,rfl⟩
  · have e:Hid (inB x a b=false):=hide (by simp [inB,h1])
    go_enter Tryz.func140,Tryz.ntmps140
    go_wp2
    go_ret
    rw [e.out];exact ⟨rfl,rfl⟩
theorem implSetOk_any (v:Value) (l:List Vl) (w:World) (hr:RdV w v l) (hl:l.length<=4000000) (hall:∀ a ∈ l,a.1.size<=maxLen) :
    Calls Tryz.prog 98 #[v] w fun e w'=>e=.returned (.bool (setB l))/\Below w.heap.size w w':=by
  rcases hr with ⟨a,cap,rfl,rfl,-⟩ | ⟨b,off,cap,h0,rfl,h1,h2,h3,h4⟩
  · have HW:=hide (fun w=>withinV_any 0 1 12 w)
    have h0:inB 0 1 12=false:=rfl
    rw [h0] at HW
    go_enter Tryz.func98,Tryz.ntmps98
    go_wp2_with fail
    refine (HW.out _).mono ?_
    rintro e w2 ⟨rfl,rfl⟩
    go_wp2
    go_ret
    exact ⟨rfl,Below.refl _ _⟩
  · have H4 := hide h4
    have Hs:=hide hall
    clear h4 hall
    have Hset:Hid (setB l=((List.range l.length).all (vlAt l) && inB l.length 1 12)):=hide rfl
    cases h12:inB (l.length:Int) 1 12
    · rw [h12,Bool.and_false] at Hset
      have HW:=hide (fun w=>withinV_any (l.length:Int) 1 12 w)
      rw [h12] at HW
      clear h12
      go_enter Tryz.func98,Tryz.ntmps98
      go_wp2_with fail
      refine (HW.out _).mono ?_
      rintro e w2 ⟨rfl,rfl⟩
      go_wp2
      go_ret
      exact ⟨ret_bool Hset.out.symm,Below.refl _ _⟩
    clear Hset
    have HW:=hide (fun w=>withinV_any (l.length:Int) 1 12 w)
    rw [h12] at HW
    go_enter Tryz.func98,Tryz.ntmps98
    go_wp2_with fail
    refine (HW.out _).mono ?_
    rintro e w ⟨rfl,rfl⟩
    go_wp2
    go_loopw [11] (fun i wr=>∃ k:Nat,k<=l.length/\i=.int .i64 k/\(∀ j,j < k->vlAt l j=true)/\Below w.heap.size w wr) (fun i _=>l.length - (intOf i).toNat)
    case atStart=>exact ⟨0,Nat.zero_le _,rfl,fun j hj=>by omega,Below.refl _ _⟩
    case round =>
      obtain ⟨k,hk,rfl,hok,hb⟩:=hrel
      have Hall:=hide hok
      clear hok
      by_cases hlt:k < l.length
      · obtain ⟨d0,d1⟩:=H4.out k hlt
        have c0:=(hb.cell (p:=⟨b,off+k * 2,none⟩) h3).trans d0
        have c1:=(hb.cell (p:=⟨b,off+k * 2+1,none⟩) h3).trans d1
        have hsz:=Hs.out l[k] (List.getElem_mem hlt)
        have Hok:=hide (vlAt_eq l k l[k] hlt rfl)
        have Hno:=hide (set_no l k hlt)
        have hli:(k:Int) < (l.length:Int):=by omega
        have Hnx:Hid (vlAt l k=true->∀ j,j < k+1->vlAt l j=true):=hide (fun h j hj=>by
          by_cases e:j=k
          · subst e;exact h
          · exact Hall.out j (by omega))
        have hprev:Hid (k ≥ 1->wr.cell? ⟨b,off+(k - 1) * 2,none⟩=some (.string (l.getD (k - 1) vl0).1)):=hide (fun hk1=>by
          rw [List.getD_eq_getElem?_getD,List.getElem?_eq_getElem (show k - 1 < l.length by omega)]
          exact (hb.cell (p:=⟨b,off+(k - 1) * 2,none⟩) h3).trans (H4.out (k - 1) (by omega)).1)
        clear d0 d1
        generalize l[k]=ak at c0 c1 Hok hsz
        generalize (l.getD (k - 1) vl0).1=pn at hprev Hok
        obtain ⟨nm,wt⟩:=ak
        simp only at c0 c1 Hok hsz
        obtain ⟨w1,hw1⟩:∃ w1,wr.alloc (.cells #[.string nm,.int .i64 wt] 100)=w1:=⟨_,rfl⟩
        have hA:Below wr.heap.size wr w1:=by rw [<- hw1];exact (Below.refl _ wr).alloc (Nat.le_refl _) _
        have hbb:b < wr.heap.size:=Nat.lt_of_lt_of_le h3 hb.size
        have HB1:Hid (Below w.heap.size w w1):=hide (hb.trans (hA.mono hb.size))
        have hk1:Blk w1 wr.heap.size 100 [.string nm,.int .i64 wt]:=by rw [<- hw1];exact Blk.new wr _ _
        have HN:=hide (fun (d:Nat) (os:Array Obj)=>sameV_regrown (implNameOk_any nm (grow (redrawn w1 d) os) hsz))
        have HI:=hide (fun (d:Nat) (os:Array Obj)=>sameV_regrown (withinV_any wt 1 1000000 (grow (redrawn w1 d) os)))
        have e0:=hk1.cell 0
        have e1:=hk1.cell 1
        simp only [List.getElem?_cons_zero,List.getElem?_cons_succ] at e0 e1
        have g0:=cell_regrown e0
        have g1:=cell_regrown e1
        have hprev1:Hid (k ≥ 1->w1.cell? ⟨b,off+(k - 1) * 2,none⟩=some (.string pn)):=hide (fun h=>(hA.cell (p:=⟨b,off+(k - 1) * 2,none⟩) hbb).trans (hprev.out h))
        clear e0 e1 hprev hsz hk1 hA
        cases hn:nmB nm
        · have hf:=hide (Hno.out (by rw [Hok.out,hn];rfl))
          rw [hn] at HN
          clear hn hprev1 Hnx
          go_wp2
          clear c0 c1
          refine wp_region_quiet_below (by kernel_rfl) (by kernel_rfl) ?_
          repeat (go_big_quiet_step ((first | (go_at_call 141;exact HN.out _ _) | (go_at_call 140;exact HI.out _ _))))
          refine wpQuiet_nil ?_
          intro _ hw'
          obtain ⟨⟨dq,osq⟩,hw''⟩:=hw'
          subst hw''
          go_wp2
          go_ret
          exact ⟨ret_bool hf.out.symm,HB1.out.trans ((below_regrown w1 dq osq).mono HB1.out.size)⟩
        · rw [hn] at HN
          cases hi:inB wt 1 1000000
          · have hf:=hide (Hno.out (by rw [Hok.out,hn,hi];rfl))
            rw [hi] at HI
            clear hn hi hprev1 Hnx
            go_wp2
            clear c0 c1
            refine wp_region_quiet_below (by kernel_rfl) (by kernel_rfl) ?_
            repeat (go_big_quiet_step ((first | (go_at_call 141;exact HN.out _ _) | (go_at_call 140;exact HI.out _ _))))
            refine wpQuiet_nil ?_
            intro _ hw'
            obtain ⟨⟨dq,osq⟩,hw''⟩:=hw'
            subst hw''
            go_wp2
            go_ret
            exact ⟨ret_bool hf.out.symm,HB1.out.trans ((below_regrown w1 dq osq).mono HB1.out.size)⟩
          · rw [hi] at HI
            by_cases hk1:k < 1
            · have hd:decide (0 < k)=false:=by simp;omega
              have hd2:decide ((0:Int) < (k:Int))=false:=by simp;omega
              have Hnx:=hide (Hnx.out (by rw [Hok.out,hn,hi,show k=0 from by omega];rfl))
              clear hn hi hprev1
              go_wp2
              clear c0 c1
              refine wp_region_quiet_below (by kernel_rfl) (by kernel_rfl) ?_
              repeat (go_big_quiet_step ((first | (go_at_call 141;exact HN.out _ _) | (go_at_call 140;exact HI.out _ _))))
              refine wpQuiet_nil ?_
              intro _ hw'
              obtain ⟨⟨dq,osq⟩,hw''⟩:=hw'
              subst hw''
              go_wp2
              go_roundw
              case rel=>exact ⟨k+1,by omega,by go_num,Hnx.out,HB1.out.trans ((below_regrown w1 dq osq).mono HB1.out.size)⟩
              case measure=>simp [intOf];omega
            · have hcp:=cell_regrown (hprev1.out (by omega))
              clear hprev1
              have hpos:(0:Int) < (k:Int):=by omega
              have hposN:0 < k:=by omega
              have hd1:decide (0 < k)=true:=by simp;omega
              have hix:((k:Int) - 1).toNat=k - 1:=by omega
              have hix1:(0:Int)<=(k:Int) - 1:=by omega
              have hix2:(k:Int) - 1 < (l.length:Int):=by omega
              cases hless:Op.bytesLess pn.toList nm.toList
              · have hf:=hide (Hno.out (by rw [Hok.out,hn,hi,hless];simp;omega))
                clear hn hi Hnx
                go_wp2
                clear c0 c1
                refine wp_region_quiet_below (by kernel_rfl) (by kernel_rfl) ?_
                repeat (go_big_quiet_step ((first | (go_at_call 141;exact HN.out _ _) | (go_at_call 140;exact HI.out _ _))))
                refine wpQuiet_nil ?_
                intro _ hw'
                obtain ⟨⟨dq,osq⟩,hw''⟩:=hw'
                subst hw''
                go_wp2
                go_ret
                exact ⟨ret_bool hf.out.symm,HB1.out.trans ((below_regrown w1 dq osq).mono HB1.out.size)⟩
              · have Hnx:=hide (Hnx.out (by rw [Hok.out,hn,hi,hless];simp))
                clear hn hi
                go_wp2
                clear c0 c1
                refine wp_region_quiet_below (by kernel_rfl) (by kernel_rfl) ?_
                repeat (go_big_quiet_step ((first | (go_at_call 141;exact HN.out _ _) | (go_at_call 140;exact HI.out _ _))))
                refine wpQuiet_nil ?_
                intro _ hw'
                obtain ⟨⟨dq,osq⟩,hw''⟩:=hw'
                subst hw''
                go_wp2
                go_roundw
                case rel=>exact ⟨k+1,by omega,by go_num,Hnx.out,HB1.out.trans ((below_regrown w1 dq osq).mono HB1.out.size)⟩
                case measure=>simp [intOf];omega
      · have hf:=hide (set_yes l (fun j hj=>Hall.out j (by omega)))
        rw [h12] at hf
        go_wp2
        go_ret
        exact ⟨ret_bool hf.out.symm,hb⟩
end Go.Proofs.YtaidhenkijjcfaaGreat
