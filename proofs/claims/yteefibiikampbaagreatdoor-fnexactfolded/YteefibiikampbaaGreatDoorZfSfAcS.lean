/- Ledgers held against each other, by the model. -/
import Derived.Test.YteefibiikampbaaGreatDoorZfFoPure
import Derived.Deep.Cut
set_option maxRecDepth 20000
set_option maxHeartbeats 2000000
namespace Go.Proofs.YteefibiikampbaaGreatDoor
open Go.RowKit
set_option linter.unusedVariables false
end Go.Proofs.YteefibiikampbaaGreatDoor
namespace Go.Proofs.YteefibiikampbaaGreatDoor
open Go.RowKit Go.Sort
set_option linter.unusedVariables false
set_option linter.unusedSimpArgs false
theorem specSameAcct_any (a b:Ac) (la lb:Value) (w:World) (hra:RdL w la a.2.2.2.2) (hrb:RdL w lb b.2.2.2.2) (hl1:a.2.2.2.2.length<=4000000) (hl2:b.2.2.2.2.length<=4000000) :
    Calls Tryz.prog 83 #[acV a la,acV b lb] w fun e w'=>e=.returned (.bool (decide (a=b)))/\Below w.heap.size w w':=by
  obtain ⟨n1,f1,o1,s1,l1⟩:=a
  obtain ⟨n2,f2,o2,s2,l2⟩:=b
  obtain ⟨av,ac,rfl⟩:=hra.shape
  obtain ⟨bv,bc,rfl⟩:=hrb.shape
  have HB:=hide (((Below.refl _ w).alloc (Nat.le_refl _) (.cells #[.string n1,.int .i64 f1,.int .i64 o1,.int .i64 s1,.slice av l1.length ac] 131)).alloc (by simp) (.cells #[.string n2,.int .i64 f2,.int .i64 o2,.int .i64 s2,.slice bv l2.length bc] 131))
  have Ha:=hide (hra.below HB.out (Nat.le_refl _))
  have Hb:=hide (hrb.below HB.out (Nat.le_refl _))
  clear hra hrb
  simp only [acV] at *
  by_cases h0:n1=n2
  · subst h0
    by_cases h1:f1=f2
    · subst h1
      by_cases h2:o1=o2
      · subst h2
        by_cases h3:s1=s2
        · subst h3
          have Hd:Hid (decide (((n1,f1,o1,s1,l1):Ac)=(n1,f1,o1,s1,l2))=decide (l1=l2)):=hide (by simp)
          rw [Hd.out]
          clear Hd
          obtain ⟨w2,hw2⟩:∃ y,(w.alloc (.cells #[.string n1,.int .i64 f1,.int .i64 o1,.int .i64 s1,.slice av l1.length ac] 131)).alloc (.cells #[.string n1,.int .i64 f1,.int .i64 o1,.int .i64 s1,.slice bv l2.length bc] 131)=y:=⟨_,rfl⟩
          have hs1:(w.alloc (.cells #[.string n1,.int .i64 f1,.int .i64 o1,.int .i64 s1,.slice av l1.length ac] 131)).heap.size=w.heap.size+1:=by simp
          have K1:=hide (show Blk w2 w.heap.size 131 [.string n1,.int .i64 f1,.int .i64 o1,.int .i64 s1,.slice av l1.length ac] from by rw [<- hw2];exact (Blk.new w _ _).below ((Below.refl (w.heap.size+1) _).alloc (by rw [hs1];exact Nat.le_refl _) _) (by omega))
          have K2:=hide (show Blk w2 (w.heap.size+1) 131 [.string n1,.int .i64 f1,.int .i64 o1,.int .i64 s1,.slice bv l2.length bc] from by rw [<- hw2,<- hs1];exact Blk.new _ _ _)
          rw [hw2] at HB Ha Hb
          clear hs1
          have x0:=K1.out.cell 0
          have x1:=K1.out.cell 1
          have x2:=K1.out.cell 2
          have x3:=K1.out.cell 3
          have x4:=K1.out.cell 4
          have y0:=K2.out.cell 0
          have y1:=K2.out.cell 1
          have y2:=K2.out.cell 2
          have y3:=K2.out.cell 3
          have y4:=K2.out.cell 4
          simp only [List.getElem?_cons_zero,List.getElem?_cons_succ] at x0 x1 x2 x3 x4 y0 y1 y2 y3 y4
          by_cases hne:l1.length=l2.length
          · have hlen:((l1.length:Int) != (l2.length:Int))=false:=by rw [hne];simp
            have hle:l1.length<=l2.length:=by omega
            have Hne:=hide hne
            clear hne
            go_enter Tryz.func83,Tryz.ntmps83
            go_upto_region 1 with fail
            (try rw [hw2])
            clear hw2
            go_wp2
            clear x0 x1 x2 x3 x4 y0 y1 y2 y3 y4
            go_loopw [5] (fun i wr=>∃ k:Nat,k<=l1.length/\i=.int .i64 k/\l1.take k=l2.take k/\Sm w2 wr) (fun i _=>l1.length - (intOf i).toNat)
            case atStart=>exact ⟨0,Nat.zero_le _,rfl,rfl,Sm.refl _⟩
            case round =>
              obtain ⟨k,hk,rfl,ht,hs⟩:=hrel
              have Ht:=hide ht
              clear ht
              have x4:=(hs.cell ⟨w.heap.size,4,none⟩).trans (K1.out.cell 4)
              have y4:=(hs.cell ⟨w.heap.size+1,4,none⟩).trans (K2.out.cell 4)
              simp only [List.getElem?_cons_zero,List.getElem?_cons_succ] at x4 y4
              by_cases hlt:k < l1.length
              · have hlt2:k < l2.length:=by have:=Hne.out;omega
                rcases Ha.out with ⟨a,cap,e9,e8,-⟩ | ⟨b,off,cap,h0,e9,h1,h2,h3,h4⟩
                · rw [e8] at hlt;simp at hlt
                rcases Hb.out with ⟨a,cap',e7,e6,-⟩ | ⟨b2,off2,cap2,g0,e7,g1,g2,g3,g4⟩
                · rw [e6] at hlt2;simp at hlt2
                simp only [Value.slice.injEq] at e9 e7
                obtain ⟨rfl,-,rfl⟩:=e9
                obtain ⟨rfl,-,rfl⟩:=e7
                obtain ⟨c0,c1⟩:=h4 k hlt
                obtain ⟨d0,d1⟩:=g4 k hlt2
                replace c0:=(hs.cell ⟨b,off+k * 2,none⟩).trans c0
                replace d0:=(hs.cell ⟨b2,off2+k * 2,none⟩).trans d0
                replace c1:=(hs.cell ⟨b,off+k * 2+1,none⟩).trans c1
                replace d1:=(hs.cell ⟨b2,off2+k * 2+1,none⟩).trans d1
                have hli:(k:Int) < (l1.length:Int):=by omega
                have hli2:(k:Int) < (l2.length:Int):=by omega
                have hk0:(0:Int)<=(k:Int):=by omega
                have Hnx:Hid (l1[k]=l2[k]->l1.take (k+1)=l2.take (k+1)):=hide (fun he=>take_eq_snoc hlt hlt2 Ht.out he)
                have Hno:Hid (l1[k] ≠ l2[k]->decide (l1=l2)=false):=hide (fun he=>by rw [decide_eq_false];intro e;subst e;exact he rfl)
                clear h4 g4
                generalize l1[k]=p at c0 c1 Hnx Hno
                generalize l2[k]=q at d0 d1 Hnx Hno
                obtain ⟨u0,u1⟩:=p
                obtain ⟨v0,v1⟩:=q
                simp only at c0 d0 c1 d1
                by_cases e0:u0=v0
                · subst e0
                  by_cases e1:u1=v1
                  · subst e1
                    have Hn2:=hide (Hnx.out rfl)
                    clear Hno Hnx
                    go_wp2
                    go_quiet (fail)
                    go_wp2
                    go_roundw
                    case rel=>exact ⟨k+1,by omega,by go_num,Hn2.out,hs.drewN _⟩
                    case measure=>simp [intOf];omega
                  · have Hno:=hide (Hno.out (by intro h;simp only [Prod.mk.injEq] at h;exact e1 h.2))
                    have hq:=int_ne e1
                    have hq2:(u1 == v1)=false:=by rw [beq_eq_false_iff_ne];exact e1
                    clear e1 Hnx
                    go_wp2
                    go_quiet (fail)
                    go_wp2
                    go_ret
                    exact ⟨ret_bool Hno.out.symm,HB.out.trans (hs.drewN _ _)⟩
                · have Hno:=hide (Hno.out (by intro h;simp only [Prod.mk.injEq] at h;exact e0 h.1))
                  have hq:=int_ne e0
                  have hq2:(u0 == v0)=false:=by rw [beq_eq_false_iff_ne];exact e0
                  clear e0 Hnx
                  go_wp2
                  go_quiet (fail)
                  go_wp2
                  go_ret
                  exact ⟨ret_bool Hno.out.symm,HB.out.trans (hs.drewN _ _)⟩
              · have hf:Hid (decide (l1=l2)=true):=hide (by
                  rw [decide_eq_true]
                  have h:=Ht.out
                  have:=Hne.out
                  rwa [List.take_of_length_le (by omega),List.take_of_length_le (by omega)] at h)
                have hli:¬ (k:Int) < (l1.length:Int):=by omega
                go_wp2
                go_ret
                exact ⟨ret_bool hf.out.symm,HB.out.trans (hs _)⟩
          · have hlen:((l1.length:Int) != (l2.length:Int))=true:=by rw [bne_iff_ne];omega
            have hf:Hid (decide (l1=l2)=false):=hide (by rw [decide_eq_false];intro e;subst e;exact hne rfl)
            clear hne
            go_enter Tryz.func83,Tryz.ntmps83
            go_upto_region 1 with fail
            (try rw [hw2])
            clear hw2
            go_wp2
            go_ret
            exact ⟨ret_bool hf.out.symm,HB.out⟩
        · have Hd:Hid (decide (((n1,f1,o1,s1,l1):Ac)=(n1,f1,o1,s2,l2))=false):=hide (by rw [decide_eq_false];intro e;simp only [Prod.mk.injEq] at e;exact h3 e.2.2.2.1)
          have hq:=int_ne h3
          clear h3 Ha Hb
          go_enter Tryz.func83,Tryz.ntmps83
          go_wp2
          go_ret
          exact ⟨ret_bool Hd.out.symm,HB.out⟩
      · have Hd:Hid (decide (((n1,f1,o1,s1,l1):Ac)=(n1,f1,o2,s2,l2))=false):=hide (by rw [decide_eq_false];intro e;simp only [Prod.mk.injEq] at e;exact h2 e.2.2.1)
        have hq:=int_ne h2
        clear h2 Ha Hb
        go_enter Tryz.func83,Tryz.ntmps83
        go_wp2
        go_ret
        exact ⟨ret_bool Hd.out.symm,HB.out⟩
    · have Hd:Hid (decide (((n1,f1,o1,s1,l1):Ac)=(n1,f2,o2,s2,l2))=false):=hide (by rw [decide_eq_false];intro e;simp only [Prod.mk.injEq] at e;exact h1 e.2.1)
      have hq:=int_ne h1
      clear h1 Ha Hb
      go_enter Tryz.func83,Tryz.ntmps83
      go_wp2
      go_ret
      exact ⟨ret_bool Hd.out.symm,HB.out⟩
  · have Hd:Hid (decide (((n1,f1,o1,s1,l1):Ac)=(n2,f2,o2,s2,l2))=false):=hide (by rw [decide_eq_false];intro e;simp only [Prod.mk.injEq] at e;exact h0 e.1)
    have hq:=bytes_ne h0
    clear h0 Ha Hb
    go_enter Tryz.func83,Tryz.ntmps83
    go_wp2
    go_ret
    exact ⟨ret_bool Hd.out.symm,HB.out⟩
theorem specSameLg_any (e1 e2:Int) (v1 v2:Value) (l1 l2:List Ac) (w:World) (hr1:RdA w v1 l1) (hr2:RdA w v2 l2) (hl1:l1.length<=4000000) (hl2:l2.length<=4000000) (ha1:∀ a ∈ l1,a.2.2.2.2.length<=4000000) (ha2:∀ a ∈ l2,a.2.2.2.2.length<=4000000) :
    Calls Tryz.prog 51 #[lgV e1 v1,lgV e2 v2] w fun e w'=>e=.returned (.bool ((decide (e1=e2) && eqAcs l1 l2)))/\Below w.heap.size w w':=by
  obtain ⟨a1,c1,rfl⟩:=hr1.shape
  obtain ⟨a2,c2,rfl⟩:=hr2.shape
  simp only [lgV]
  obtain ⟨w2,hw2⟩:∃ y,(w.alloc (.cells #[.int .i64 e1,.slice a1 l1.length c1] 36)).alloc (.cells #[.int .i64 e2,.slice a2 l2.length c2] 36)=y:=⟨_,rfl⟩
  have hs1:(w.alloc (.cells #[.int .i64 e1,.slice a1 l1.length c1] 36)).heap.size=w.heap.size+1:=by simp
  have hb2:Below w.heap.size w w2:=by rw [<- hw2];exact ((Below.refl _ w).alloc (Nat.le_refl _) _).alloc (by rw [hs1];omega) _
  have K1:=hide (show Blk w2 w.heap.size 36 [.int .i64 e1,.slice a1 l1.length c1] from by rw [<- hw2];exact (Blk.new w _ _).below ((Below.refl (w.heap.size+1) _).alloc (by rw [hs1];exact Nat.le_refl _) _) (by omega))
  have K2:=hide (show Blk w2 (w.heap.size+1) 36 [.int .i64 e2,.slice a2 l2.length c2] from by rw [<- hw2,<- hs1];exact Blk.new _ _ _)
  have HB:=hide hb2
  have H1:=hide (hr1.below hb2 (Nat.le_refl _))
  have H2:=hide (hr2.below hb2 (Nat.le_refl _))
  have x0:=K1.out.cell 0
  have x1:=K1.out.cell 1
  have y0:=K2.out.cell 0
  have y1:=K2.out.cell 1
  simp only [List.getElem?_cons_zero,List.getElem?_cons_succ] at x0 x1 y0 y1
  have A1:=hide ha1
  have A2:=hide ha2
  clear hr1 hr2 ha1 ha2 hs1 hb2
  by_cases he:e1=e2
  · subst he
    have Hd:Hid ((decide (e1=e1) && eqAcs l1 l2)=eqAcs l1 l2):=hide (by simp)
    rw [Hd.out]
    clear Hd
    by_cases hne:l1.length=l2.length
    · have hlen:((l1.length:Int) != (l2.length:Int))=false:=by rw [hne];simp
      have Hne:=hide hne
      clear hne
      go_enter Tryz.func51,Tryz.ntmps51
      go_upto_region 1 with fail
      (try rw [hw2])
      clear hw2
      go_wp2
      clear x0 x1 y0 y1
      go_loopw [5] (fun i wr=>∃ k:Nat,k<=l1.length/\i=.int .i64 k/\l1.take k=l2.take k/\Below w2.heap.size w2 wr) (fun i _=>l1.length - (intOf i).toNat)
      case atStart=>exact ⟨0,Nat.zero_le _,rfl,rfl,Below.refl _ _⟩
      case round =>
        obtain ⟨k,hk,rfl,ht,hs⟩:=hrel
        have Ht:=hide ht
        clear ht
        have x1:=(K1.out.below hs K1.out.lt).cell 1
        have y1:=(K2.out.below hs K2.out.lt).cell 1
        simp only [List.getElem?_cons_zero,List.getElem?_cons_succ] at x1 y1
        by_cases hlt:k < l1.length
        · have hlt2:k < l2.length:=by have:=Hne.out;omega
          rcases H1.out with ⟨a,cap,e9,e8,-⟩ | ⟨b,off,cap,h0,e9,h1,h2,h3,h4⟩
          · rw [e8] at hlt;simp at hlt
          rcases H2.out with ⟨a,cap',e7,e6,-⟩ | ⟨b2,off2,cap2,g0,e7,g1,g2,g3,g4⟩
          · rw [e6] at hlt2;simp at hlt2
          simp only [Value.slice.injEq] at e9 e7
          obtain ⟨rfl,-,rfl⟩:=e9
          obtain ⟨rfl,-,rfl⟩:=e7
          obtain ⟨lv1,q1,m1⟩:=h4 k hlt
          obtain ⟨lv2,q2,m2⟩:=g4 k hlt2
          obtain ⟨c0,c1,c2,c3,c4⟩:=q1.below hs h3
          obtain ⟨d0,d1,d2,d3,d4⟩:=q2.below hs g3
          have n1:=m1.below hs (Nat.le_refl _)
          have n2:=m2.below hs (Nat.le_refl _)
          have hli:(k:Int) < (l1.length:Int):=by omega
          have hli2:(k:Int) < (l2.length:Int):=by omega
          have hk0:(0:Int)<=(k:Int):=by omega
          have HA:=hide (fun (d:Nat) (os:Array Obj)=>Calls.regrown_of (specSameAcct_any l1[k] l2[k] lv1 lv2 (grow (redrawn wr d) os) (n1.below (below_regrown wr d os) (Nat.le_refl _)) (n2.below (below_regrown wr d os) (Nat.le_refl _)) (A1.out _ (List.getElem_mem hlt)) (A2.out _ (List.getElem_mem hlt2))))
          have Hnx:Hid (decide (l1[k]=l2[k])=true->l1.take (k+1)=l2.take (k+1)):=hide (fun h=>take_eq_snoc hlt hlt2 Ht.out (of_decide_eq_true h))
          have Hno:Hid (decide (l1[k]=l2[k])=false->eqAcs l1 l2=false):=hide (fun h=>eqAcs_no (by intro e;subst e;simp at h))
          simp only [acV] at HA
          clear q1 q2 m1 m2 n1 n2 h4 g4
          generalize decide (l1[k]=l2[k])=X at HA Hnx Hno
          generalize l1[k]=p at c0 c1 c2 c3 c4 HA
          generalize l2[k]=q at d0 d1 d2 d3 d4 HA
          obtain ⟨p1,p2,p3,p4,p5⟩:=p
          obtain ⟨q1,q2,q3,q4,q5⟩:=q
          simp only at c0 c1 c2 c3 c4 d0 d1 d2 d3 d4 HA
          replace c0:=cell_regrown c0
          replace c1:=cell_regrown c1
          replace c2:=cell_regrown c2
          replace c3:=cell_regrown c3
          replace c4:=cell_regrown c4
          replace d0:=cell_regrown d0
          replace d1:=cell_regrown d1
          replace d2:=cell_regrown d2
          replace d3:=cell_regrown d3
          replace d4:=cell_regrown d4
          have g8:=cell_regrown x1
          have g9:=cell_regrown y1
          have Hs:=hide hs
          clear hs
          go_wp2
          clear x1 y1
          refine wp_region_quiet_below (by kernel_rfl) (by kernel_rfl) ?_
          (try dsimp only [List.append])
          repeat (first | go_big_quiet_step (first | (go_at_call 83;exact HA.out _ _)))
          refine wpQuiet_nil ?_
          intro _ hw'
          obtain ⟨⟨dq,osq⟩,hw''⟩:=hw'
          subst hw''
          have Hb2:=hide (Hs.out.trans ((below_regrown wr dq osq).mono Hs.out.size))
          cases X
          · have hf:=hide (Hno.out rfl)
            clear Hno Hnx
            go_wp2
            go_ret
            exact ⟨ret_bool hf.out.symm,HB.out.trans (Hb2.out.mono HB.out.size)⟩
          · have hn:=hide (Hnx.out rfl)
            clear Hno Hnx
            go_wp2
            go_roundw
            case rel=>exact ⟨k+1,by omega,by go_num,hn.out,Hb2.out⟩
            case measure=>simp [intOf];omega
        · have hf:Hid (eqAcs l1 l2=true):=hide (by
            refine eqAcs_yes ?_
            have h:=Ht.out
            have:=Hne.out
            rwa [List.take_of_length_le (by omega),List.take_of_length_le (by omega)] at h)
          have hli:¬ (k:Int) < (l1.length:Int):=by omega
          go_wp2
          go_ret
          exact ⟨ret_bool hf.out.symm,HB.out.trans (hs.mono HB.out.size)⟩
    · have hlen:((l1.length:Int) != (l2.length:Int))=true:=by rw [bne_iff_ne];omega
      have hf:Hid (eqAcs l1 l2=false):=hide (eqAcs_no (by intro e;subst e;exact hne rfl))
      clear hne
      go_enter Tryz.func51,Tryz.ntmps51
      go_upto_region 1 with fail
      (try rw [hw2])
      clear hw2
      go_wp2
      go_ret
      exact ⟨ret_bool hf.out.symm,HB.out⟩
  · have Hd:Hid ((decide (e1=e2) && eqAcs l1 l2)=false):=hide (by rw [decide_eq_false he];rfl)
    have hq:=int_ne he
    clear he
    go_enter Tryz.func51,Tryz.ntmps51
    go_upto_region 1 with fail
    (try rw [hw2])
    clear hw2
    go_wp2
    go_ret
    exact ⟨ret_bool Hd.out.symm,HB.out⟩
end Go.Proofs.YteefibiikampbaaGreatDoor
