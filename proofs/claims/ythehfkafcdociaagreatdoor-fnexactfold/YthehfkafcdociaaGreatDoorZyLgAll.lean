/- Orders one behind the other. -/
import Derived.Test.YthehfkafcdociaaGreatDoorZyLgAsHit
set_option maxRecDepth 20000
set_option maxHeartbeats 1000000
namespace Go.Proofs.YthehfkafcdociaaGreatDoor
open Go.RowKit
set_option linter.unusedVariables false
def ApPost (e:Int) (l:List Ac) (t:Tx5) (w:World) (en:Ending) (w':World):Prop :=
  ∃ v',en=.returned (.tuple #[lgV e v',.int .i64 (apA e l t).2])/\OwnA w.heap.size w' v' (apA e l t).1/\Below w.heap.size w w'
theorem apA_same {e:Int} {l:List Ac} {t:Tx5} (h:(apA e l t).2 ≠ 0):(apA e l t).1=l:=by
  unfold apA at h ⊢
  split
  · rfl
  · rename_i h1
    rw [if_neg h1] at h
    split
    · rfl
    · rename_i h2
      rw [if_neg h2] at h
      split
      · rfl
      · rename_i h3
        rw [if_neg h3] at h
        split
        · rfl
        · rename_i h4
          rw [if_neg h4] at h
          split
          · rfl
          · rename_i h5
            rw [if_neg h5] at h
            exact absurd rfl h
theorem Gh.below {w w':World} (h:Gh w) (hb:Below w.heap.size w w'):Gh w':=by
  unfold Gh at h ⊢
  have hlt:0 < w.heap.size:=by
    unfold World.cell? at h
    rcases Nat.lt_or_ge 0 w.heap.size with h' | h'
    · exact h'
    · simp [Array.getElem?_eq_none h'] at h
  exact (hb.cell (p:=⟨0,0,none⟩) hlt).trans h
theorem implApply_any (e:Int) (v:Value) (l:List Ac) (t:Tx5) (w:World) (hgh:Gh w) (hr:RdA w v l) (hl:l.length<=3999999) (hall:∀ a ∈ l,a.1.size<=maxLen/\a.2.2.2.2.length<=3999999) (hf:t.2.1.size<=maxLen) (ht:t.2.2.1.size<=maxLen) :
    Calls Tryz.prog 103 #[lgV e v,txV t] w fun en w'=>ApPost e l t w en w':=by
  obtain ⟨av,cv,rfl⟩:=hr.shape
  have hall2:∀ a ∈ l,a.2.2.2.2.length<=4000000:=fun a ha=>by have:=hall a ha;omega
  have HAp:=hide (fun W h=>implAfter_any e (.slice av l.length cv) l t W h hl hall hf ht)
  obtain ⟨kd,fm,tO,am,nc⟩:=t
  obtain ⟨w1,hw1⟩:∃ w1,w.alloc (.cells #[.int .i64 e,.slice av l.length cv] 36)=w1:=⟨_,rfl⟩
  obtain ⟨w2,hw2⟩:∃ w2,w1.alloc (.cells #[.int .i64 kd,.string fm,.string tO,.int .i64 am,.int .i64 nc] 117)=w2:=⟨_,rfl⟩
  obtain ⟨w3,hw3⟩:∃ w3,w2.alloc (.cells #[.int .i64 0,.slice none 0 0] 36)=w3:=⟨_,rfl⟩
  have s1:w1.heap.size=w.heap.size+1:=by rw [<- hw1];simp
  have s2:w2.heap.size=w.heap.size+1+1:=by rw [<- hw2];simp;omega
  have s3:w3.heap.size=w.heap.size+1+1+1:=by rw [<- hw3];simp;omega
  have hB3:Below w.heap.size w w3:=by rw [<- hw3,<- hw2,<- hw1];exact (((Below.refl _ w).alloc (Nat.le_refl _) _).alloc (by simp) _).alloc (by simp;omega) _
  have kL:Blk w3 w.heap.size 36 [.int .i64 e,.slice av l.length cv]:=by rw [<- hw3,<- hw2,<- hw1];exact ((Blk.new w _ _).alloc _).alloc _
  have kT:Blk w3 (w.heap.size+1) 117 [.int .i64 kd,.string fm,.string tO,.int .i64 am,.int .i64 nc]:=by
    rw [<- hw3,<- hw2,<- s1]
    exact (Blk.new w1 _ _).alloc _
  have kR:Blk w3 (w.heap.size+1+1) 36 [.int .i64 0,.slice none 0 0]:=by rw [<- hw3,<- s2];exact Blk.new w2 _ _
  have HD:=hide (fun W h=>implCopiedLg_any e (.slice av l.length cv) l W h (by omega) hall2)
  have Hr:=hide hr
  have Hgh:=hide hgh
  obtain ⟨T,hT⟩:∃ T:Tx5,(kd,fm,tO,am,nc)=T:=⟨_,rfl⟩
  have HT:=hide hT
  simp only [lgV,txV] at HD HAp ⊢
  rw [hT]
  rw [hT] at HAp
  have l0:=kL.cell 0
  have l1:=kL.cell 1
  have t0:=kT.cell 0
  have t1:=kT.cell 1
  have t2:=kT.cell 2
  have t3:=kT.cell 3
  have t4:=kT.cell 4
  simp only [List.getElem?_cons_zero,List.getElem?_cons_succ] at l0 l1 t0 t1 t2 t3 t4
  clear hr hall hall2 hT hgh
  go_enter Tryz.func103,Tryz.ntmps103
  go_wp2_with fail
  refine (HAp.out _ (Hr.out.below hB3 (Nat.le_refl _))).mono ?_
  rintro en w4 ⟨h1,h2,hb4⟩
  have hB4:Below w.heap.size w w4:=hB3.trans (hb4.mono hB3.size)
  replace kL:=kL.below hb4 kL.lt
  replace kR:=kR.below hb4 kR.lt
  have z4:=hb4.size
  clear l0 l1 t0 t1 t2 t3 t4 kT HAp
  have HS:=hide (apA_same (e:=e) (l:=l) (t:=T))
  obtain ⟨P,hP⟩:∃ P,(apA e l T).1=P:=⟨_,rfl⟩
  obtain ⟨c,hc⟩:∃ c,(apA e l T).2=c:=⟨_,rfl⟩
  have HPo:Hid (∀ en w',(∃ v',en=.returned (.tuple #[.agg #[.int .i64 e,v'],.int .i64 c])/\OwnA w.heap.size w' v' P/\Below w.heap.size w w')->ApPost e l T w en w'):=hide (fun en w' ⟨v',q1,q2,q3⟩=>⟨v',by rw [hc];exact q1,by rw [hP];exact q2,q3⟩)
  rw [hP,hc] at HS
  rw [hc] at h1 h2
  rw [hP] at h2
  clear hP hc
  by_cases h0:c=0
  · obtain ⟨v4,rfl,o4⟩:=h2 h0
    subst h0
    clear h1 h2 HS
    obtain ⟨a4,c4,rfl⟩:=o4.rd.shape
    obtain ⟨w5,hw5⟩:∃ w5,w4.alloc (.cells #[.int .i64 e,.slice a4 P.length c4] 36)=w5:=⟨_,rfl⟩
    obtain ⟨w6,hw6⟩:∃ w6,w5.alloc (.cells #[.int .i64 0] 218)=w6:=⟨_,rfl⟩
    have hb6:Below w4.heap.size w4 w6:=by rw [<- hw6,<- hw5];exact ((Below.refl _ w4).alloc (Nat.le_refl _) _).alloc (by simp) _
    have kF:Blk w6 w4.heap.size 36 [.int .i64 e,.slice a4 P.length c4]:=by rw [<- hw6,<- hw5];exact (Blk.new w4 _ _).alloc _
    have s5:w5.heap.size=w4.heap.size+1:=by rw [<- hw5];simp
    have hB6:=hB4.trans (hb6.mono hB4.size)
    have o6:=o4.below hb6 (Nat.le_refl _)
    replace kR:=kR.below hb6 kR.lt
    have r0:=kR.cell 0
    have r1:=kR.cell 1
    have g0:=kR.frozen 0
    have g1:=kR.frozen 1
    have i0:=kF.cell 0
    have i1:=kF.cell 1
    simp only [List.getElem?_cons_zero,List.getElem?_cons_succ] at r0 r1 i0 i1
    have HBx:=hide ((hB6.setCell (p:=⟨w.heap.size+1+1,0,none⟩) (show w.heap.size<=w.heap.size+1+1 by omega) (.int .i64 e)).setCell (p:=⟨w.heap.size+1+1,1,none⟩) (show w.heap.size<=w.heap.size+1+1 by omega) (.slice a4 P.length c4))
    have HOx:=hide (((o6.older (g:=w.heap.size+1+1) (by omega) 0 (.int .i64 e)).older (g:=w.heap.size+1+1) (by omega) 1 (.slice a4 P.length c4)).mono (show w.heap.size<=_ by omega))
    unfold lgV
    clear o4 o6 kF kR kL hb6 hB6
    go_wp2_with fail
    refine (as_nil _ _).mono ?_
    rintro en w7 ⟨rfl,rfl⟩
    go_wp2
    refine bodyPost_ret (v:=.tuple #[.agg #[.int .i64 e,.slice a4 P.length c4],.int .i64 0]) (by simp [results,Tryz.f103,go_sem,r0,r1]) rfl ?_
    exact HPo.out _ _ ⟨_,rfl,HOx.out,HBx.out⟩
  · obtain rfl:=h1 h0
    have hPl:P=l:=HS.out h0
    subst hPl
    clear h1 h2 HS
    obtain ⟨wz,hwz⟩:∃ wz,w4.alloc (.cells #[.int .i64 0,.slice none 0 0] 36)=wz:=⟨_,rfl⟩
    have kz:Blk wz w4.heap.size 36 [.int .i64 0,.slice none 0 0]:=by rw [<- hwz];exact Blk.new w4 _ _
    have bz:Below w4.heap.size w4 wz:=by rw [<- hwz];exact (Below.refl _ w4).alloc (Nat.le_refl _) _
    have sz:wz.heap.size=w4.heap.size+1:=by rw [<- hwz];simp
    obtain ⟨w5,hw5⟩:∃ w5,(wz.setCell ⟨w4.heap.size,0,none⟩ (.int .i64 0)).setCell ⟨w4.heap.size,1,none⟩ (.slice none 0 0)=w5:=⟨_,rfl⟩
    have b5:Below w4.heap.size w4 w5:=by rw [<- hw5];exact (bz.setCell (p:=⟨w4.heap.size,0,none⟩) (Nat.le_refl _) _).setCell (p:=⟨w4.heap.size,1,none⟩) (Nat.le_refl _) _
    have s5:w5.heap.size=w4.heap.size+1:=by rw [<- hw5];simp;omega
    obtain ⟨w6,hw6⟩:∃ w6,w5.alloc (.cells #[.int .i64 0] 218)=w6:=⟨_,rfl⟩
    have hb6:Below w4.heap.size w4 w6:=by rw [<- hw6];exact b5.alloc (by omega) _
    have s6:w6.heap.size=w5.heap.size+1:=by rw [<- hw6];simp
    have kW:Blk w6 w5.heap.size 218 [.int .i64 0]:=by rw [<- hw6];exact Blk.new w5 _ _
    have hB6:=hB4.trans (hb6.mono hB4.size)
    replace kR:=kR.below hb6 kR.lt
    replace kL:=kL.below hb6 kL.lt
    rw [s5] at kW
    have y0:=kz.cell 0
    have y1:=kz.cell 1
    have y0f:=kz.frozen 0
    have y1f:=kz.frozen 1
    simp only [List.getElem?_cons_zero,List.getElem?_cons_succ] at y0 y1
    have HAs:=hide (as_hit c 0 (w4.heap.size+1) w6 (Hgh.out.below hB6) kW)
    unfold lkV at HAs
    unfold lgV lkV
    go_wp2_with fail
    refine HAs.out.mono ?_
    rintro en w7 ⟨rfl,hg7,kW7⟩
    have hB7:=hB6.grown hg7 (by omega) (fun k hk=>by cases hk;omega)
    replace kR:=kR.kept' hg7 (fun e=>by injection e;omega)
    replace kL:=kL.kept' hg7 (fun e=>by injection e;omega)
    have z7:=hg7.size
    have bD:Below w7.heap.size w7 w7.drew:=(Below.refl _ w7).drew
    have HSx:Hid (∀ W,Blk W w.heap.size 36 [.int .i64 e,.slice av P.length cv]->Blk W (w4.heap.size+1) 218 [.int .i64 c]->(W.cell? ⟨w.heap.size,0,none⟩=some (.int .i64 e)/\W.cell? ⟨w.heap.size,1,none⟩=some (.slice av P.length cv)/\W.cell? ⟨w4.heap.size+1,0,none⟩=some (.int .i64 c))):=hide (fun W q1 q2=>⟨q1.cell 0,q1.cell 1,q2.cell 0⟩)
    have KL:=hide (kL.below bD kL.lt)
    have KW:=hide (kW7.below bD kW7.lt)
    have KR:=hide (kR.below bD kR.lt)
    have HB7:=hide hB7.drew
    have hS7:=HSx.out _ KL.out KW.out
    have HC:=hide (HD.out w7.drew (Hr.out.below HB7.out (Nat.le_refl _)))
    have zW:=kW7.lt
    clear kL kW7 kR hB7 y0 y1 y0f y1f kz
    go_wp2
    go_region_held_law (fun w'=>w'.cell? ⟨w.heap.size,0,none⟩=some (.int .i64 e)/\w'.cell? ⟨w.heap.size,1,none⟩=some (.slice av P.length cv)/\w'.cell? ⟨w4.heap.size+1,0,none⟩=some (.int .i64 c)) (first | with_reducible exact hS7 | with_reducible exact hS8 | with_reducible exact HSx.out _ ((KL8.out.other _ _ _ (by omega)).other _ _ _ (by omega)) ((KW8.out.other _ _ _ (by omega)).other _ _ _ (by omega))) ((go_at_call 33;refine HC.out.mono ?_;rintro en w8 ⟨v8,rfl,o8,hb8⟩;have hsh:=o8.rd.shape;obtain ⟨a8,c8,hv8⟩:=hsh;subst hv8;have KL8:=hide (KL.out.below hb8 KL.out.lt);have KW8:=hide (KW.out.below hb8 KW.out.lt);have KR8:=hide (KR.out.below hb8 KR.out.lt);have hS8:=HSx.out _ KL8.out KW8.out;have r0:=KR8.out.cell 0;have r1:=KR8.out.cell 1;have g0:=KR8.out.frozen 0;have g1:=KR8.out.frozen 1;simp only [List.getElem?_cons_zero,List.getElem?_cons_succ] at r0 r1))
    all_goals
      have HBx:=hide (((HB7.out.trans (hb8.mono HB7.out.size)).setCell (p:=⟨w.heap.size+1+1,0,none⟩) (show w.heap.size<=w.heap.size+1+1 by omega) (.int .i64 e)).setCell (p:=⟨w.heap.size+1+1,1,none⟩) (show w.heap.size<=w.heap.size+1+1 by omega) (.slice a8 P.length c8))
      have zz:w7.drew.heap.size=w7.heap.size:=rfl
      have HOx:=hide (((o8.older (g:=w.heap.size+1+1) (by omega) 0 (.int .i64 e)).older (g:=w.heap.size+1+1) (by omega) 1 (.slice a8 P.length c8)).mono (show w.heap.size<=_ by omega))
      clear o8 hb8
      go_wp2
      refine bodyPost_ret (v:=.tuple #[.agg #[.int .i64 e,.slice a8 P.length c8],.int .i64 c]) (by simp [results,Tryz.f103,go_sem,r0,r1]) rfl ?_
      exact HPo.out _ _ ⟨_,rfl,HOx.out,HBx.out⟩
def alS (e:Int) (s:List Ac × Nat) (t:Tx5):List Ac × Nat:=((apA e s.1 t).1,if (apA e s.1 t).2=0 then s.2+1 else s.2)
def alA (e:Int) (l:List Ac) (ts:List Tx5):List Ac × Nat:=ts.foldl (alS e) (l,0)
theorem alA_snoc (e:Int) (l:List Ac) (ts:List Tx5) (k:Nat) (h:k < ts.length):alA e l (ts.take (k+1))=alS e (alA e l (ts.take k)) ts[k]:=by
  rw [List.take_succ_eq_append_getElem h]
  unfold alA
  rw [List.foldl_append]
  rfl
theorem alS_len (e:Int):∀ (ts:List Tx5) (s:List Ac × Nat),(ts.foldl (alS e) s).2<=s.2+ts.length
  | [],s=>Nat.le_refl _
  | t :: ts,s=>by
    rw [List.foldl_cons]
    have h:=alS_len e ts (alS e s t)
    have h1:(alS e s t).2<=s.2+1:=by unfold alS;simp only;split <;> omega
    rw [List.length_cons]
    omega
theorem alA_len (e:Int) (l:List Ac) (ts:List Tx5):(alA e l ts).2<=ts.length:=by
  have:=alS_len e ts (l,0)
  simpa [alA] using this
theorem alS_is (e:Int):∀ (ts:List Tx5) (s:List Ac × Nat),(ts.foldl (alS e) s).1=s.1\/acsB (ts.foldl (alS e) s).1=true
  | [],s=>.inl rfl
  | t :: ts,s=>by
    rw [List.foldl_cons]
    rcases alS_is e ts (alS e s t) with h | h
    · rcases apA_is e s.1 t with h1 | h1
      · exact .inl (h.trans h1)
      · exact .inr (by rw [h];exact h1)
    · exact .inr h
theorem alA_few {e:Int} {l:List Ac} (ts:List Tx5) (hl:l.length<=3999999) (hall:∀ a ∈ l,a.1.size<=maxLen/\a.2.2.2.2.length<=3999999) :
    (alA e l ts).1.length<=3999999/\∀ a ∈ (alA e l ts).1,a.1.size<=maxLen/\a.2.2.2.2.length<=3999999:=by
  rcases alS_is e ts (l,0) with h | h
  · have h':(alA e l ts).1=l:=h
    rw [h']
    exact ⟨hl,hall⟩
  · have h':acsB (alA e l ts).1=true:=h
    refine ⟨by have:=(acs_parts h').1;omega,fun a ha=>?_⟩
    have hp:=ac_parts (acs_all h' a ha)
    have hn:=hp.1
    unfold nmB inB at hn
    simp only [Bool.and_eq_true,decide_eq_true_eq] at hn
    exact ⟨by unfold maxLen;omega,by omega⟩
theorem alS_bad {e:Int} {s:List Ac × Nat} {t:Tx5} (h:(apA e s.1 t).2 ≠ 0):alS e s t=s:=by
  unfold alS
  rw [apA_same h,if_neg h]
theorem alS_good {e:Int} {s:List Ac × Nat} {t:Tx5} (h:(apA e s.1 t).2=0):alS e s t=((apA e s.1 t).1,s.2+1):=by
  unfold alS
  rw [if_pos h]
end Go.Proofs.YthehfkafcdociaaGreatDoor
