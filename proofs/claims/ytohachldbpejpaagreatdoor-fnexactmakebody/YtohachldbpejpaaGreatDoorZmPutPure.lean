/- Plain facts on the bytes of a number, and the law of append over bytes of the call's own. -/
import Derived.Test.YtohachldbpejpaaGreatDoorZmEnSpec
import Derived.Laws.BitsAllLaws
set_option maxRecDepth 20000
set_option maxHeartbeats 4000000
namespace Go.Proofs.YtohachldbpejpaaGreatDoor
open Go.RowKit
set_option linter.unusedVariables false
def tsAt (l:List Bk) (i:Nat):List Tx5:=(l[i]?.map (·.ts)).getD []
theorem tsAt_eq {l:List Bk} {i:Nat} (h:i < l.length):tsAt l i=l[i].ts:=by simp [tsAt,h]
def foL (e:Int) (z:List Ac) (l:List Bk) (C:List Nat):List Ac:=C.foldl (fun P i=>(alA e P (tsAt l i)).1) z
theorem foL_snoc (e:Int) (z:List Ac) (l:List Bk) (C:List Nat) (k:Nat) (h:k < C.length):foL e z l (C.take (k+1))=(alA e (foL e z l (C.take k)) (tsAt l C[k])).1:=by
  rw [List.take_succ_eq_append_getElem h]
  unfold foL
  rw [List.foldl_append]
  rfl
theorem foL_few {e:Int} (l:List Bk):∀ (C:List Nat) (z:List Ac),z.length<=3999999->(∀ a ∈ z,a.1.size<=maxLen/\a.2.2.2.2.length<=3999999) ->
    (foL e z l C).length<=3999999/\∀ a ∈ foL e z l C,a.1.size<=maxLen/\a.2.2.2.2.length<=3999999
  | [],z,h1,h2=>⟨h1,h2⟩
  | i :: C,z,h1,h2=>by
    have h:=alA_few (e:=e) (tsAt l i) h1 h2
    exact foL_few l C _ h.1 h.2
def laA (e:Int) (z:List Ac) (l:List Bk) (id:Int):List Ac × Bool :=
  if id=-1 then (z,true) else if (treeB l && decide (0<=atI l id))=true then (foL e z l (chA l id),true) else (z,false)
theorem chT_pos (l:List Bk) (id:Int):decide (0 < (chT l id).length)=(treeB l && decide (0<=atI l id)):=by
  unfold chT
  cases htb:treeB l
  · simp
  · rw [if_pos rfl,Bool.true_and]
    by_cases h:atI l id < 0
    · rw [chA_none h]
      have:¬ 0<=atI l id:=by omega
      simp [this]
    · have h2:0<=atI l id:=by omega
      rw [chA,if_neg h,decide_eq_true h2,decide_eq_true]
      rw [List.length_reverse]
      exact up_pos _
theorem specL11At_any (e:Int) (v vl:Value) (z:List Ac) (l:List Bk) (id:Int) (w:World) (hr:RdA w v z) (hrl:RdKs w vl l) (hz:z.length<=3999999) (hall:∀ a ∈ z,a.1.size<=maxLen/\a.2.2.2.2.length<=3999999) (hl:l.length<=4000000) (hf:∀ b ∈ l,FewK b) (ht:treeP l) :
    Calls Tryz.prog 59 #[lgV e v,vl,.int .i64 id] w fun en w'=>∃ v',en=.returned (lgV e v')/\OwnA w.heap.size w' v' (foL e z l (chA l id))/\Below w.heap.size w w':=by
  obtain ⟨av,cv,rfl⟩:=hr.shape
  have hall2:∀ a ∈ z,a.2.2.2.2.length<=4000000:=fun a ha=>by have:=hall a ha;omega
  have Hfew:=hide (fun k C=>foL_few (e:=e) l (List.take k C) z hz hall)
  simp only [lgV] at *
  obtain ⟨w2,hw2⟩:∃ w2,(w.alloc (.cells #[.int .i64 e,.slice av z.length cv] 26)).alloc (.cells #[.int .i64 0,.slice none 0 0] 26)=w2:=⟨_,rfl⟩
  have hs2:w2.heap.size=w.heap.size+2:=by rw [<- hw2];simp
  have hb2:Below w.heap.size w w2:=by rw [<- hw2];exact ((Below.refl _ w).alloc (Nat.le_refl _) _).alloc (by simp) _
  have kA:Blk w2 w.heap.size 26 [.int .i64 e,.slice av z.length cv]:=by
    rw [<- hw2]
    exact (Blk.new w 26 [.int .i64 e,.slice av z.length cv]).below ((Below.refl (w.heap.size+1) _).alloc (by simp) _) (by omega)
  have kR:Blk w2 (w.heap.size+1) 26 [.int .i64 0,.slice none 0 0]:=by
    rw [<- hw2]
    have h:=Blk.new (w.alloc (.cells #[.int .i64 e,.slice av z.length cv] 26)) 26 [.int .i64 0,.slice none 0 0]
    simp only [World.size_alloc] at h
    exact h
  have HC:=hide (specL6Copy_any e (.slice av z.length cv) z w2 (hr.below hb2 (Nat.le_refl _)) (by omega) hall2)
  simp only [lgV] at HC
  have Hf:=hide hf
  have Hb2:=hide hb2
  have KR:=hide kR
  have c0:=kA.cell 0
  have c1:=kA.cell 1
  simp only [List.getElem?_cons_zero,List.getElem?_cons_succ] at c0 c1
  obtain ⟨al,cl,rfl⟩:=hrl.shape
  have Hrl:=hide hrl
  have HCh:=hide (fun V (hV:Below w.heap.size w V)=>specChain_any (.slice al l.length cl) l id V (hrl.below hV (Nat.le_refl _)) hl ht)
  have hcl:=chA_len ht id
  have Hclt:=hide (chA_lt ht id)
  clear ht
  generalize chA l id=C at HCh hcl Hclt ⊢
  clear hr hrl hf hall hall2 hb2 kA kR
  go_enter Tryz.func59,Tryz.ntmps59
  go_wp2_with fail
  refine HC.out.mono ?_
  rintro en w3 ⟨v3,rfl,o3,hb3⟩
  obtain ⟨a3,c3,rfl⟩:=o3.rd.shape
  obtain ⟨w4,hw4⟩:∃ w4,w3.alloc (.cells #[.int .i64 e,.slice a3 z.length c3] 26)=w4:=⟨_,rfl⟩
  have b4:Below w3.heap.size w3 w4:=by rw [<- hw4];exact (Below.refl _ w3).alloc (Nat.le_refl _) _
  have k4:Blk w4 w3.heap.size 26 [.int .i64 e,.slice a3 z.length c3]:=by rw [<- hw4];exact Blk.new w3 _ _
  have s4:w4.heap.size=w3.heap.size+1:=by rw [<- hw4];simp
  have x4:=o3.ox.below b4 (Nat.le_refl _)
  have hB4:=hb3.trans (b4.mono hb3.size)
  have hz3:=hb3.size
  clear o3 hb3 b4 c0 c1 hw2 HC
  go_wp2_with fail
  refine (HCh.out w4 (Hb2.out.trans (hB4.mono Hb2.out.size))).mono ?_
  rintro en w5 ⟨cv5,rfl,oc,hb5⟩
  obtain ⟨ca,cc,rfl⟩:=oc.rd.shape
  have hlc:(C.map ofN).length=C.length:=by simp
  rw [hlc] at oc ⊢
  have Hoc:=hide oc
  have K5:=hide (k4.below hb5 k4.lt)
  have X5:=hide (x4.below hb5 (Nat.le_refl _))
  have B5:=hide (hB4.trans (hb5.mono hB4.size))
  have hz5:=hb5.size
  clear oc hlc HCh k4 x4 hB4 hb5
  go_wp2
  go_loopw [9] (fun iv wr=>∃ (i:Nat) (a:Option Addr) (c base hi:Nat),i<=C.length/\iv=.int .i64 (i:Int)/\Blk wr w3.heap.size 26 [.int .i64 e,.slice a (foL e z l (C.take i)).length c]/\OwnX base hi wr (.slice a (foL e z l (C.take i)).length c) (foL e z l (C.take i))/\w2.heap.size<=base/\(w3.heap.size < base\/hi<=w3.heap.size)/\Below w2.heap.size w2 wr/\OwnI w4.heap.size wr (.slice ca C.length cc) (C.map ofN)) (fun iv _=>C.length - (intOf iv).toNat)
  case atStart=>exact ⟨0,a3,c3,w2.heap.size,w3.heap.size,by omega,rfl,K5.out,X5.out,Nat.le_refl _,.inr (Nat.le_refl _),B5.out,Hoc.out⟩
  case round =>
    obtain ⟨i,a,c,base,hi,hi1,rfl,kO,x,hbase,hdis,hb,hoc⟩:=hrel
    clear K5 X5 B5 hw4 Hoc
    have hwr:=hb.size
    have hO:=kO.lt
    have hBw:=Hb2.out.trans (hb.mono Hb2.out.size)
    have few:=Hfew.out i C
    by_cases hlt:i < C.length
    · have Hsn:=hide (foL_snoc e z l C i hlt)
      have hCk:=Hclt.out C[i] (List.getElem_mem hlt)
      obtain ⟨b2,off2,rfl,h32,cc0⟩:=RdI.cellI hoc.rd (by simp) (k:=i) (by simpa using hlt)
      rw [List.getElem_map] at cc0
      obtain ⟨b,off,rfl,h3,hcell⟩:=Hrl.out.parts9 (by omega)
      obtain ⟨lv,hat,hrk⟩:=hcell C[i] hCk
      have hfk:=Hf.out l[C[i]] (List.getElem_mem hCk)
      have ct:=(hat.below hBw h3).cells.2.2.2.2.2.2.2.2.2.2.1
      have hrt:=hrk.t
      obtain ⟨ta,tc,hte⟩:=hrt.shape
      rw [hte] at ct hrt
      rw [tsAt_eq hCk] at Hsn
      generalize foL e z l (C.take i)=P at kO x few Hsn
      have HAl:Hid (∀ V,Below wr.heap.size wr V->Calls Tryz.prog 81 #[.agg #[.int .i64 e,.slice a P.length c],.slice ta l[C[i]].ts.length tc] V fun en w'=>∃ v',en=.returned (.tuple #[.agg #[.int .i64 e,v'],.int .i64 ((alA e P l[C[i]].ts).2:Int)])/\OwnA V.heap.size w' v' (alA e P l[C[i]].ts).1/\Below wr.heap.size wr w'/\wr.heap.size<=V.heap.size):=hide (fun V hV=>(specAll_any e (.slice a P.length c) (.slice ta l[C[i]].ts.length tc) P l[C[i]].ts V (x.rd.below hV (Nat.le_refl _)) (hrt.below (hBw.trans (hV.mono hBw.size)) (Nat.le_refl _)) few.1 few.2 hfk.t hfk.ts).mono (fun en w' ⟨v',h1,h2,h3⟩=>⟨v',h1,h2,hV.trans (h3.mono hV.size),hV.size⟩))
      have d0:=kO.cell 0
      have d1:=kO.cell 1
      simp only [List.getElem?_cons_zero,List.getElem?_cons_succ] at d0 d1
      have KO:=hide kO
      have Hb:=hide hb
      have Hoc:=hide hoc
      have hki:(i:Int) < (C.length:Int):=by omega
      have hk0:(0:Int)<=(i:Int):=by omega
      generalize l[C[i]].ts=ts at HAl ct Hsn hrt
      generalize C[i]=j at cc0 ct hCk
      simp only [ofN] at cc0
      generalize hAA:alA e P ts=AA at HAl Hsn
      obtain ⟨A,nA⟩:=AA
      simp only at HAl Hsn
      have hji:(j:Int) < (l.length:Int):=by omega
      have hj0:(0:Int)<=(j:Int):=by omega
      clear hAA hat hrk hcell hfk hte hrt kO x few hb hoc hBw
      go_upto_region 6 with fail
      go_region_law ((go_simp;go_at_call 81;refine (HAl.out _ (by first | exact Below.refl _ _ | exact (Below.refl _ _).drew)).mono ?_;rintro en wA ⟨vA,rfl,oA,bA,zA⟩;have hsh:=oA.rd.shape;obtain ⟨aA,cA,hvA⟩:=hsh;subst hvA;have kA:=KO.out.below bA KO.out.lt;have q0:=kA.cell 0;have q1:=kA.cell 1;have f0:=kA.frozen 0;have f1:=kA.frozen 1;simp only [List.getElem?_cons_zero,List.getElem?_cons_succ] at q0 q1))
      all_goals
        have kN:=(kA.set 0 (.int .i64 e)).set 1 (.slice aA A.length cA)
        have oN:=(oA.older (g:=w3.heap.size) (by omega) 0 (.int .i64 e)).older (g:=w3.heap.size) (by omega) 1 (.slice aA A.length cA)
        have bN:=((Hb.out.trans (bA.mono hwr)).setCell (p:=⟨w3.heap.size,0,none⟩) (show w2.heap.size<=w3.heap.size by omega) (.int .i64 e)).setCell (p:=⟨w3.heap.size,1,none⟩) (show w2.heap.size<=w3.heap.size by omega) (.slice aA A.length cA)
        have hne:∀ k,(Value.slice (some ⟨b2,off2,none⟩) C.length cc).ownBlock=some k->k ≠ w3.heap.size:=fun k hk=>by have:=Hoc.out.ge k hk;omega
        have cN:=row_set (row_set (Hoc.out.below bA (Nat.le_refl _)) w3.heap.size 0 (.int .i64 e) hne) w3.heap.size 1 (.slice aA A.length cA) hne
        simp only [List.set_cons_zero,List.set_cons_succ] at kN
        have KN:=hide kN
        have XN:=hide oN.ox
        have BN:=hide bN
        have CN:=hide cN
        clear kA kN oA oN bA bN cN hne
        go_wp2
        go_roundw
        case rel=>exact ⟨i+1,aA,cA,_,_,by omega,by go_num,by rw [Hsn.out];exact KN.out,by rw [Hsn.out];exact XN.out,by omega,.inl (by omega),BN.out,CN.out⟩
        case measure=>simp [intOf];omega
    · obtain rfl:i=C.length:=by omega
      rw [List.take_length] at kO x
      have d0:=kO.cell 0
      have d1:=kO.cell 1
      simp only [List.getElem?_cons_zero,List.getElem?_cons_succ] at d0 d1
      have kR:=KR.out.below hb KR.out.lt
      have r0:=kR.cell 0
      have r1:=kR.cell 1
      have g0:=kR.frozen 0
      have g1:=kR.frozen 1
      simp only [List.getElem?_cons_zero,List.getElem?_cons_succ] at r0 r1
      have HBx:=hide ((hBw.setCell (p:=⟨w.heap.size+1,0,none⟩) (show w.heap.size<=w.heap.size+1 by omega) (.int .i64 e)).setCell (p:=⟨w.heap.size+1,1,none⟩) (show w.heap.size<=w.heap.size+1 by omega) (.slice a (foL e z l C).length c))
      have HOx:=hide (((x.own.older (g:=w.heap.size+1) (by omega) 0 (.int .i64 e)).older (g:=w.heap.size+1) (by omega) 1 (.slice a (foL e z l C).length c)).mono (show w.heap.size<=_ by omega))
      clear kO x kR hb hBw few hoc
      obtain ⟨P,hP⟩:∃ P,foL e z l C=P:=⟨_,rfl⟩
      rw [hP] at d1 HBx HOx
      have HPe:=hide hP
      clear hP
      go_wp2
      refine bodyPost_ret (v:=.agg #[.int .i64 e,.slice a P.length c]) (by simp [results,Tryz.f59,go_sem,r0,r1]) rfl ?_
      exact ⟨_,rfl,by rw [HPe.out];exact HOx.out,HBx.out⟩
def thB (l:List Bk) (id:Int):Bool:=treeB l && (decide (id=-1) || decide (0<=atI l id))
theorem thB_is (l:List Bk) (id:Int):thB l id=true ↔ treeB l=true/\(chT l id=[]->id=-1):=by
  have hp:=chT_pos l id
  unfold thB
  rw [Bool.and_eq_true,Bool.or_eq_true,decide_eq_true_eq,decide_eq_true_eq]
  constructor
  · rintro ⟨ht,h⟩
    refine ⟨ht,fun hc=>?_⟩
    rcases h with h | h
    · exact h
    · rw [ht,Bool.true_and,decide_eq_true h,hc] at hp
      simp at hp
  · rintro ⟨ht,h⟩
    refine ⟨ht,?_⟩
    by_cases hc:chT l id=[]
    · exact .inl (h hc)
    · rw [ht,Bool.true_and,decide_eq_true (List.length_pos_iff.2 hc)] at hp
      exact .inr (of_decide_eq_true hp.symm)
theorem specThere_any (v:Value) (l:List Bk) (id:Int) (w:World) (hr:RdKs w v l) (hl:l.length<=4000000) (hf:∀ b ∈ l,FewK b) (hbd:∀ b ∈ l,-9223372036854775808<=b.tr/\b.tr<=9223372036854775807) :
    Calls Tryz.prog 79 #[v,.int .i64 id] w fun e w'=>e=.returned (.bool (thB l id))/\Below w.heap.size w w':=by
  obtain ⟨a,cap,rfl⟩:=hr.shape
  have HT:=hide (specTreeOk_any _ l w hr hl hf hbd)
  have HA:=hide (fun V (hV:Below w.heap.size w V)=>specAt_any _ l id V (hr.below hV (Nat.le_refl _)) hl)
  have HX:Hid (thB l id=(treeB l && (decide (id=-1) || decide (0<=atI l id)))):=hide rfl
  generalize thB l id=X at HX ⊢
  generalize atI l id=A at HX HA
  clear hr hf hbd
  go_enter Tryz.func79,Tryz.ntmps79
  go_wp2_with fail
  refine HT.out.mono ?_
  rintro e w2 ⟨rfl,hb2⟩
  cases htb:treeB l
  · rw [htb,Bool.false_and] at HX
    clear htb HA HT
    go_wp2
    go_ret
    exact ⟨ret_bool HX.out.symm,hb2⟩
  · rw [htb,Bool.true_and] at HX
    have HA2:=hide (HA.out w2 hb2)
    clear htb HA HT
    by_cases hid:id=-1
    · rw [decide_eq_true hid,Bool.true_or] at HX
      have hq:(id == -1)=true:=by rw [hid];rfl
      clear hid HA2
      go_wp2
      go_ret
      exact ⟨ret_bool HX.out.symm,hb2⟩
    · rw [decide_eq_false hid,Bool.false_or] at HX
      have hq:(id == -1)=false:=by rw [beq_eq_false_iff_ne];exact hid
      clear hid
      go_wp2_with fail
      refine HA2.out.mono ?_
      rintro e w3 ⟨rfl,rfl⟩
      clear HA2
      by_cases hA:0<=A
      · rw [decide_eq_true hA] at HX
        have hAd:decide (0<=A)=true:=decide_eq_true hA
        go_wp2
        go_ret
        exact ⟨ret_bool HX.out.symm,hb2⟩
      · rw [decide_eq_false hA] at HX
        have hAd:decide (0<=A)=false:=decide_eq_false hA
        go_wp2
        go_ret
        exact ⟨ret_bool HX.out.symm,hb2⟩
def gdS (e:Int) (most:Nat) (s:List Ac × List Tx5) (t:Tx5):List Ac × List Tx5 :=
  if s.2.length=most then s else if (apA e s.1 t).2=0 then ((apA e s.1 t).1,s.2 ++ [t]) else s
def gdA (e:Int) (l:List Ac) (ts:List Tx5) (most:Nat):List Ac × List Tx5:=ts.foldl (gdS e most) (l,[])
theorem gdA_snoc (e:Int) (l:List Ac) (ts:List Tx5) (most k:Nat) (h:k < ts.length):gdA e l (ts.take (k+1)) most=gdS e most (gdA e l (ts.take k) most) ts[k]:=by
  rw [List.take_succ_eq_append_getElem h]
  unfold gdA
  rw [List.foldl_append]
  rfl
theorem gdS_full {e:Int} {most:Nat} {s:List Ac × List Tx5} {t:Tx5} (h:s.2.length=most):gdS e most s t=s:=by unfold gdS;rw [if_pos h]
theorem gdS_good {e:Int} {most:Nat} {s:List Ac × List Tx5} {t:Tx5} (h:s.2.length ≠ most) (h2:(apA e s.1 t).2=0):gdS e most s t=((apA e s.1 t).1,s.2 ++ [t]):=by unfold gdS;rw [if_neg h,if_pos h2]
theorem gdS_bad {e:Int} {most:Nat} {s:List Ac × List Tx5} {t:Tx5} (h:s.2.length ≠ most) (h2:(apA e s.1 t).2 ≠ 0):gdS e most s t=s:=by unfold gdS;rw [if_neg h,if_neg h2]
theorem gd_stop {e:Int} {most:Nat}:∀ (ts:List Tx5) (s:List Ac × List Tx5),s.2.length=most->ts.foldl (gdS e most) s=s
  | [],s,_=>rfl
  | t :: ts,s,h=>by rw [List.foldl_cons,gdS_full h];exact gd_stop (e:=e) ts s h
theorem gdS_is (e:Int) (most:Nat):∀ (ts:List Tx5) (s:List Ac × List Tx5),(ts.foldl (gdS e most) s).1=s.1\/acsB (ts.foldl (gdS e most) s).1=true
  | [],s=>.inl rfl
  | t :: ts,s=>by
    rw [List.foldl_cons]
    rcases gdS_is e most ts (gdS e most s t) with h | h
    · by_cases h1:s.2.length=most
      · rw [gdS_full h1] at h ⊢;exact .inl h
      · by_cases h2:(apA e s.1 t).2=0
        · rw [gdS_good h1 h2] at h ⊢
          rcases apA_is e s.1 t with h3 | h3
          · exact .inl (h.trans h3)
          · exact .inr (by rw [h];exact h3)
        · rw [gdS_bad h1 h2] at h ⊢;exact .inl h
    · exact .inr h
theorem gdA_few {e:Int} {l:List Ac} (ts:List Tx5) (most:Nat) (hl:l.length<=3999999) (hall:∀ a ∈ l,a.1.size<=maxLen/\a.2.2.2.2.length<=3999999) :
    (gdA e l ts most).1.length<=3999999/\∀ a ∈ (gdA e l ts most).1,a.1.size<=maxLen/\a.2.2.2.2.length<=3999999:=by
  rcases gdS_is e most ts (l,[]) with h | h
  · have h':(gdA e l ts most).1=l:=h
    rw [h']
    exact ⟨hl,hall⟩
  · have h':acsB (gdA e l ts most).1=true:=h
    refine ⟨by have:=(acs_parts h').1;omega,fun a ha=>?_⟩
    have hp:=ac_parts (acs_all h' a ha)
    have hn:=hp.1
    unfold nmB inB at hn
    simp only [Bool.and_eq_true,decide_eq_true_eq] at hn
    exact ⟨by unfold maxLen;omega,by omega⟩
end Go.Proofs.YtohachldbpejpaaGreatDoor
namespace Go.Proofs.YtohachldbpejpaaGreatDoor
open Go.RowKit
theorem i64_and_nat (a b:Nat) (ha:a < 9223372036854775808) (hb:b < 9223372036854775808):bits .and .i64 (a:Int) (b:Int)=((a &&& b:Nat):Int):=by
  have hx:a &&& b < 2 ^ 63:=Nat.and_lt_two_pow _ (by omega)
  show IntKind.i64.wrap ((BitVec.ofInt 64 (a:Int) &&& BitVec.ofInt 64 (b:Int)).toNat:Int)=_
  rw [BitVec.toNat_and,ofInt_u64 a (by omega),ofInt_u64 b (by omega),IntKind.wrap_i64]
  omega
theorem i64_or_nat (a b:Nat) (ha:a < 9223372036854775808) (hb:b < 9223372036854775808):bits .or .i64 (a:Int) (b:Int)=((a ||| b:Nat):Int):=by
  have hx:a ||| b < 2 ^ 63:=Nat.or_lt_two_pow (by omega) (by omega)
  show IntKind.i64.wrap ((BitVec.ofInt 64 (a:Int) ||| BitVec.ofInt 64 (b:Int)).toNat:Int)=_
  rw [BitVec.toNat_or,ofInt_u64 a (by omega),ofInt_u64 b (by omega),IntKind.wrap_i64]
  omega
theorem and127 (a:Nat) (ha:a < 9223372036854775808):bits .and .i64 (a:Int) 127=((a % 128:Nat):Int):=by
  have:=i64_and_nat a 127 ha (by omega)
  rw [show ((127:Nat):Int)=127 from rfl] at this
  rw [this,show (127:Nat)=2 ^ 7 - 1 from rfl,Nat.and_two_pow_sub_one_eq_mod]
theorem or_high (a c i:Nat) (h:a < 2 ^ i):a ||| c * 2 ^ i=a+c * 2 ^ i:=by
  rw [<- Nat.shiftLeft_eq,Nat.or_comm,<- Nat.shiftLeft_add_eq_or_of_lt h,Nat.add_comm]
theorem or128 (a:Nat) (ha:a < 128):bits .or .i64 (a:Int) 128=((a+128:Nat):Int):=by
  have:=i64_or_nat a 128 (by omega) (by omega)
  rw [show ((128:Nat):Int)=128 from rfl] at this
  rw [this]
  have h:=or_high a 1 7 (by omega)
  simp at h
  rw [h]
def gr:Nat->List UInt8->Nat->Nat->Option (Nat × Nat × Nat)
  | 0,_,_,_=>none
  | _+1,[],_,_=>none
  | f+1,c :: t,m,k=>if 128<=c.toNat then gr f t (m+c.toNat % 128 * 128 ^ k) (k+1) else some (m+c.toNat % 128 * 128 ^ k,k,c.toNat)
def getN (l:List UInt8) (p:Int):Int × Int × Bool :=
  if 0<=p/\p < l.length then
    match gr 5 (l.drop p.toNat) 0 0 with
    | none=>(0,0,false)
    | some (m,k,c)=>if (0 < k/\c=0)\/2000000000 < m then (0,0,false) else ((if m % 2=1 then -((m:Int) / 2) - 1 else (m:Int) / 2),p+k+1,true)
  else (0,0,false)
end Go.Proofs.YtohachldbpejpaaGreatDoor
namespace Go.Proofs.YtohachldbpejpaaGreatDoor
open Go.RowKit
set_option linter.unusedVariables false
def foldN (n:Int):Nat:=if n < 0 then (2 * min (-n) 1000000000 - 1).toNat else (2 * min n 1000000000).toNat
def putG:Nat->Nat->List UInt8
  | 0,m=>[UInt8.ofNat m]
  | f+1,m=>if m<=127 then [UInt8.ofNat m] else UInt8.ofNat (m % 128+128) :: putG f (m / 128)
def numB (n:Int):List UInt8:=putG 5 (foldN n)
theorem foldN_le (n:Int):foldN n<=2000000000:=by unfold foldN;split <;> omega
theorem putG_len:∀ (f m:Nat),(putG f m).length<=f+1:=by
  intro f
  induction f with
  | zero=>intro m;simp [putG]
  | succ f ih =>
    intro m
    rw [putG]
    split
    · simp
    · have:=ih (m / 128);simp only [List.length_cons];omega
theorem numB_len (n:Int):(numB n).length<=6:=putG_len 5 _
theorem putG_last (f m:Nat) (h:m<=127):putG f m=[UInt8.ofNat m]:=by
  cases f with
  | zero=>rfl
  | succ f=>rw [putG,if_pos h]
theorem putG_more (f m:Nat) (h:¬ m<=127):putG (f+1) m=UInt8.ofNat (m % 128+128) :: putG f (m / 128):=by rw [putG,if_neg h]
theorem byte_of (m:Nat) (h:m < 256):(m:Int)=((UInt8.ofNat m).toNat:Int):=by
  rw [UInt8.toNat_ofNat'];omega
theorem div_lt_pow (m f:Nat) (h:m < 128 ^ (f+1+1)):m / 128 < 128 ^ (f+1):=by
  rw [Nat.pow_succ] at h
  exact Nat.div_lt_of_lt_mul (by rw [Nat.mul_comm];exact h)
theorem fold_pow (M:Nat) (h:M<=2000000000):M < 128 ^ (5+1):=by
  have:(128:Nat) ^ (5+1)=4398046511104:=by decide
  omega
theorem rd_one (w:World) (x:Int) (c:UInt8) (h:x=(c.toNat:Int)):RdB (w.alloc (.cells #[.int .u8 x] 5)) (.slice (some ⟨w.heap.size,0,none⟩) 1 1) [c]:=by
  refine .inr ⟨w.heap.size,0,1,by simp,rfl,by simp,by unfold maxLen;omega,by simp,?_⟩
  intro i hi
  simp only [List.length_cons,List.length_nil] at hi
  have:i=0:=by omega
  subst this
  simp [World.cell?_alloc_at,h]
theorem own_nil (w:World) (base:Nat) (h:base<=w.heap.size):OwnB base (w.alloc (.cells #[] 5)) (.slice (some ⟨w.heap.size,0,none⟩) 0 0) [] :=
  World.ownsRow_lit w #[] 0 h (by unfold maxLen;omega) (by simp)
theorem OwnB.alloc {base:Nat} {w:World} {v:Value} {l:List UInt8} (h:OwnB base w v l) (o:Obj):OwnB base (w.alloc o) v l:=World.ownsRow.alloc h o
theorem app_own {ops:Array Oper} {rest:List Oper} {o:Oper} {a:Act} {Q:Exit->Act->World->Prop} (w:World) (hgd:o.guard=none) (s x:Operand)
    (ho:o.op=.call { callee:=.builtin .append,args:=#[s,x],argTypes:=#[22,22] })
    (base:Nat) (v vx:Value) (l k:List UInt8) (hs:a.eval s=v) (hx:a.eval x=vx) (hown:OwnB base w v l) (hrd:RdB w vx k)
    (hlen:l.length+k.length<=100000000) (hbase:base<=w.heap.size)
    (h:∀ v' w',OwnB base w' v' (l ++ k)->Below base w w'->wpList Tryz.prog ops Q rest (a.put o.dst v') w'):wpList Tryz.prog ops Q (o :: rest) a w:=by
  obtain ⟨i0,hi,hz0,hz1,hz2⟩:=info_parts Tryz.infoU8
  have hbel:∀ w',w.grownBy w' v.ownBlock->Below base w w':=fun w' hg=>(Below.refl _ _).grown hg hbase (fun k hk=>(World.ownsRow.lt hown k hk).1)
  rcases hrd with ⟨ax,cap,rfl,rfl,hnil⟩ | ⟨b,off,cap,h0,rfl,h1,h2,h3,h4⟩
  · cases ax with
    | none =>
      have hc:cap=0:=hnil rfl
      subst hc
      refine wpList_append_own_none hgd s x 22 ho base 5 i0 1 Tryz.underlying22 hi v l.length (l.map cb) hs hown hx ?_
      exact h v w (by simpa [OwnB] using hown) (Below.refl _ _)
    | some ad =>
      refine wpList_append_own w hgd s x 22 ho base 5 i0 (.int .u8 0) 1 1 Tryz.underlying22 hi hz0 hz1 hz2 rfl (by decide) v l.length (l.map cb) hs hown ad 0 cap [] hx rfl (by intro j u hj;simp at hj) (by intro u hu;simp at hu) (by unfold maxLen;simp at hlen;omega) (by simp at hlen;omega) hbase ?_
      intro v' w' ho' hg _
      exact h v' w' (by simpa [OwnB] using ho') (hbel w' hg)
  · refine wpList_append_own w hgd s x 22 ho base 5 i0 (.int .u8 0) 1 1 Tryz.underlying22 hi hz0 hz1 hz2 rfl (by decide) v l.length (l.map cb) hs hown ⟨b,off,none⟩ k.length cap (k.map cb) hx (by simp) ?_ ?_ (by unfold maxLen;omega) (by omega) hbase ?_
    · intro j u hj
      have hj':j < k.length:=by have:=(List.getElem?_eq_some_iff.1 hj).1;simpa using this
      have ea:(⟨b,off,none⟩:Addr).add j=⟨b,off+j,none⟩:=by
        by_cases hz:j=0
        · subst hz;simp [Addr.add]
        · simp [Addr.add,hz]
      rw [ea,h4 j hj']
      simp [hj',cb] at hj
      rw [<- hj]
    · intro u hu
      obtain ⟨c,_,rfl⟩:=List.mem_map.1 hu
      rfl
    · intro v' w' ho' hg _
      exact h v' w' (by simpa [OwnB] using ho') (hbel w' hg)
end Go.Proofs.YtohachldbpejpaaGreatDoor
