/- PutNum. -/
import Derived.Test.YtohachldbpejpaaGreatDoorZbEnSpec
set_option maxRecDepth 20000
set_option maxHeartbeats 4000000
namespace Go.Proofs.YtohachldbpejpaaGreatDoor
open Go.RowKit
set_option linter.unusedVariables false
def tsAt (l:List Bk) (i:Nat):List Tx5:=(l[i]?.map (·.ts)).getD []
theorem tsAt_eq {l:List Bk} {i:Nat} (h:i < l.length):tsAt l i=l[i].ts:=by simp [tsAt,h]
def foL (e:Int) (z:List Ac) (l:List Bk) (C:List Nat):List Ac:=C.foldl (fun P i=>(alA e P (tsAt l i)).1) z
theorem foL_snoc (e:Int) (z:List Ac) (l:List Bk) (C:List Nat) (k:Nat) (h:k < C.length):foL e z l (C.take (k+1))=(alA e (foL e z l (C.take k)) (tsAt l C[k])).1:=by
  rw [List.take_succ_eq_append_getElem h]
  unfold foL
  rw [List.foldl_append]
  rfl
theorem foL_few {e:Int} (l:List Bk):∀ (C:List Nat) (z:List Ac),z.length<=3999999->(∀ a ∈ z,a.1.size<=maxLen/\a.2.2.2.2.length<=3999999) ->
    (foL e z l C).length<=3999999/\∀ a ∈ foL e z l C,a.1.size<=maxLen/\a.2.2.2.2.length<=3999999
  | [],z,h1,h2=>⟨h1,h2⟩
  | i :: C,z,h1,h2=>by
    have h:=alA_few (e:=e) (tsAt l i) h1 h2
    exact foL_few l C _ h.1 h.2
theorem foL_is (e:Int) (l:List Bk):∀ (C:List Nat) (z:List Ac),foL e z l C=z\/acsB (foL e z l C)=true
  | [],z=>.inl rfl
  | i :: C,z=>by
    rcases foL_is e l C (alA e z (tsAt l i)).1 with h | h
    · rcases alS_is e (tsAt l i) (z,0) with h1 | h1
      · exact .inl (h.trans h1)
      · refine .inr ?_
        show acsB (foL e (alA e z (tsAt l i)).1 l C)=true
        rw [h];exact h1
    · exact .inr h
def laA (e:Int) (z:List Ac) (l:List Bk) (id:Int):List Ac × Bool :=
  if id=-1 then (z,true) else if (treeB l && decide (0<=atI l id))=true then (foL e z l (chA l id),true) else (z,false)
theorem chT_pos (l:List Bk) (id:Int):decide (0 < (chT l id).length)=(treeB l && decide (0<=atI l id)):=by
  unfold chT
  cases htb:treeB l
  · simp
  · rw [if_pos rfl,Bool.true_and]
    by_cases h:atI l id < 0
    · rw [chA_none h]
      have:¬ 0<=atI l id:=by omega
      simp [this]
    · have h2:0<=atI l id:=by omega
      rw [chA,if_neg h,decide_eq_true h2,decide_eq_true]
      rw [List.length_reverse]
      exact up_pos _
theorem specL11At_any (e:Int) (v vl:Value) (z:List Ac) (l:List Bk) (id:Int) (w:World) (hr:RdA w v z) (hrl:RdKs w vl l) (hz:z.length<=3999999) (hall:∀ a ∈ z,a.1.size<=maxLen/\a.2.2.2.2.length<=3999999) (hl:l.length<=4000000) (hf:∀ b ∈ l,FewK b) (ht:treeP l) :
    Calls Tryz.prog 59 #[lgV e v,vl,.int .i64 id] w fun en w'=>∃ v',en=.returned (lgV e v')/\OwnA w.heap.size w' v' (foL e z l (chA l id))/\Below w.heap.size w w':=by
  obtain ⟨av,cv,rfl⟩:=hr.shape
  have hall2:∀ a ∈ z,a.2.2.2.2.length<=4000000:=fun a ha=>by have:=hall a ha;omega
  have Hfew:=hide (fun k C=>foL_few (e:=e) l (List.take k C) z hz hall)
  simp only [lgV] at *
  obtain ⟨w2,hw2⟩:∃ w2,(w.alloc (.cells #[.int .i64 e,.slice av z.length cv] 26)).alloc (.cells #[.int .i64 0,.slice none 0 0] 26)=w2:=⟨_,rfl⟩
  have hs2:w2.heap.size=w.heap.size+2:=by rw [<- hw2];simp
  have hb2:Below w.heap.size w w2:=by rw [<- hw2];exact ((Below.refl _ w).alloc (Nat.le_refl _) _).alloc (by simp) _
  have kA:Blk w2 w.heap.size 26 [.int .i64 e,.slice av z.length cv]:=by
    rw [<- hw2]
    exact (Blk.new w 26 [.int .i64 e,.slice av z.length cv]).below ((Below.refl (w.heap.size+1) _).alloc (by simp) _) (by omega)
  have kR:Blk w2 (w.heap.size+1) 26 [.int .i64 0,.slice none 0 0]:=by
    rw [<- hw2]
    have h:=Blk.new (w.alloc (.cells #[.int .i64 e,.slice av z.length cv] 26)) 26 [.int .i64 0,.slice none 0 0]
    simp only [World.size_alloc] at h
    exact h
  have HC:=hide (specL6Copy_any e (.slice av z.length cv) z w2 (hr.below hb2 (Nat.le_refl _)) (by omega) hall2)
  simp only [lgV] at HC
  have Hf:=hide hf
  have Hb2:=hide hb2
  have KR:=hide kR
  have c0:=kA.cell 0
  have c1:=kA.cell 1
  simp only [List.getElem?_cons_zero,List.getElem?_cons_succ] at c0 c1
  obtain ⟨al,cl,rfl⟩:=hrl.shape
  have Hrl:=hide hrl
  have HCh:=hide (fun V (hV:Below w.heap.size w V)=>specChain_any (.slice al l.length cl) l id V (hrl.below hV (Nat.le_refl _)) hl ht)
  have hcl:=chA_len ht id
  have Hclt:=hide (chA_lt ht id)
  clear ht
  generalize chA l id=C at HCh hcl Hclt ⊢
  clear hr hrl hf hall hall2 hb2 kA kR
  go_enter Tryz.func59,Tryz.ntmps59
  go_wp2_with fail
  refine HC.out.mono ?_
  rintro en w3 ⟨v3,rfl,o3,hb3⟩
  obtain ⟨a3,c3,rfl⟩:=o3.rd.shape
  obtain ⟨w4,hw4⟩:∃ w4,w3.alloc (.cells #[.int .i64 e,.slice a3 z.length c3] 26)=w4:=⟨_,rfl⟩
  have b4:Below w3.heap.size w3 w4:=by rw [<- hw4];exact (Below.refl _ w3).alloc (Nat.le_refl _) _
  have k4:Blk w4 w3.heap.size 26 [.int .i64 e,.slice a3 z.length c3]:=by rw [<- hw4];exact Blk.new w3 _ _
  have s4:w4.heap.size=w3.heap.size+1:=by rw [<- hw4];simp
  have x4:=o3.ox.below b4 (Nat.le_refl _)
  have hB4:=hb3.trans (b4.mono hb3.size)
  have hz3:=hb3.size
  clear o3 hb3 b4 c0 c1 hw2 HC
  go_wp2_with fail
  refine (HCh.out w4 (Hb2.out.trans (hB4.mono Hb2.out.size))).mono ?_
  rintro en w5 ⟨cv5,rfl,oc,hb5⟩
  obtain ⟨ca,cc,rfl⟩:=oc.rd.shape
  have hlc:(C.map ofN).length=C.length:=by simp
  rw [hlc] at oc ⊢
  have Hoc:=hide oc
  have K5:=hide (k4.below hb5 k4.lt)
  have X5:=hide (x4.below hb5 (Nat.le_refl _))
  have B5:=hide (hB4.trans (hb5.mono hB4.size))
  have hz5:=hb5.size
  clear oc hlc HCh k4 x4 hB4 hb5
  go_wp2
  go_loopw [9] (fun iv wr=>∃ (i:Nat) (a:Option Addr) (c base hi:Nat),i<=C.length/\iv=.int .i64 (i:Int)/\Blk wr w3.heap.size 26 [.int .i64 e,.slice a (foL e z l (C.take i)).length c]/\OwnX base hi wr (.slice a (foL e z l (C.take i)).length c) (foL e z l (C.take i))/\w2.heap.size<=base/\(w3.heap.size < base\/hi<=w3.heap.size)/\Below w2.heap.size w2 wr/\OwnI w4.heap.size wr (.slice ca C.length cc) (C.map ofN)) (fun iv _=>C.length - (intOf iv).toNat)
  case atStart=>exact ⟨0,a3,c3,w2.heap.size,w3.heap.size,by omega,rfl,K5.out,X5.out,Nat.le_refl _,.inr (Nat.le_refl _),B5.out,Hoc.out⟩
  case round =>
    obtain ⟨i,a,c,base,hi,hi1,rfl,kO,x,hbase,hdis,hb,hoc⟩:=hrel
    clear K5 X5 B5 hw4 Hoc
    have hwr:=hb.size
    have hO:=kO.lt
    have hBw:=Hb2.out.trans (hb.mono Hb2.out.size)
    have few:=Hfew.out i C
    by_cases hlt:i < C.length
    · have Hsn:=hide (foL_snoc e z l C i hlt)
      have hCk:=Hclt.out C[i] (List.getElem_mem hlt)
      obtain ⟨b2,off2,rfl,h32,cc0⟩:=RdI.cellI hoc.rd (by simp) (k:=i) (by simpa using hlt)
      rw [List.getElem_map] at cc0
      obtain ⟨b,off,rfl,h3,hcell⟩:=Hrl.out.parts9 (by omega)
      obtain ⟨lv,hat,hrk⟩:=hcell C[i] hCk
      have hfk:=Hf.out l[C[i]] (List.getElem_mem hCk)
      have ct:=(hat.below hBw h3).cells.2.2.2.2.2.2.2.2.2.2.1
      have hrt:=hrk.t
      obtain ⟨ta,tc,hte⟩:=hrt.shape
      rw [hte] at ct hrt
      rw [tsAt_eq hCk] at Hsn
      generalize foL e z l (C.take i)=P at kO x few Hsn
      have HAl:Hid (∀ V,Below wr.heap.size wr V->Calls Tryz.prog 81 #[.agg #[.int .i64 e,.slice a P.length c],.slice ta l[C[i]].ts.length tc] V fun en w'=>∃ v',en=.returned (.tuple #[.agg #[.int .i64 e,v'],.int .i64 ((alA e P l[C[i]].ts).2:Int)])/\OwnA V.heap.size w' v' (alA e P l[C[i]].ts).1/\Below wr.heap.size wr w'/\wr.heap.size<=V.heap.size):=hide (fun V hV=>(specAll_any e (.slice a P.length c) (.slice ta l[C[i]].ts.length tc) P l[C[i]].ts V (x.rd.below hV (Nat.le_refl _)) (hrt.below (hBw.trans (hV.mono hBw.size)) (Nat.le_refl _)) few.1 few.2 hfk.t hfk.ts).mono (fun en w' ⟨v',h1,h2,h3⟩=>⟨v',h1,h2,hV.trans (h3.mono hV.size),hV.size⟩))
      have d0:=kO.cell 0
      have d1:=kO.cell 1
      simp only [List.getElem?_cons_zero,List.getElem?_cons_succ] at d0 d1
      have KO:=hide kO
      have Hb:=hide hb
      have Hoc:=hide hoc
      have hki:(i:Int) < (C.length:Int):=by omega
      have hk0:(0:Int)<=(i:Int):=by omega
      generalize l[C[i]].ts=ts at HAl ct Hsn hrt
      generalize C[i]=j at cc0 ct hCk
      simp only [ofN] at cc0
      generalize hAA:alA e P ts=AA at HAl Hsn
      obtain ⟨A,nA⟩:=AA
      simp only at HAl Hsn
      have hji:(j:Int) < (l.length:Int):=by omega
      have hj0:(0:Int)<=(j:Int):=by omega
      clear hAA hat hrk hcell hfk hte hrt kO x few hb hoc hBw
      go_upto_region 6 with fail
      go_region_law ((go_simp;go_at_call 81;refine (HAl.out _ (by first | exact Below.refl _ _ | exact (Below.refl _ _).drew)).mono ?_;rintro en wA ⟨vA,rfl,oA,bA,zA⟩;have hsh:=oA.rd.shape;obtain ⟨aA,cA,hvA⟩:=hsh;subst hvA;have kA:=KO.out.below bA KO.out.lt;have q0:=kA.cell 0;have q1:=kA.cell 1;have f0:=kA.frozen 0;have f1:=kA.frozen 1;simp only [List.getElem?_cons_zero,List.getElem?_cons_succ] at q0 q1))
      all_goals
        have kN:=(kA.set 0 (.int .i64 e)).set 1 (.slice aA A.length cA)
        have oN:=(oA.older (g:=w3.heap.size) (by omega) 0 (.int .i64 e)).older (g:=w3.heap.size) (by omega) 1 (.slice aA A.length cA)
        have bN:=((Hb.out.trans (bA.mono hwr)).setCell (p:=⟨w3.heap.size,0,none⟩) (show w2.heap.size<=w3.heap.size by omega) (.int .i64 e)).setCell (p:=⟨w3.heap.size,1,none⟩) (show w2.heap.size<=w3.heap.size by omega) (.slice aA A.length cA)
        have hne:∀ k,(Value.slice (some ⟨b2,off2,none⟩) C.length cc).ownBlock=some k->k ≠ w3.heap.size:=fun k hk=>by have:=Hoc.out.ge k hk;omega
        have cN:=row_set (row_set (Hoc.out.below bA (Nat.le_refl _)) w3.heap.size 0 (.int .i64 e) hne) w3.heap.size 1 (.slice aA A.length cA) hne
        simp only [List.set_cons_zero,List.set_cons_succ] at kN
        have KN:=hide kN
        have XN:=hide oN.ox
        have BN:=hide bN
        have CN:=hide cN
        clear kA kN oA oN bA bN cN hne
        go_wp2
        go_roundw
        case rel=>exact ⟨i+1,aA,cA,_,_,by omega,by go_num,by rw [Hsn.out];exact KN.out,by rw [Hsn.out];exact XN.out,by omega,.inl (by omega),BN.out,CN.out⟩
        case measure=>simp [intOf];omega
    · obtain rfl:i=C.length:=by omega
      rw [List.take_length] at kO x
      have d0:=kO.cell 0
      have d1:=kO.cell 1
      simp only [List.getElem?_cons_zero,List.getElem?_cons_succ] at d0 d1
      have kR:=KR.out.below hb KR.out.lt
      have r0:=kR.cell 0
      have r1:=kR.cell 1
      have g0:=kR.frozen 0
      have g1:=kR.frozen 1
      simp only [List.getElem?_cons_zero,List.getElem?_cons_succ] at r0 r1
      have HBx:=hide ((hBw.setCell (p:=⟨w.heap.size+1,0,none⟩) (show w.heap.size<=w.heap.size+1 by omega) (.int .i64 e)).setCell (p:=⟨w.heap.size+1,1,none⟩) (show w.heap.size<=w.heap.size+1 by omega) (.slice a (foL e z l C).length c))
      have HOx:=hide (((x.own.older (g:=w.heap.size+1) (by omega) 0 (.int .i64 e)).older (g:=w.heap.size+1) (by omega) 1 (.slice a (foL e z l C).length c)).mono (show w.heap.size<=_ by omega))
      clear kO x kR hb hBw few hoc
      obtain ⟨P,hP⟩:∃ P,foL e z l C=P:=⟨_,rfl⟩
      rw [hP] at d1 HBx HOx
      have HPe:=hide hP
      clear hP
      go_wp2
      refine bodyPost_ret (v:=.agg #[.int .i64 e,.slice a P.length c]) (by simp [results,Tryz.f59,go_sem,r0,r1]) rfl ?_
      exact ⟨_,rfl,by rw [HPe.out];exact HOx.out,HBx.out⟩
def thB (l:List Bk) (id:Int):Bool:=treeB l && (decide (id=-1) || decide (0<=atI l id))
theorem thB_is (l:List Bk) (id:Int):thB l id=true ↔ treeB l=true/\(chT l id=[]->id=-1):=by
  have hp:=chT_pos l id
  unfold thB
  rw [Bool.and_eq_true,Bool.or_eq_true,decide_eq_true_eq,decide_eq_true_eq]
  constructor
  · rintro ⟨ht,h⟩
    refine ⟨ht,fun hc=>?_⟩
    rcases h with h | h
    · exact h
    · rw [ht,Bool.true_and,decide_eq_true h,hc] at hp
      simp at hp
  · rintro ⟨ht,h⟩
    refine ⟨ht,?_⟩
    by_cases hc:chT l id=[]
    · exact .inl (h hc)
    · rw [ht,Bool.true_and,decide_eq_true (List.length_pos_iff.2 hc)] at hp
      exact .inr (of_decide_eq_true hp.symm)
theorem specThere_any (v:Value) (l:List Bk) (id:Int) (w:World) (hr:RdKs w v l) (hl:l.length<=4000000) (hf:∀ b ∈ l,FewK b) (hbd:∀ b ∈ l,-9223372036854775808<=b.tr/\b.tr<=9223372036854775807) :
    Calls Tryz.prog 79 #[v,.int .i64 id] w fun e w'=>e=.returned (.bool (thB l id))/\Below w.heap.size w w':=by
  obtain ⟨a,cap,rfl⟩:=hr.shape
  have HT:=hide (specTreeOk_any _ l w hr hl hf hbd)
  have HA:=hide (fun V (hV:Below w.heap.size w V)=>specAt_any _ l id V (hr.below hV (Nat.le_refl _)) hl)
  have HX:Hid (thB l id=(treeB l && (decide (id=-1) || decide (0<=atI l id)))):=hide rfl
  generalize thB l id=X at HX ⊢
  generalize atI l id=A at HX HA
  clear hr hf hbd
  go_enter Tryz.func79,Tryz.ntmps79
  go_wp2_with fail
  refine HT.out.mono ?_
  rintro e w2 ⟨rfl,hb2⟩
  cases htb:treeB l
  · rw [htb,Bool.false_and] at HX
    clear htb HA HT
    go_wp2
    go_ret
    exact ⟨ret_bool HX.out.symm,hb2⟩
  · rw [htb,Bool.true_and] at HX
    have HA2:=hide (HA.out w2 hb2)
    clear htb HA HT
    by_cases hid:id=-1
    · rw [decide_eq_true hid,Bool.true_or] at HX
      have hq:(id == -1)=true:=by rw [hid];rfl
      clear hid HA2
      go_wp2
      go_ret
      exact ⟨ret_bool HX.out.symm,hb2⟩
    · rw [decide_eq_false hid,Bool.false_or] at HX
      have hq:(id == -1)=false:=by rw [beq_eq_false_iff_ne];exact hid
      clear hid
      go_wp2_with fail
      refine HA2.out.mono ?_
      rintro e w3 ⟨rfl,rfl⟩
      clear HA2
      by_cases hA:0<=A
      · rw [decide_eq_true hA] at HX
        have hAd:decide (0<=A)=true:=decide_eq_true hA
        go_wp2
        go_ret
        exact ⟨ret_bool HX.out.symm,hb2⟩
      · rw [decide_eq_false hA] at HX
        have hAd:decide (0<=A)=false:=decide_eq_false hA
        go_wp2
        go_ret
        exact ⟨ret_bool HX.out.symm,hb2⟩
theorem foldN_hi (n:Int) (h:1000000000 < n):foldN n=2000000000:=by unfold foldN;rw [if_neg (by omega)];omega
theorem foldN_lo (n:Int) (h:n < -1000000000):foldN n=1999999999:=by unfold foldN;rw [if_pos (by omega)];omega
theorem foldN_pos (n:Int) (h:0<=n) (h':n<=1000000000):(foldN n:Int)=2 * n:=by unfold foldN;rw [if_neg (by omega)];omega
theorem foldN_neg (n:Int) (h:n < 0) (h':-1000000000<=n):(foldN n:Int)=-2 * n - 1:=by unfold foldN;rw [if_pos (by omega)];omega
theorem num_cases (n:Int):1000000000 < n\/n < -1000000000\/(0<=n/\n<=1000000000)\/(n < 0/\-1000000000<=n):=by omega
theorem fold_any (n:Int) (w:World) (h1:-9223372036854775808<=n) (h2:n<=9223372036854775807) :
    Calls Tryz.prog 208 #[.int .i64 n] w fun e w'=>e=.returned (.int .i64 (foldN n))/\w'=w:=by
  rcases num_cases n with h | h | ⟨h,h'⟩ | ⟨h,h'⟩
  · have hf:=hide (foldN_hi n h)
    go_enter Tryz.func208,Tryz.ntmps208
    go_wp2
    go_ret
    exact ⟨ret_int (by rw [hf.out];first | rfl | omega),rfl⟩
  · have hf:=hide (foldN_lo n h)
    go_enter Tryz.func208,Tryz.ntmps208
    go_wp2
    go_ret
    exact ⟨ret_int (by rw [hf.out];first | rfl | omega),rfl⟩
  · have hf:=hide (foldN_pos n h h')
    go_enter Tryz.func208,Tryz.ntmps208
    go_wp2
    go_ret
    exact ⟨ret_int (by rw [hf.out] <;> omega),rfl⟩
  · have hf:=hide (foldN_neg n h h')
    go_enter Tryz.func208,Tryz.ntmps208
    go_wp2
    go_ret
    exact ⟨ret_int (by rw [hf.out] <;> omega),rfl⟩
theorem copied_any (v:Value) (l:List UInt8) (w:World) (hr:RdB w v l) (hl:l.length<=50000000) :
    Calls Tryz.prog 170 #[v] w fun e w'=>∃ v',e=.returned v'/\OwnB w.heap.size w' v' l/\Below w.heap.size w w':=by
  have hb0:Below w.heap.size w (w.alloc (.cells #[] 5)):=(Below.refl _ _).alloc (Nat.le_refl _) _
  have Hr:=hide (hr.below hb0 (Nat.le_refl _))
  have Ho:=hide (own_nil w w.heap.size (Nat.le_refl _))
  have Hb:=hide hb0
  clear hr hb0
  go_enter Tryz.func170,Tryz.ntmps170
  go_wp2_with (at_builtin;refine app_own _ rfl _ _ rfl w.heap.size _ _ [] l rfl rfl Ho.out Hr.out (by simp;omega) (by simp) ?_;intro v' w1 ho1 hb1)
  go_ret
  exact ⟨_,rfl,ho1,Hb.out.trans hb1⟩
theorem appendNum_any (v:Value) (l:List UInt8) (n:Int) (base:Nat) (w:World) (ho:OwnB base w v l) (hbase:base<=w.heap.size) (hl:l.length<=50000000) (h1:-9223372036854775808<=n) (h2:n<=9223372036854775807) :
    Calls Tryz.prog 171 #[v,.int .i64 n] w fun e w'=>∃ v',e=.returned v'/\OwnB base w' v' (l ++ numB n)/\Below base w w':=by
  have Hf:=hide (fold_any n w h1 h2)
  have hM2:=foldN_le n
  have HN:Hid (numB n=putG 5 (foldN n)):=hide rfl
  generalize foldN n=M at Hf hM2 HN
  have Ho:=hide ho
  clear ho
  go_enter Tryz.func171,Tryz.ntmps171
  go_wp2_with (go_at_call 208;refine Hf.out.mono ?_;rintro e w' ⟨rfl,rfl⟩)
  go_loopw [0,5] (fun bv lv wr=>∃ (m f:Nat) (pre:List UInt8),lv=.int .i64 (m:Int)/\OwnB base wr bv (l ++ pre)/\Below base w' wr/\pre ++ putG f m=putG 5 M/\m < 128 ^ (f+1)/\pre.length+f=5/\m<=2000000000)
    (fun _ lv _=>(intOf lv).toNat)
  case atStart=>exact ⟨M,5,[],rfl,by simpa using Ho.out,Below.refl _ _,rfl,fold_pow M hM2,rfl,hM2⟩
  case round =>
    obtain ⟨m,f,pre,rfl,hown,hbel,hpre,hmf,hpf,hm2⟩:=hrel
    have hsz:base<=wr.heap.size:=by have:=hbel.size;omega
    have Hown:=hide hown
    have Hbel:=hide hbel
    have Hpre:=hide hpre
    have Hmf:=hide hmf
    have hpl:pre.length<=5:=by omega
    have Hpf:=hide hpf
    clear hown hbel hpre hmf hpf
    by_cases hm:m<=127
    · have Hend:Hid (l ++ pre ++ [UInt8.ofNat m]=l ++ numB n):=hide (by
        rw [HN.out,<- Hpre.out,putG_last f m hm,List.append_assoc])
      go_wp2_with (at_builtin;refine app_own _ rfl _ _ rfl base _ _ (l ++ pre) [UInt8.ofNat m] rfl rfl (Hown.out.alloc _) (rd_one _ _ _ (by have:=byte_of m (by omega);omega)) (by simp;omega) (by simp;omega) ?_;intro v' w1 ho1 hb1)
      go_ret
      rw [Hend.out] at ho1
      exact ⟨_,rfl,ho1,(Hbel.out.alloc hsz _).trans hb1⟩
    · obtain ⟨f',hf'⟩:∃ f',f=f'+1:=by
        cases f with
        | zero=>have:=Hmf.out;simp at this;omega
        | succ f'=>exact ⟨f',rfl⟩
      subst hf'
      have Hnext:Hid ((pre ++ [UInt8.ofNat (m % 128+128)]) ++ putG f' (m / 128)=putG 5 M):=hide (by
        rw [<- Hpre.out,putG_more f' m hm];simp)
      have Hdiv:=hide (div_lt_pow m f' Hmf.out)
      go_wp2_with (at_builtin;refine app_own _ rfl _ _ rfl base _ _ (l ++ pre) [UInt8.ofNat (m % 128+128)] rfl rfl (Hown.out.alloc _) (rd_one _ _ _ (by have:=byte_of (m % 128+128) (by omega);omega)) (by simp;omega) (by simp;omega) ?_;intro v' w1 ho1 hb1)
      go_roundw
      case rel=>exact ⟨m / 128,f',pre ++ [UInt8.ofNat (m % 128+128)],by go_num,by rw [<- List.append_assoc];exact ho1,(Hbel.out.alloc hsz _).trans hb1,Hnext.out,Hdiv.out,by have:=Hpf.out;simp;omega,by omega⟩
      case measure=>simp [intOf];omega
theorem specPutNum_any (v:Value) (l:List UInt8) (n:Int) (w:World) (hr:RdB w v l) (hl:l.length<=40000000) (h1:-9223372036854775808<=n) (h2:n<=9223372036854775807) :
    Calls Tryz.prog 196 #[v,.int .i64 n] w fun e w'=>∃ v',e=.returned v'/\OwnB w.heap.size w' v' (l ++ numB n)/\Below w.heap.size w w':=by
  have hb0:Below w.heap.size w (w.alloc (.cells #[] 5)):=(Below.refl _ _).alloc (Nat.le_refl _) _
  have Hr:=hide (hr.below hb0 (Nat.le_refl _))
  have Ho:=hide (own_nil w w.heap.size (Nat.le_refl _))
  have Hb:=hide hb0
  clear hr hb0
  have hM2:=foldN_le n
  have HN:Hid (numB n=putG 5 (foldN n)):=hide rfl
  obtain ⟨M,hMe⟩:∃ M,foldN n=M:=⟨_,rfl⟩
  rw [hMe] at hM2 HN
  have hstart:Hid ((1000000000 < n->M=2000000000)/\(n < -1000000000->M=1999999999)/\(0<=n->n<=1000000000->(M:Int)=2 * n)/\(n < 0->-1000000000<=n->(M:Int)=-2 * n - 1)):=hide (by
    rw [<- hMe];exact ⟨foldN_hi n,foldN_lo n,foldN_pos n,foldN_neg n⟩)
  clear hMe
  rcases num_cases n with h | h | ⟨h,h'⟩ | ⟨h,h'⟩
  all_goals
    go_enter Tryz.func196,Tryz.ntmps196
    go_wp2_with (at_builtin;refine app_own _ rfl _ _ rfl w.heap.size _ _ [] l rfl rfl Ho.out Hr.out (by simp;omega) (by simp) ?_;intro v1 w1 ho1 hb1)
    have hb1':Below w.heap.size w w1:=Hb.out.trans hb1
    clear hb1
    rw [List.nil_append] at ho1
    go_loopw [5,6] (fun bv lv wr=>∃ (m f:Nat) (pre:List UInt8),lv=.int .i64 (m:Int)/\OwnB w.heap.size wr bv (l ++ pre)/\Below w.heap.size w wr/\pre ++ putG f m=putG 5 M/\m < 128 ^ (f+1)/\pre.length+f=5/\m<=2000000000)
      (fun _ lv _=>(intOf lv).toNat)
    case atStart=>exact ⟨M,5,[],by have:=hstart.out;first | (rw [this.1 h];rfl) | (rw [this.2.1 h];rfl) | (rw [this.2.2.1 h h']) | (rw [this.2.2.2 h h']),by simpa using ho1,hb1',rfl,fold_pow M hM2,rfl,hM2⟩
    case round =>
      obtain ⟨m,f,pre,rfl,hown,hbel,hpre,hmf,hpf,hm2⟩:=hrel
      have hsz:w.heap.size<=wr.heap.size:=hbel.size
      have Hown:=hide hown
      have Hbel:=hide hbel
      have Hpre:=hide hpre
      have Hmf:=hide hmf
      have hpl:pre.length<=5:=by omega
      have Hpf:=hide hpf
      clear hown hbel hpre hmf hpf ho1 hb1'
      by_cases hm:m<=127
      · have Hend:Hid (l ++ pre ++ [UInt8.ofNat m]=l ++ numB n):=hide (by
          rw [HN.out,<- Hpre.out,putG_last f m hm,List.append_assoc])
        go_wp2_with (at_builtin;refine app_own _ rfl _ _ rfl w.heap.size _ _ (l ++ pre) [UInt8.ofNat m] rfl rfl (Hown.out.alloc _) (rd_one _ _ _ (by have:=byte_of m (by omega);omega)) (by simp;omega) (by simp;omega) ?_;intro v' w1 ho1 hb1)
        go_ret
        rw [Hend.out] at ho1
        exact ⟨_,rfl,ho1,(Hbel.out.alloc hsz _).trans hb1⟩
      · obtain ⟨f',hf'⟩:∃ f',f=f'+1:=by
          cases f with
          | zero=>have:=Hmf.out;simp at this;omega
          | succ f'=>exact ⟨f',rfl⟩
        subst hf'
        have Hnext:Hid ((pre ++ [UInt8.ofNat (m % 128+128)]) ++ putG f' (m / 128)=putG 5 M):=hide (by
          rw [<- Hpre.out,putG_more f' m hm];simp)
        have Hdiv:=hide (div_lt_pow m f' Hmf.out)
        obtain ⟨D,hD,hD2⟩:∃ D:Nat,m % 128=D/\D < 128:=⟨_,rfl,Nat.mod_lt _ (by omega)⟩
        obtain ⟨C,hC,hC2⟩:∃ C:Nat,D+128=C/\C < 256:=⟨_,rfl,by omega⟩
        have e1:bits .and .i64 (m:Int) 127=(D:Int):=by rw [and127 m (by omega),hD]
        have e2:bits .or .i64 (D:Int) 128=(C:Int):=by rw [or128 D hD2,hC]
        rw [hD,hC] at Hnext
        clear hD hC
        go_wp2_with (at_builtin;refine app_own _ rfl _ _ rfl w.heap.size _ _ (l ++ pre) [UInt8.ofNat C] rfl rfl (Hown.out.alloc _) (rd_one _ _ _ (by have:=byte_of C hC2;omega)) (by simp;omega) (by simp;omega) ?_;intro v' w1 ho1 hb1)
        go_roundw
        case rel=>exact ⟨m / 128,f',pre ++ [UInt8.ofNat C],by go_num,by rw [<- List.append_assoc];exact ho1,(Hbel.out.alloc hsz _).trans hb1,Hnext.out,Hdiv.out,by have:=Hpf.out;simp;omega,by omega⟩
        case measure=>simp [intOf];omega
end Go.Proofs.YtohachldbpejpaaGreatDoor
