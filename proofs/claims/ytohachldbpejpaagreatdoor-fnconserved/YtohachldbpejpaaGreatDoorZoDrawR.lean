/- A drawn ledger is right. -/
import Derived.Test.YtohachldbpejpaaGreatDoorZoAcGive
set_option maxRecDepth 20000
set_option maxHeartbeats 2000000
namespace Go.Proofs.YtohachldbpejpaaGreatDoor
open Go.RowKit Go.Maps
set_option linter.unusedVariables false
theorem crA_good {l:List Ac} {s:ByteArray} {n:Int} (h:(acsB l && nmB s && inB n 0 1000000)=true):crA l s n=(leftA l (insA (aftA l s n) l),acsB (insA (aftA l s n) l)):=by
  cases h':acsB (insA (aftA l s n) l)
  · rw [crA_bad h h',leftA_no h']
  · rw [crA_yes h h',leftA_yes h']
theorem acs_len {l:List Ac} (h:acsB l=true):l.length<=12:=by
  unfold acsB at h
  simp only [Bool.and_eq_true,decide_eq_true_eq] at h
  exact h.2.1
theorem insA_mem (q:Ac):∀ (Z:List Ac) (p:Ac),p ∈ insA q Z->p=q\/p ∈ Z
  | [],p,h=>by simp [insA] at h;exact .inl h
  | x :: t,p,h=>by
    unfold insA at h
    split at h
    · rcases List.mem_cons.1 h with rfl | h
      · exact .inr List.mem_cons_self
      · rcases insA_mem q t p h with h | h
        · exact .inl h
        · exact .inr (List.mem_cons_of_mem _ h)
    · split at h
      · rcases List.mem_cons.1 h with rfl | h
        · exact .inl rfl
        · exact .inr (List.mem_cons_of_mem _ h)
      · rcases List.mem_cons.1 h with rfl | h
        · exact .inl rfl
        · exact .inr h
theorem insA_len (q:Ac):∀ Z:List Ac,(insA q Z).length<=Z.length+1
  | []=>by simp [insA]
  | x :: t=>by
    have:=insA_len q t
    unfold insA
    split
    · simp;omega
    · split <;> simp
theorem aftA_name (l:List Ac) (s:ByteArray) (n:Int):(aftA l s n).1=s:=by
  unfold aftA
  cases getA s l <;> rfl
theorem leftA_len (l:List Ac) (s:ByteArray) (n:Int):(leftA l (insA (aftA l s n) l)).length<=l.length+1:=by
  unfold leftA
  split
  · exact insA_len _ _
  · omega
theorem leftA_mem {l:List Ac} {s:ByteArray} {n:Int} {p:Ac} (h:p ∈ leftA l (insA (aftA l s n) l)):p.1=s\/p ∈ l:=by
  unfold leftA at h
  split at h
  · rcases insA_mem _ _ _ h with rfl | h
    · exact .inl (aftA_name l s n)
    · exact .inr h
  · exact .inr h
theorem implCredit_any (v:Value) (l:List Ac) (s:ByteArray) (n:Int) (w:World) (hr:RdA w v l) (hl:l.length<=3999999) (hall:∀ a ∈ l,a.1.size<=maxLen/\a.2.2.2.2.length<=4000000) (hs:s.size<=maxLen) :
    Calls Tryz.prog 164 #[v,.string s,.int .i64 n] w fun e w'=>∃ v',e=.returned (.tuple #[v',.bool (crA l s n).2])/\OwnA w.heap.size w' v' (crA l s n).1/\Below w.heap.size w w':=by
  have hall2:∀ a ∈ l,a.2.2.2.2.length<=4000000:=fun a ha=>(hall a ha).2
  have HOk:=hide (implAcctsOk_any v l w hr (by omega) hall)
  have HC:=hide (fun w h=>implCopiedS_any v l w h (by omega) hall2)
  have Hr:=hide hr
  have Hall:=hide hall
  clear hr hall hall2
  cases h1:acsB l
  · have Hcr:=hide (crA_no (l:=l) (s:=s) (n:=n) (by rw [h1];rfl))
    rw [h1] at HOk
    clear h1
    rw [Hcr.out]
    go_enter Tryz.func164,Tryz.ntmps164
    go_wp2_with fail
    refine HOk.out.mono ?_
    rintro e w1 ⟨rfl,hb1⟩
    go_wp2_with fail
    refine (HC.out _ (Hr.out.below hb1 (Nat.le_refl _))).mono ?_
    rintro e w2 ⟨v2,rfl,ho2,hb2⟩
    have Ho2:=hide (OwnA.mono ho2 hb1.size)
    have HB:=hide (hb1.trans (hb2.mono hb1.size))
    clear ho2 hb1 hb2
    go_wp2
    go_ret2
    exact ⟨v2,rfl,Ho2.out,HB.out⟩
  · rw [h1] at HOk
    cases h2:nmB s
    · have Hcr:=hide (crA_no (l:=l) (s:=s) (n:=n) (by rw [h1,h2];rfl))
      clear h1
      rw [Hcr.out]
      go_enter Tryz.func164,Tryz.ntmps164
      go_wp2_with fail
      refine HOk.out.mono ?_
      rintro e w1 ⟨rfl,hb1⟩
      go_wp2_with fail
      refine (implNameOk_any s _ hs).mono ?_
      rintro e w1 ⟨rfl,rfl⟩
      rw [h2]
      go_wp2_with fail
      refine (HC.out _ (Hr.out.below hb1 (Nat.le_refl _))).mono ?_
      rintro e w2 ⟨v2,rfl,ho2,hb2⟩
      have Ho2:=hide (OwnA.mono ho2 hb1.size)
      have HB:=hide (hb1.trans (hb2.mono hb1.size))
      clear ho2 hb1 hb2
      go_wp2
      go_ret2
      exact ⟨v2,rfl,Ho2.out,HB.out⟩
    · cases h3:inB n 0 1000000
      · have Hcr:=hide (crA_no (l:=l) (s:=s) (n:=n) (by rw [h1,h2,h3];rfl))
        clear h1
        rw [Hcr.out]
        go_enter Tryz.func164,Tryz.ntmps164
        go_wp2_with fail
        refine HOk.out.mono ?_
        rintro e w1 ⟨rfl,hb1⟩
        go_wp2_with fail
        refine (implNameOk_any s _ hs).mono ?_
        rintro e w1 ⟨rfl,rfl⟩
        rw [h2]
        go_wp2_with fail
        refine (implWithin_any _ _ _ _).mono ?_
        rintro e w1 ⟨rfl,rfl⟩
        rw [h3]
        go_wp2_with fail
        refine (HC.out _ (Hr.out.below hb1 (Nat.le_refl _))).mono ?_
        rintro e w2 ⟨v2,rfl,ho2,hb2⟩
        have Ho2:=hide (OwnA.mono ho2 hb1.size)
        have HB:=hide (hb1.trans (hb2.mono hb1.size))
        clear ho2 hb1 hb2
        go_wp2
        go_ret2
        exact ⟨v2,rfl,Ho2.out,HB.out⟩
      · have hasc:=asc_of_ok l h1
        have hl12:=acs_len h1
        rw [crA_good (show (acsB l && nmB s && inB n 0 1000000)=true from by rw [h1,h2,h3];rfl)]
        have HBk:=hide (fun w h=>bookOf_any v l w h hasc (by omega) Hall.out)
        have Hlen:=hide (leftA_len l s n)
        have Hmem:=hide (fun p=>leftA_mem (l:=l) (s:=s) (n:=n) (p:=p))
        have Hasc:=hide hasc
        clear h1 hasc HC
        go_enter Tryz.func164,Tryz.ntmps164
        go_wp2_with fail
        refine HOk.out.mono ?_
        rintro e w1 ⟨rfl,hb1⟩
        go_wp2_with fail
        refine (implNameOk_any s _ hs).mono ?_
        rintro e w1 ⟨rfl,rfl⟩
        rw [h2]
        go_wp2_with fail
        refine (implWithin_any _ _ _ _).mono ?_
        rintro e w1 ⟨rfl,rfl⟩
        rw [h3]
        go_wp2_with fail
        refine (HBk.out _ (Hr.out.below hb1 (Nat.le_refl _))).mono ?_
        rintro e w2 ⟨Z,rfl,hZ,hown2,hlv2,hb2⟩
        have hZl:Z.length=l.length:=by rw [<- hZ];simp
        have HG:=hide (give_any w1.heap.size l.length Z s n (w1.heap.size+1) w2 hown2 ((asc_map Z).2 (by rw [hZ];exact Hasc.out)) hlv2 (by omega) (by omega) (fun q hq=>Hall.out q.1 (by rw [<- hZ];exact List.mem_map_of_mem hq)) hs)
        rw [hZ] at HG
        have hB2:Below w.heap.size w w2:=hb1.trans (hb2.mono hb1.size)
        have hs1:=hb1.size
        have hs2:=hb2.size
        clear hown2 hlv2 hZ hZl hb1 hb2
        go_wp2_with fail
        refine HG.out.mono ?_
        rintro e w3 ⟨Z3,rfl,hown3,hlv3,hasc3,hZ3,hb3⟩
        have hB3:Below w.heap.size w w3:=hB2.trans (hb3.mono hs1)
        have hlen3:Z3.length<=l.length+1:=by have:=congrArg List.length hZ3;simp at this;rw [this];exact Hlen.out
        have HLs:=hide (listed_any w1.heap.size (l.length+2) Z3 w3 hown3 hasc3 (by omega) (fun q hq=>by
          have hm:q.1 ∈ Z3.map (·.1):=List.mem_map_of_mem hq
          rw [hZ3] at hm
          rcases Hmem.out _ hm with h | h
          · rw [h];exact hs
          · exact (Hall.out _ h).1) (fun q hq=>by
          obtain ⟨i,hi,e⟩:=List.mem_iff_getElem.1 hq
          obtain ⟨a'',c'',e'⟩:=(hlv3.own i hi).rd.shape
          exact ⟨a'',_,c'',by rw [<- e];exact e'⟩))
        have Hlv3:=hide hlv3
        have HZ3:=hide hZ3
        have hs3:=hb3.size
        clear hown3 hlv3 hZ3 hb3 hB2 HG
        go_wp2_with fail
        refine HLs.out.mono ?_
        rintro e w4 ⟨g,cap,rfl,hrow4,hb4⟩
        have hgw:w3.heap.size<=g:=hrow4.ge g rfl
        have HO:=hide (OwnA.of_row (hrow4.mono (show w.heap.size<=w3.heap.size by omega)) ((Hlv3.out.mono (show w.heap.size<=w1.heap.size+1 by omega)).to hb4 hgw))
        rw [HZ3.out] at HO
        have HB4:=hide (hB3.trans (hb4.mono (by omega)))
        clear hrow4 hb4 hB3
        go_wp2
        go_ret2
        exact ⟨_,rfl,HO.out,HB4.out⟩
end Go.Proofs.YtohachldbpejpaaGreatDoor
namespace Go.Proofs.YtohachldbpejpaaGreatDoor
open Go.RowKit
set_option linter.unusedVariables false
theorem getA_ins (a:Ac):∀ l:List Ac,getA a.1 (insA a l)=some a
  | []=>by simp [insA,getA]
  | x :: t=>by
    by_cases hl:Lt x.1 a.1
    · rw [insA_lt hl,getA,if_neg (fun e=>by rw [e] at hl;exact lt_no _ hl)]
      exact getA_ins a t
    · by_cases he:x.1=a.1
      · rw [insA_eq he,getA,if_pos rfl]
      · rw [insA_gt (lt_or hl he),getA,if_pos rfl]
theorem getA_ins_other (a:Ac) (s:ByteArray) (hs:s ≠ a.1):∀ l:List Ac,getA s (insA a l)=getA s l
  | []=>by simp [insA,getA,hs.symm]
  | x :: t=>by
    by_cases hl:Lt x.1 a.1
    · rw [insA_lt hl,getA,getA,getA_ins_other a s hs t]
    · by_cases he:x.1=a.1
      · rw [insA_eq he,getA,if_neg (fun e=>hs e.symm),getA,if_neg (fun e=>hs (by rw [<- e,he]))]
      · rw [insA_gt (lt_or hl he),getA,if_neg (fun e=>hs e.symm)]
theorem getA_at:∀ {l:List Ac},AscA l->∀ k (h:k < l.length),getA l[k].1 l=some l[k]
  | [],_,k,h=>by simp at h
  | x :: t,ha,0,h=>by simp [getA]
  | x :: t,ha,k+1,h=>by
    obtain ⟨h1,h2⟩:=List.pairwise_cons.1 ha
    have hk:k < t.length:=by simpa using h
    have hlt:=h1 t[k] (List.getElem_mem hk)
    simp only [List.getElem_cons_succ]
    unfold getA
    rw [if_neg (fun e=>by rw [e] at hlt;exact lt_no _ hlt)]
    exact getA_at h2 k hk
def amI (l:List (Int × Int)):Int:=(l.map (·.1)).sum
def ofI (a:Ac):Int:=a.2.1+a.2.2.2.1+amI a.2.2.2.2
def wsI (l:List Ac):Int:=(l.map ofI).sum
theorem amI_fold:∀ (l:List (Int × Int)) (z:Int),l.foldl (fun s p=>wrap64 (s+p.1)) (wrap64 z)=wrap64 (z+amI l)
  | [],z=>by simp [amI]
  | p :: t,z=>by
    rw [List.foldl_cons,wrap64_add',amI_fold t (z+p.1)]
    congr 1
    simp [amI]
    omega
theorem ofA_is (a:Ac):ofA a=wrap64 (ofI a):=by
  unfold ofA ofI
  exact amI_fold _ _
theorem wealth_fold:∀ (l:List Ac) (z:Int),l.foldl (fun s a=>wrap64 (s+ofA a)) (wrap64 z)=wrap64 (z+wsI l)
  | [],z=>by simp [wsI]
  | a :: t,z=>by
    rw [List.foldl_cons,wrap64_add',ofA_is,wrap64_add,wealth_fold t (z+ofI a)]
    congr 1
    simp [wsI]
    omega
theorem wealth_is (l:List Ac):wealthA l=wrap64 (wsI l):=by
  have:=wealth_fold l 0
  rw [Int.zero_add,show wrap64 0=0 from by unfold wrap64;omega] at this
  exact this
theorem wsI_ins (a:Ac):∀ l:List Ac,AscA l->wsI (insA a l)=wsI l+ofI a - (match getA a.1 l with
    | some b=>ofI b
    | none=>0)
  | [],_=>by simp [insA,getA,wsI]
  | x :: t, h=>by
    obtain ⟨h1,h2⟩:=List.pairwise_cons.1 h
    by_cases hl:Lt x.1 a.1
    · have ih:=wsI_ins a t h2
      rw [insA_lt hl,getA,if_neg (fun e=>by rw [e] at hl;exact lt_no _ hl)]
      simp only [wsI,List.map_cons,List.sum_cons] at ih ⊢
      omega
    · by_cases he:x.1=a.1
      · rw [insA_eq he,getA,if_pos he]
        simp only [wsI,List.map_cons,List.sum_cons]
        omega
      · have hlt:=lt_or hl he
        have hn:getA a.1 t=none:=by
          cases hg:getA a.1 t with
          | none=>rfl
          | some b =>
            have hb:=getA_some hg
            have:=lt_tr hlt (h1 b hb.2)
            rw [hb.1] at this
            exact absurd this (lt_no _)
        rw [insA_gt hlt,getA,if_neg he,hn]
        simp only [wsI,List.map_cons,List.sum_cons]
        omega
def oldA (l:List Ac) (s:ByteArray):Int:=match getA s l with
  | some a=>a.2.1
  | none=>0
theorem wealth_given (l:List Ac) (s:ByteArray) (n:Int) (ha:AscA l):wealthA (insA (aftA l s n) l)=wrap64 (wealthA l+n):=by
  rw [wealth_is,wealth_is,wrap64_add',wsI_ins _ l ha,aftA_name]
  unfold aftA
  cases hg:getA s l with
  | some a =>
    simp only [ofI]
    rw [show wsI l+(wrap64 (a.2.1+n)+a.2.2.2.1+amI a.2.2.2.2) - (a.2.1+a.2.2.2.1+amI a.2.2.2.2)=(wsI l - a.2.1)+wrap64 (a.2.1+n) from by omega,wrap64_add]
    congr 1
    omega
  | none =>
    simp only [ofI,amI,List.map_nil,List.sum_nil]
    rw [show wsI l+(wrap64 (0+n)+0+0) - 0=wsI l+wrap64 (0+n) from by omega,wrap64_add]
    congr 1
    omega
theorem acs_at {l:List Ac} (h:acsB l=true) (j:Nat) (hj:j < l.length):acB l[j]=true:=by
  unfold acsB at h
  rw [Bool.and_eq_true,List.all_eq_true] at h
  have:=h.1 j (List.mem_range.2 hj)
  rw [acAt_eq l j l[j] hj rfl,Bool.and_eq_true] at this
  exact this.1
def lgB (e:Int) (l:List Ac):Bool:=inB e 0 900 && acsB l
theorem specLedgerOk_any (e:Int) (v:Value) (l:List Ac) (w:World) (hr:RdA w v l) (hl:l.length<=4000000) (hall:∀ a ∈ l,a.1.size<=maxLen/\a.2.2.2.2.length<=4000000) :
    Calls Tryz.prog 143 #[lgV e v] w fun en w'=>en=.returned (.bool (lgB e l))/\Below w.heap.size w w':=by
  obtain ⟨a1,cv1,rfl⟩:=hr.shape
  simp only [lgV] at *
  have hb3:Below w.heap.size w (w.alloc (.cells #[.int .i64 e,.slice a1 l.length cv1] 26)):=(Below.refl _ w).alloc (Nat.le_refl _) _
  have HE:=hide (specAcctsOk_any _ l _ (hr.below hb3 (Nat.le_refl _)) hl hall)
  have Hb3:=hide hb3
  have Hx:Hid (lgB e l=(inB e 0 900 && acsB l)):=hide rfl
  clear hb3 hr hall
  generalize lgB e l=X at Hx
  generalize acsB l=A at Hx HE
  cases h0:inB e 0 900
  · rw [h0,Bool.false_and] at Hx
    go_enter Tryz.func143,Tryz.ntmps143
    go_wp2_with (go_at_call 181;refine (l1In_any _ _ _ _).mono ?_;rintro en w1 ⟨rfl,rfl⟩)
    go_ret
    exact ⟨ret_bool Hx.out.symm,Hb3.out⟩
  · rw [h0,Bool.true_and] at Hx
    go_enter Tryz.func143,Tryz.ntmps143
    go_wp2_with (first
      | (go_at_call 181;refine (l1In_any _ _ _ _).mono ?_;rintro en w1 ⟨rfl,rfl⟩)
      | (go_at_call 195;refine HE.out.mono ?_;rintro en w2 ⟨rfl,hb2⟩))
    go_ret
    exact ⟨ret_bool Hx.out.symm,Hb3.out.trans (hb2.mono Hb3.out.size)⟩
theorem keep2 {W:World} {B G:Nat} {x y u v:Value} (h:W.cell? ⟨B,0,none⟩=some x/\W.cell? ⟨B,1,none⟩=some y) (hne:B ≠ G):((W.setCell ⟨G,0,none⟩ u).setCell ⟨G,1,none⟩ v).cell? ⟨B,0,none⟩=some x/\((W.setCell ⟨G,0,none⟩ u).setCell ⟨G,1,none⟩ v).cell? ⟨B,1,none⟩=some y:=by
  have e:((W.setCell ⟨G,0,none⟩ u).setCell ⟨G,1,none⟩ v).heap[B]?=W.heap[B]?:=by
    rw [heap_setCell_other _ ⟨G,1,none⟩ B _ hne,heap_setCell_other _ ⟨G,0,none⟩ B _ hne]
  exact ⟨(World.cell?_of_block e).trans h.1,(World.cell?_of_block e).trans h.2⟩
theorem specL6Copy_any (e:Int) (v:Value) (l:List Ac) (w:World) (hr:RdA w v l) (hl:l.length<=4000000) (hall:∀ a ∈ l,a.2.2.2.2.length<=4000000) :
    Calls Tryz.prog 71 #[lgV e v] w fun en w'=>∃ v',en=.returned (lgV e v')/\OwnA w.heap.size w' v' l/\Below w.heap.size w w':=by
  obtain ⟨a1,cv1,rfl⟩:=hr.shape
  simp only [lgV] at *
  obtain ⟨w2,hw2⟩:∃ w2,(w.alloc (.cells #[.int .i64 e,.slice a1 l.length cv1] 26)).alloc (.cells #[.int .i64 0,.slice none 0 0] 26)=w2:=⟨_,rfl⟩
  have hb2:Below w.heap.size w w2.drew:=by rw [<- hw2];exact (((Below.refl _ w).alloc (Nat.le_refl _) _).alloc (by simp) _).drew
  have hs2:w2.heap.size=w.heap.size+2:=by rw [<- hw2];simp
  have kA:Blk w2 w.heap.size 26 [.int .i64 e,.slice a1 l.length cv1]:=by
    rw [<- hw2]
    exact (Blk.new w 26 [.int .i64 e,.slice a1 l.length cv1]).below ((Below.refl (w.heap.size+1) _).alloc (by simp) _) (by omega)
  have kR:Blk w2 (w.heap.size+1) 26 [.int .i64 0,.slice none 0 0]:=by
    rw [<- hw2]
    have h:=Blk.new (w.alloc (.cells #[.int .i64 e,.slice a1 l.length cv1] 26)) 26 [.int .i64 0,.slice none 0 0]
    simp only [World.size_alloc] at h
    exact h
  have HC:=hide (specCopy_any _ l w2.drew (hr.below hb2 (Nat.le_refl _)) hl hall)
  have hS2:w2.drew.cell? ⟨w.heap.size,0,none⟩=some (.int .i64 e)/\w2.drew.cell? ⟨w.heap.size,1,none⟩=some (.slice a1 l.length cv1):=⟨kA.cell 0,kA.cell 1⟩
  have Hb2:=hide hb2
  have KA:Hid (Blk w2.drew w.heap.size 26 [.int .i64 e,.slice a1 l.length cv1]):=hide kA
  have KR:Hid (Blk w2.drew (w.heap.size+1) 26 [.int .i64 0,.slice none 0 0]):=hide kR
  have hs3:w2.drew.heap.size=w.heap.size+2:=hs2
  clear hr hb2 kA kR
  go_enter Tryz.func71,Tryz.ntmps71
  go_wp2
  go_region_held_law (fun w'=>w'.cell? ⟨w.heap.size,0,none⟩=some (.int .i64 e)/\w'.cell? ⟨w.heap.size,1,none⟩=some (.slice a1 l.length cv1)) (first | exact hS2 | exact hS4 | exact keep2 hS4 (by omega)) ((go_at_call 133;refine HC.out.mono ?_;rintro en w4 ⟨v4,rfl,ho4,hb4⟩;have KA4:=KA.out.below hb4 (by omega);have KR4:=KR.out.below hb4 (by omega);have hS4:w4.cell? ⟨w.heap.size,0,none⟩=some (.int .i64 e)/\w4.cell? ⟨w.heap.size,1,none⟩=some (.slice a1 l.length cv1):=⟨KA4.cell 0,KA4.cell 1⟩;have r0:w4.cell? ⟨w.heap.size+1,0,none⟩=some (.int .i64 0):=KR4.cell 0;have r1:w4.cell? ⟨w.heap.size+1,1,none⟩=some (.slice none 0 0):=KR4.cell 1;have q0:=KR4.frozen 0;have q1:=KR4.frozen 1;have hsh:=ho4.rd.shape;obtain ⟨a4,cv4,hv4⟩:=hsh;subst hv4))
  have Ho:=hide (((ho4.older (g:=w.heap.size+1) (by omega) 0 (.int .i64 e)).older (g:=w.heap.size+1) (by omega) 1 (.slice a4 l.length cv4)).mono (show w.heap.size<=_ by omega))
  have HB:=hide (((Hb2.out.trans (hb4.mono Hb2.out.size)).setCell (p:=⟨w.heap.size+1,0,none⟩) (show w.heap.size<=w.heap.size+1 by omega) (.int .i64 e)).setCell (p:=⟨w.heap.size+1,1,none⟩) (show w.heap.size<=w.heap.size+1 by omega) (.slice a4 l.length cv4))
  clear ho4 hb4 KA4
  go_wp2
  refine bodyPost_ret (v:=.agg #[.int .i64 e,.slice a4 l.length cv4]) (by simp [results,Tryz.f71,go_sem,r0,r1]) rfl ?_
  exact ⟨_,rfl,Ho.out,HB.out⟩
theorem fv_less {j k:Nat} (hk:k < 5) (h:j < k):Op.bytesLess (fv j).toList (fv k).toList=true:=by
  rw [ByteArray.toList_eq,ByteArray.toList_eq]
  rcases (show k=0\/k=1\/k=2\/k=3\/k=4 from by omega) with rfl | rfl | rfl | rfl | rfl <;> rcases (show j=0\/j=1\/j=2\/j=3 from by omega) with rfl | rfl | rfl | rfl <;> first | omega | rfl | decide
def LetR (k:Nat) (ls:List ByteArray):Prop:=ls.length<=k/\ls.Pairwise (fun a b=>Op.bytesLess a.toList b.toList=true)/\∀ s ∈ ls,∃ j,j < k/\s=fv j
theorem LetR.more {k:Nat} {ls:List ByteArray} (h:LetR k ls):LetR (k+1) ls:=⟨by have:=h.1;omega,h.2.1,fun s hs=>by obtain ⟨j,h1,h2⟩:=h.2.2 s hs;exact ⟨j,by omega,h2⟩⟩
theorem LetR.put {k:Nat} {ls:List ByteArray} (h:LetR k ls) (hk:k < 5):LetR (k+1) (ls ++ [fv k]):=by
  refine ⟨by have:=h.1;simp;omega,?_,?_⟩
  · rw [List.pairwise_append]
    refine ⟨h.2.1,by simp,fun a ha b hb=>?_⟩
    have hb':b=fv k:=by simpa using hb
    obtain ⟨j,h1,h2⟩:=h.2.2 a ha
    rw [hb',h2]
    exact fv_less hk h1
  · intro s hs
    rcases List.mem_append.1 hs with hs | hs
    · obtain ⟨j,h1,h2⟩:=h.2.2 s hs
      exact ⟨j,by omega,h2⟩
    · exact ⟨k,by omega,by simpa using hs⟩
theorem LetR.size {k:Nat} {ls:List ByteArray} (h:LetR k ls):∀ s ∈ ls,s.size=1:=fun s hs=>by obtain ⟨j,_,rfl⟩:=h.2.2 s hs;rfl
theorem fv_name {j:Nat} (h:j < 5):nmB (fv j)=true:=by
  rcases (show j=0\/j=1\/j=2\/j=3\/j=4 from by omega) with rfl | rfl | rfl | rfl | rfl <;> rfl
def LvR (k:Nat) (ls:List (Int × Int)):Prop:=ls.length<=k/\ls.Pairwise (fun p q=>p.2 < q.2)/\∀ p ∈ ls,1<=p.1/\p.1<=9/\1<=p.2/\p.2<=(k:Int)
theorem LvR.nil:LvR 0 []:=⟨by simp,by simp,by simp⟩
theorem LvR.more {k:Nat} {ls:List (Int × Int)} (h:LvR k ls):LvR (k+1) ls:=⟨by have:=h.1;omega,h.2.1,fun p hp=>by have:=h.2.2 p hp;omega⟩
theorem LvR.put {k x:Nat} {ls:List (Int × Int)} (h:LvR k ls) (hx:x < 9):LvR (k+1) (ls ++ [(1+(x:Int),(k:Int)+1)]):=by
  refine ⟨by have:=h.1;simp;omega,?_,?_⟩
  · rw [List.pairwise_append]
    refine ⟨h.2.1,by simp,fun a ha b hb=>?_⟩
    have hb':b=(1+(x:Int),(k:Int)+1):=by simpa using hb
    have:=h.2.2 a ha
    rw [hb']
    show a.2 < (k:Int)+1
    omega
  · intro s hs
    rcases List.mem_append.1 hs with hs | hs
    · have:=h.2.2 s hs;omega
    · have:s=(1+(x:Int),(k:Int)+1):=by simpa using hs
      subst this
      show 1<=1+(x:Int)/\1+(x:Int)<=9/\1<=(k:Int)+1/\(k:Int)+1<=((k+1:Nat):Int)
      omega
theorem LvR.putW {k x:Nat} {ls:List (Int × Int)} (h:LvR k ls) (hx:x < 9) (hk:k < 3):LvR (k+1) (ls ++ [(IntKind.i64.wrap (1+(x:Int)),IntKind.i64.wrap ((k:Int)+1))]):=by
  rw [show IntKind.i64.wrap (1+(x:Int))=1+(x:Int) from by rw [IntKind.wrap_i64];omega,show IntKind.i64.wrap ((k:Int)+1)=(k:Int)+1 from by rw [IntKind.wrap_i64];omega]
  exact h.put hx
def AcN (a:Ac):Prop:=0<=a.2.1/\a.2.1<=100/\0<=a.2.2.1/\a.2.2.1<=2/\0<=a.2.2.2.1/\a.2.2.2.1<=30/\LvR 3 a.2.2.2.2
theorem LvR.right {ls:List (Int × Int)} (h:LvR 3 ls):lvsB ls=true:=by
  refine lvs_yes ls (fun j hj=>?_)
  unfold lvAt inB
  have e1:ls.getD j (0,0)=ls[j]:=by simp [hj]
  have h1:=h.2.2 ls[j] (List.getElem_mem hj)
  rw [e1]
  by_cases h0:j=0
  · rw [decide_eq_true h0]
    simp only [Bool.true_or,Bool.and_true,Bool.and_eq_true,decide_eq_true_eq]
    omega
  · have hj1:j - 1 < ls.length:=by omega
    have e2:ls.getD (j - 1) (0,0)=ls[j - 1]:=by simp [hj1]
    have h2:=List.pairwise_iff_getElem.1 h.2.1 (j - 1) j hj1 hj (by omega)
    rw [e2,decide_eq_true h2]
    simp only [Bool.or_true,Bool.and_true,Bool.and_eq_true,decide_eq_true_eq]
    omega
theorem AcN.right {a:Ac} (h:AcN a) (hn:nmB a.1=true):acB a=true:=by
  obtain ⟨h1,h2,h3,h4,h5,h6,h7⟩:=h
  unfold acB inB
  rw [hn,h7.right,decide_eq_true (show a.2.2.2.2.length<=4 by have:=h7.1;omega)]
  simp only [Bool.true_and,Bool.and_true,Bool.and_eq_true,decide_eq_true_eq]
  omega
theorem am_small:∀ (ls:List (Int × Int)),(∀ p ∈ ls,1<=p.1/\p.1<=9)->0<=amI ls/\amI ls<=9 * (ls.length:Int)
  | [],_=>by simp [amI]
  | p :: ls,h=>by
    have h1:=am_small ls (fun q hq=>h q (List.mem_cons_of_mem _ hq))
    have h2:=h p List.mem_cons_self
    have e:amI (p :: ls)=p.1+amI ls:=by simp [amI]
    rw [e,List.length_cons]
    omega
theorem AcN.of {a:Ac} (h:AcN a):0<=ofI a/\ofI a<=157:=by
  obtain ⟨h1,h2,h3,h4,h5,h6,h7⟩:=h
  have h8:=am_small a.2.2.2.2 (fun p hp=>by have:=h7.2.2 p hp;omega)
  have h9:=h7.1
  unfold ofI
  omega
theorem ws_small:∀ (l:List Ac),(∀ a ∈ l,AcN a)->0<=wsI l/\wsI l<=157 * (l.length:Int)
  | [],_=>by simp [wsI]
  | a :: l,h=>by
    have h1:=ws_small l (fun q hq=>h q (List.mem_cons_of_mem _ hq))
    have h2:=(h a List.mem_cons_self).of
    have e:wsI (a :: l)=ofI a+wsI l:=by simp [wsI]
    rw [e,List.length_cons]
    omega
theorem acs_drawn {L:List Ac} {ns:List ByteArray} (h:LetR 5 ns) (hn:L.map (fun a=>a.1)=ns) (hat:∀ a ∈ L,AcN a):acsB L=true:=by
  have hlen:L.length=ns.length:=by rw [<- hn];simp
  have hnm:∀ i (h1:i < L.length) (h2:i < ns.length),L[i].1=ns[i]:=fun i h1 h2=>by
    subst hn;simp
  have hw:=ws_small L hat
  unfold acsB
  rw [Bool.and_eq_true,Bool.and_eq_true,List.all_eq_true,decide_eq_true_eq,decide_eq_true_eq]
  refine ⟨fun i hi=>?_,by rw [hlen];have:=h.1;omega,?_⟩
  · have hi':i < L.length:=List.mem_range.1 hi
    have hi2:i < ns.length:=by omega
    have e1:L.getD i ac0=L[i]:=by rw [List.getD_eq_getElem?_getD,List.getElem?_eq_getElem hi'];rfl
    unfold acAt
    rw [e1,Bool.and_eq_true]
    have hN:=hat _ (List.getElem_mem hi')
    obtain ⟨j,hj,hjs⟩:=h.2.2 ns[i] (List.getElem_mem hi2)
    refine ⟨hN.right (by rw [hnm i hi' hi2,hjs];exact fv_name hj),?_⟩
    by_cases h0:i=0
    · rw [decide_eq_true h0];rfl
    · have hj1:i - 1 < L.length:=by omega
      have hj2:i - 1 < ns.length:=by omega
      have e2:L.getD (i - 1) ac0=L[i - 1]:=by rw [List.getD_eq_getElem?_getD,List.getElem?_eq_getElem hj1];rfl
      rw [e2,hnm i hi' hi2,hnm (i - 1) hj1 hj2,List.pairwise_iff_getElem.1 h.2.1 (i - 1) i hj2 hi2 (by omega),Bool.or_true]
  · have h5:=h.1
    have h6:(L.length:Int)<=5:=by omega
    rw [wealth_is]
    generalize wsI L=W at hw
    unfold wrap64
    omega
theorem l1NamesR_any (w0 w:World) (g:Nat) (cv:Value) (code:List UInt8) (hc:Cur w0 w g cv code) (hl:code.length<=1048576) :
    Calls Tryz.prog 158 #[.pointer (some ⟨g,0,none⟩)] w fun e w'=>∃ (v':Value) (ls:List ByteArray),e=.returned v'/\OwnS w.heap.size w' v' ls/\LetR 5 ls/\Cur w0 w' g cv code/\w.grownBy w' (some g):=by
  have hb0:Below w.heap.size w (w.alloc (.cells #[] 9)):=(Below.refl _ _).alloc (Nat.le_refl _) _
  have Ho:=hide (own_nilS w w.heap.size (Nat.le_refl _))
  have Hc:=hide (hc.below hb0 hc.lt)
  have Hg:=hide (grw_of_below (some g) hb0 (Nat.le_refl _))
  have hgl:=hc.lt
  clear hc hb0
  go_enter Tryz.func158,Tryz.ntmps158
  go_wp2
  go_loopw [3,4] (fun bv iv wr=>∃ (k:Nat) (ls:List ByteArray),k<=5/\iv=.int .i64 (k:Int)/\OwnS w.heap.size wr bv ls/\LetR k ls/\Cur w0 wr g cv code/\w.grownBy wr (some g)) (fun _ iv _=>5 - (intOf iv).toNat)
  case atStart=>exact ⟨0,[],Nat.zero_le _,rfl,Ho.out,⟨by simp,by simp,by simp⟩,Hc.out,Hg.out⟩
  case round =>
    obtain ⟨k,ls,hk,rfl,ho,hpl,hc,hg⟩:=hrel
    have Hs1:=hide hpl
    have hpl2:ls.length<=5:=by have:=hpl.1;omega
    have Hor:=hide ho
    have Hcr:=hide hc
    have Hgr:=hide hg
    have hsz:=hg.size
    clear ho hc hg hpl
    by_cases hlt:k < 5
    · go_wp2_with fail
      refine (l1Once_any _ _ _ _ _ _ Hcr.out hl (by omega) (by omega)).mono ?_
      rintro e w1 ⟨bb,rfl,hc1,hg1⟩
      have Ho1:=hide (Hor.out.notg hg1 hgl)
      have Hc1:=hide hc1
      have Hg1:=hide (grw_trans Hgr.out hg1)
      have hsz1:=hg1.size
      clear hc1 hg1
      cases bb
      · have hcell:=five_fv w1 k hlt
        have Hput:=hide (Hs1.out.put hlt)
        generalize fv k=s at hcell Hput
        go_wp2_with (at_builtin;refine app_ownS _ rfl _ _ rfl w.heap.size _ _ ls [s] rfl rfl ((Ho1.out.alloc _).alloc _) (rd_one_str' _ _ _ (by simp)) (by simp;omega) (by simp;omega) ?_;intro v2 w2 ho2 hb2)
        have hb2':Below w.heap.size w1 w2:=(((Below.refl _ _).alloc (by omega) _).alloc (by simp;omega) _).trans hb2
        have Hc2:=hide (Hc1.out.below hb2' hgl)
        have Hg2:=hide (grw_below Hg1.out hb2' (Nat.le_refl _))
        go_roundw
        case rel=>exact ⟨k+1,ls ++ [s],by omega,by go_num,ho2,Hput.out,Hc2.out,Hg2.out⟩
        case measure=>simp [intOf];omega
      · go_wp2
        go_roundw
        case rel=>exact ⟨k+1,ls,by omega,by go_num,Ho1.out,Hs1.out.more,Hc1.out,Hg1.out⟩
        case measure=>simp [intOf];omega
    · have e5:k=5:=by omega
      rw [e5] at Hs1
      clear e5
      go_wp2
      go_ret
      exact ⟨_,ls,rfl,Hor.out,Hs1.out,Hcr.out,Hgr.out⟩
theorem l4AcctR_any (w0 w:World) (g:Nat) (cv:Value) (code:List UInt8) (s:ByteArray) (hc:Cur w0 w g cv code) (hl:code.length<=1048576) :
    Calls Tryz.prog 159 #[.pointer (some ⟨g,0,none⟩),.string s] w fun e w'=>∃ (a:Ac) (lv:Value),e=.returned (acV a lv)/\a.1=s/\a.2.2.2.2.length<=3/\AcN a/\OwnL w.heap.size w' lv a.2.2.2.2/\Cur w0 w' g cv code/\w.grownBy w' (some g):=by
  have hgl:=hc.lt
  obtain ⟨w1,hw1⟩:∃ w1,w.alloc (.cells #[.string { data:=#[] },.int .i64 0,.int .i64 0,.int .i64 0,.slice none 0 0] 105)=w1:=⟨_,rfl⟩
  have hs1:w1.heap.size=w.heap.size+1:=by rw [<- hw1];simp
  have hb1:Below w.heap.size w w1:=by rw [<- hw1];exact (Below.refl _ w).alloc (Nat.le_refl _) _
  have k1:Blk w1 w.heap.size 105 acZ:=by rw [<- hw1];exact Blk.new w _ _
  obtain ⟨w2,hw2⟩:∃ w2,w1.alloc (.cells #[.int .i64 0,.int .i64 10,.int .i64 100,.int .i64 5] 3)=w2:=⟨_,rfl⟩
  have hs2:w2.heap.size=w.heap.size+2:=by rw [<- hw2];simp;omega
  have hb2:Below w1.heap.size w1 w2:=by rw [<- hw2];exact (Below.refl _ w1).alloc (Nat.le_refl _) _
  have HI2:Hid (IntsAt w2 (w.heap.size+1) [0,10,100,5]):=hide (by rw [<- hw2,<- hs1];exact ints_new w1 [0,10,100,5] 3)
  have Hc2:=hide ((hc.below hb1 hgl).below hb2 (by omega))
  have K2:=hide (k1.below hb2 (by omega))
  have HG2:=hide (grw_of_below (some g) (hb1.trans (hb2.mono (by omega))) (Nat.le_refl _))
  clear hc k1 hb1 hb2
  go_enter Tryz.func159,Tryz.ntmps159
  go_wp2_with fail
  refine (l1Int_any w0 _ g (w.heap.size+1) cv code [0,10,100,5] Hc2.out hl HI2.out (by omega) (by simp) (by simp) 4).mono ?_
  rintro e w3 ⟨fr,rfl,hfr,hc3,hg3⟩
  have Hfr:Hid (0<=fr/\fr<=100):=hide (by simp only [List.mem_cons,List.not_mem_nil,or_false] at hfr;omega)
  clear hfr
  have K3:=hide (K2.out.notg hg3 (by omega))
  have HG3:=hide (grw_trans HG2.out hg3)
  have hs3:=hg3.size
  clear hg3 HI2 Hc2 K2 HG2
  go_wp2_with fail
  refine (l1Below_any _ _ _ _ _ _ hc3 hl (by omega) (by omega)).mono ?_
  rintro e w4 ⟨no,rfl,hno,-,hc4,hg4⟩
  have Hno:Hid (no < 3):=hide (by have:=hno (by omega);omega)
  clear hno
  have K4:=hide (K3.out.notg hg4 (by omega))
  have HG4:=hide (grw_trans HG3.out hg4)
  have hs4:=hg4.size
  obtain ⟨w5,hw5⟩:∃ w5,w4.alloc (.cells #[.int .i64 10,.int .i64 10,.int .i64 0,.int .i64 4,.int .i64 5,.int .i64 30] 3)=w5:=⟨_,rfl⟩
  have hb5:Below w4.heap.size w4 w5:=by rw [<- hw5];exact (Below.refl _ w4).alloc (Nat.le_refl _) _
  have hs5:w5.heap.size=w4.heap.size+1:=by rw [<- hw5];simp
  have HI5:Hid (IntsAt w5 w4.heap.size [10,10,0,4,5,30]):=hide (by rw [<- hw5];exact ints_new w4 [10,10,0,4,5,30] 3)
  have Hc5:=hide (hc4.below hb5 (by omega))
  have K5:=hide (K4.out.below hb5 (by omega))
  have HG5:=hide (grw_trans HG4.out (grw_of_below (some g) hb5 (Nat.le_refl _)))
  clear hg4 hc3 hc4 K3 K4 HG3 HG4 hb5
  go_wp2_with fail
  refine (l1Int_any w0 _ g w4.heap.size cv code [10,10,0,4,5,30] Hc5.out hl HI5.out (by omega) (by simp) (by simp) 6).mono ?_
  rintro e w6 ⟨st,rfl,hst,hc6,hg6⟩
  have Hst:Hid (0<=st/\st<=30):=hide (by simp only [List.mem_cons,List.not_mem_nil,or_false] at hst;omega)
  clear hst
  have hs6:=hg6.size
  go_wp2
  obtain ⟨w7,hw7⟩:∃ w7,w6.alloc (.cells #[.string s,.int .i64 fr,.int .i64 (no:Int),.int .i64 st,.slice none 0 0] 105)=w7:=⟨_,rfl⟩
  rw [hw7]
  have hb7:Below w6.heap.size w6 w7:=by rw [<- hw7];exact (Below.refl _ w6).alloc (Nat.le_refl _) _
  have hs7:w7.heap.size=w6.heap.size+1:=by rw [<- hw7];simp
  have KA7:Hid (Blk w7 w6.heap.size 105 [.string s,.int .i64 fr,.int .i64 (no:Int),.int .i64 st,.slice none 0 0]):=hide (by rw [<- hw7];exact Blk.new w6 _ _)
  have K7:=hide ((K5.out.notg hg6 (by omega)).below hb7 (by omega))
  have HG7:=hide (grw_trans (grw_trans HG5.out hg6) (grw_of_below (some g) hb7 (Nat.le_refl _)))
  have Hc7:=hide (hc6.below hb7 (by omega))
  clear hg6 hc6 K5 HG5 HI5 Hc5 hb7
  go_loopw [6] (fun iv wr=>∃ (k:Nat) (a':Option Addr) (c':Nat) (ls:List (Int × Int)),k<=3/\iv=.int .i64 (k:Int)/\LvR k ls/\Blk wr w6.heap.size 105 [.string s,.int .i64 fr,.int .i64 (no:Int),.int .i64 st,.slice a' ls.length c']/\OwnL (w6.heap.size+1) wr (.slice a' ls.length c') ls/\Blk wr w.heap.size 105 acZ/\Cur w0 wr g cv code/\w.grownBy wr (some g)) (fun iv _=>3 - (intOf iv).toNat)
  case atStart=>exact ⟨0,none,0,[],Nat.zero_le _,rfl,LvR.nil,KA7.out,own_noneL _ _,K7.out,Hc7.out,HG7.out⟩
  case round =>
    obtain ⟨k,a',c',ls,hk,rfl,hlR,hkA,hoL,hkR,hcr,hgr⟩:=hrel
    clear KA7 K7 Hc7 HG7
    have HlR:=hide hlR
    have hll:=hlR.1
    clear hlR
    have HkA:=hide hkA
    have HoL:=hide hoL
    have HkR:=hide hkR
    have Hcr:=hide hcr
    have Hgr:=hide hgr
    have hAl:=hkA.lt
    clear hkA hoL hkR hcr hgr
    by_cases hlt:k < 3
    · go_wp2_with fail
      refine (l1Once_any _ _ _ _ _ _ Hcr.out hl (by omega) (by omega)).mono ?_
      rintro e w8 ⟨bb,rfl,hc8,hg8⟩
      have hkA8:=HkA.out.notg hg8 (by omega)
      have hkR8:=HkR.out.notg hg8 (by omega)
      have hoL8:=HoL.out.notg hg8 (by omega)
      have hgr8:=grw_trans Hgr.out hg8
      have hs8:=hg8.size
      clear hg8 HkA HkR HoL Hgr Hcr
      cases bb
      · have HkA:=hide hkA8
        have HkR:=hide hkR8
        have HoL:=hide hoL8
        have Hgr:=hide hgr8
        have Hcr:=hide hc8
        clear hkA8 hkR8 hoL8 hgr8 hc8
        go_wp2
        go_roundw
        case rel=>exact ⟨k+1,a',c',ls,by omega,by go_num,HlR.out.more,HkA.out,HoL.out,HkR.out,Hcr.out,Hgr.out⟩
        case measure=>simp [intOf];omega
      · have HoLd:=hide (hoL8.below (below_drewN (Below.refl w8.heap.size w8) 1) (Nat.le_refl _))
        have e4:=hkA8.cell 4
        have f4:=hkA8.frozen 4
        simp only [List.getElem?_cons_zero,List.getElem?_cons_succ] at e4
        have HkA:=hide hkA8
        have HkR:=hide hkR8
        have HoL:=hide hoL8
        have Hgr:=hide hgr8
        have Hcr:=hide hc8
        clear hkA8 hkR8 hoL8 hgr8 hc8
        go_wp2_with fail
        go_region_law (first
          | (refine step_appL rfl _ _ rfl (w6.heap.size+1) (.slice a' ls.length c') _ ls (IntKind.i64.wrap (1+(x9:Int)),IntKind.i64.wrap ((k:Int)+1)) rfl rfl (OwnL.alloc (OwnL.notg HoLd.out hg9 (by omega)) _) (Blk.new' _ _ (lvC (IntKind.i64.wrap (1+(x9:Int)),IntKind.i64.wrap ((k:Int)+1))) _ (by simp)) (by omega) (by have:=hg9.size;simp at this ⊢;omega) ?_;intro v10 w10 ho10x hg10;obtain ⟨L10,hL10,HLR,ho10⟩:∃ L:List (Int × Int),L.length=ls.length+1/\Hid (LvR (k+1) L)/\OwnL (w6.heap.size+1) w10 v10 L:=⟨_,by simp,hide (HlR.out.putW hx9' hlt),ho10x⟩;clear ho10x;obtain ⟨a10,c10,rfl⟩:=ho10.shapeN (ls.length+1) hL10;have kA10:=hide (Blk.grown (Blk.allocD (Blk.notg (Blk.drew HkA.out) hg9 (by omega)) _) hg10 (fun e=>by have:=HoL.out.ge _ e;omega));have q4:=kA10.out.cell 4;have g4:=kA10.out.frozen 4;simp only [List.getElem?_cons_zero,List.getElem?_cons_succ] at q4)
          | (go_simp;go_at_call 68;refine (l1Below_any w0 _ g cv code 9 (by first | exact Hcr.out.drew | exact Hcr.out) hl (by omega) (by omega)).mono ?_;rintro e w9 ⟨x9,rfl,hx9,-,hc9,hg9⟩;have hx9':x9 < 9:=(by have:=hx9 (by omega);omega);have k9:=hide (Blk.notg (Blk.drew HkA.out) hg9 (by omega));have q9:=k9.out.cell 4;simp only [List.getElem?_cons_zero,List.getElem?_cons_succ] at q9;have hA9:=k9.out.lt))
        all_goals
          have hA9:w6.heap.size < w9.heap.size:=(Blk.notg (Blk.drew HkA.out) hg9 (by omega)).lt
          have hb11:Below w6.heap.size w9 (w10.setCell ⟨w6.heap.size,4,none⟩ (.slice a10 (ls.length+1) c10)):=(((Below.refl w6.heap.size w9).alloc (by omega) _).grown hg10 (by simp;omega) (fun j hj=>by have:=HoL.out.ge j hj;omega)).setCell (p:=⟨w6.heap.size,4,none⟩) (Nat.le_refl _) _
          have HkA11:=hide (kA10.out.setD 4 (.slice a10 (ls.length+1) c10) (by simp))
          have HoL11:=hide (row_set ho10 w6.heap.size 4 (.slice a10 (ls.length+1) c10) (fun j hj=>by have:=OwnL.ge ho10 j hj;omega))
          have HkR11:=hide ((HkR.out.drew.notg hg9 (by omega)).below hb11 (by omega))
          have Hc11:=hide (hc9.below hb11 (by omega))
          have Hgr11:=hide (grw_below (grw_trans (grw_drewN Hgr.out 1) hg9) hb11 (by omega))
          clear hb11 ho10 kA10 hg10 hg9 hc9 q4 g4
          go_wp2
          go_roundw
          case rel=>exact ⟨k+1,a10,c10,L10,by omega,by go_num,HLR.out,by rw [hL10];exact HkA11.out,by rw [hL10];exact HoL11.out,HkR11.out,Hc11.out,Hgr11.out⟩
          case measure=>simp [intOf];omega
    · have c0:=HkA.out.cell 0
      have c1:=HkA.out.cell 1
      have c2:=HkA.out.cell 2
      have c3:=HkA.out.cell 3
      have c4:=HkA.out.cell 4
      have d0:=HkR.out.cell 0
      have d1:=HkR.out.cell 1
      have d2:=HkR.out.cell 2
      have d3:=HkR.out.cell 3
      have d4:=HkR.out.cell 4
      have f0:=HkR.out.frozen 0
      have f1:=HkR.out.frozen 1
      have f2:=HkR.out.frozen 2
      have f3:=HkR.out.frozen 3
      have f4:=HkR.out.frozen 4
      simp only [acZ,List.getElem?_cons_zero,List.getElem?_cons_succ] at c0 c1 c2 c3 c4 d0 d1 d2 d3 d4
      have hRl:=HkR.out.lt
      have hne:w.heap.size < w6.heap.size:=by omega
      go_wp2
      refine bodyPost_ret (v:=.agg #[.string s,.int .i64 fr,.int .i64 (no:Int),.int .i64 st,.slice a' ls.length c']) (by simp [results,Tryz.f159,go_sem,d0,d1,d2,d3,d4]) rfl ?_
      have n1:∀ j,(Value.slice a' ls.length c').ownBlock=some j->j ≠ w.heap.size:=fun j hj=>by have:=HoL.out.ge j hj;omega
      have hbR:Below w.heap.size wr (((((wr.setCell ⟨w.heap.size,0,none⟩ (.string s)).setCell ⟨w.heap.size,1,none⟩ (.int .i64 fr)).setCell ⟨w.heap.size,2,none⟩ (.int .i64 (no:Int))).setCell ⟨w.heap.size,3,none⟩ (.int .i64 st)).setCell ⟨w.heap.size,4,none⟩ (.slice a' ls.length c')) :=
        (((((Below.refl _ wr).setCell (p:=⟨w.heap.size,0,none⟩) (Nat.le_refl _) _).setCell (p:=⟨w.heap.size,1,none⟩) (Nat.le_refl _) _).setCell (p:=⟨w.heap.size,2,none⟩) (Nat.le_refl _) _).setCell (p:=⟨w.heap.size,3,none⟩) (Nat.le_refl _) _).setCell (p:=⟨w.heap.size,4,none⟩) (Nat.le_refl _) _
      refine ⟨(s,fr,(no:Int),st,ls),   .slice a' ls.length c',rfl,rfl,(show ls.length<=3 by omega),⟨Hfr.out.1,Hfr.out.2,by show (0:Int)<=(no:Int);omega,by have:=Hno.out;show (no:Int)<=2;omega,Hst.out.1,Hst.out.2,(by have:=HlR.out;rwa [show k=3 by omega] at this)⟩,?_,Hcr.out.below hbR hgl,grw_below Hgr.out hbR (Nat.le_refl _)⟩
      exact row_set (row_set (row_set (row_set (row_set (HoL.out.mono (show w.heap.size<=w6.heap.size+1 by omega)) _ _ _ n1) _ _ _ n1) _ _ _ n1) _ _ _ n1) _ _ _ n1
theorem l4DrawR_any (w0 w:World) (g:Nat) (cv:Value) (code:List UInt8) (hc:Cur w0 w g cv code) (hl:code.length<=1048576) :
    Calls Tryz.prog 103 #[.pointer (some ⟨g,0,none⟩)] w fun e w'=>∃ (G cap:Nat) (Z:List (Ac × Value)),e=.returned (.slice (some ⟨G,0,none⟩) Z.length cap)/\RowA w.heap.size w' (.slice (some ⟨G,0,none⟩) Z.length cap) Z/\Lvs w.heap.size w' G Z/\Z.length<=5/\(∀ q ∈ Z,q.1.1.size<=9/\q.1.2.2.2.2.length<=3)/\(∃ ns,LetR 5 ns/\(Z.map (fun q=>q.1.1))=ns)/\(∀ q ∈ Z,AcN q.1)/\Cur w0 w' g cv code/\w.grownBy w' (some g):=by
  have hgl:=hc.lt
  obtain ⟨w1,hw1⟩:∃ w1,w.alloc (.cells #[] 105)=w1:=⟨_,rfl⟩
  have hb1:Below w.heap.size w w1:=by rw [<- hw1];exact (Below.refl _ w).alloc (Nat.le_refl _) _
  have hs1:w1.heap.size=w.heap.size+1:=by rw [<- hw1];simp
  have Ho1:Hid (RowA w.heap.size w1 (.slice (some ⟨w.heap.size,0,none⟩) 0 0) []):=hide (by rw [<- hw1];exact row_nilA w _ (Nat.le_refl _))
  have Hc1:=hide (hc.below hb1 hgl)
  have HG1:=hide (grw_of_below (some g) hb1 (Nat.le_refl _))
  clear hc hb1
  go_enter Tryz.func103,Tryz.ntmps103
  go_wp2_with fail
  refine (l1NamesR_any w0 _ g cv code Hc1.out hl).mono ?_
  rintro e w2 ⟨v2,ns,rfl,ho2,hlt5,hc2,hg2⟩
  have hn5:ns.length<=5:=hlt5.1
  have hsz:=hlt5.size
  have HL5:=hide hlt5
  clear hlt5
  have Ho2:=hide (Ho1.out.notg hg2 hgl)
  have HG2:=hide (grw_trans HG1.out hg2)
  have Hc2:=hide hc2
  have Hns:=hide ho2
  have Hsz:=hide hsz
  have hs2:=hg2.size
  obtain ⟨av,cvv,hv2⟩:∃ a c,v2=.slice a ns.length c:=by
    rcases ho2.rd with ⟨a,cap,h1,h2,-⟩ | ⟨b,off,cap,h0,h1,_⟩
    · subst h2;exact ⟨a,cap,h1⟩
    · exact ⟨_,cap,h1⟩
  subst hv2
  clear hc2 ho2 hg2 hsz Ho1 HG1 Hc1
  go_wp2
  go_loopw [3,5] (fun ov iv wr=>∃ (k G c:Nat) (Z:List (Ac × Value)),k<=ns.length/\iv=.int .i64 (k:Int)/\ov=.slice (some ⟨G,0,none⟩) k c/\Z.length=k/\RowA w.heap.size wr ov Z/\Lvs w.heap.size wr G Z/\((∀ q ∈ Z,q.1.1.size<=9/\q.1.2.2.2.2.length<=3)/\(Z.map (fun q=>q.1.1))=ns.take k/\(∀ q ∈ Z,AcN q.1))/\OwnS w1.heap.size wr (.slice av ns.length cvv) ns/\(∀ j,(Value.slice av ns.length cvv).ownBlock=some j->j ≠ G)/\Cur w0 wr g cv code/\w.grownBy wr (some g)) (fun _ iv _=>ns.length - (intOf iv).toNat)
  case atStart =>
    refine ⟨0,_,_,[],Nat.zero_le _,rfl,rfl,rfl,Ho2.out,Lvs.nil _ _ _,⟨by simp,by simp,by simp⟩,Hns.out,fun j hj=>?_,Hc2.out,HG2.out⟩
    have:=(World.ownsRow.lt Hns.out j hj).1
    omega
  case round =>
    obtain ⟨k,G,c,Z,hk,rfl,rfl,hZk,ho,hlv,⟨hsm,hnm,han⟩,hns,hne,hcr,hgr⟩:=hrel
    have Hnm:=hide hnm
    have Han:=hide han
    clear hnm han
    clear Ho2 HG2 Hc2 Hns
    by_cases hlt:k < ns.length
    · have hs1':=Hsz.out ns[k] (List.getElem_mem _)
      have hrd:=hns.rd
      rcases hrd with ⟨_,_,_,e,_⟩ | ⟨b,off,cap,h0,hv,h1,h2,h3,h4⟩
      · subst e;simp at hlt
      injection hv with ha _ hcap
      subst ha hcap
      have hc0:=h4 k hlt
      have hli:(k:Int) < (ns.length:Int):=by omega
      have hGw:w.heap.size<=G:=ho.ge G rfl
      have hGl:G < wr.heap.size:=ho.lt G rfl
      have Ho:=hide ho
      have Hlv:=hide hlv
      have Hsm:=hide hsm
      have Hns:=hide hns
      have Hne:=hide hne
      have HA:=hide (l4AcctR_any w0 wr g cv code ns[k] hcr hl)
      have Hgr:=hide hgr
      clear ho hlv hsm hns hne hcr hgr h4
      have Htk:Hid (ns.take (k+1)=ns.take k ++ [ns[k]]):=hide (List.take_succ_eq_append_getElem hlt)
      generalize ns[k]=nm at hc0 HA hs1' Htk
      go_wp2_with fail
      refine HA.out.mono ?_
      rintro e w3 ⟨a3,lv3,rfl,ha3,hl3,hN3,ho3,hc3,hg3⟩
      have HN3:=hide hN3
      clear hN3
      have hs3:=hg3.size
      obtain ⟨⟨nm3,fr,no,st,ls⟩⟩:Nonempty Ac:=⟨a3⟩
      obtain ⟨nm3,fr,no,st,ls⟩:=a3
      simp only at ha3 hl3 HN3
      subst ha3
      obtain ⟨a',c',rfl⟩:=OwnL.shapeN ho3 ls.length rfl
      have Ho3:=hide (Ho.out.notg hg3 hgl)
      have Hlv3:=hide (Hlv.out.notg hg3 hgl)
      have HoL3:=hide ho3
      have Hc3:=hide hc3
      have Hgr3:=hide (grw_trans Hgr.out hg3)
      have Hns3:=hide (Hns.out.notg hg3 (by omega))
      clear ho3 hc3 hg3
      simp only [acV]
      go_wp2_with (at_builtin;refine app_ownA _ rfl _ _ rfl w.heap.size (.slice (some ⟨G,0,none⟩) k c) _ Z ((nm3,fr,no,st,ls),.slice a' ls.length c') rfl rfl (World.ownsRow.alloc Ho3.out _) (Blk.new' _ _ (acC ((nm3,fr,no,st,ls),.slice a' ls.length c')) _ (by simp)) rfl (by omega) (by simp;omega) ?_;intro v4 w4 hrow4 hgr4 hnn4 hloc4;obtain ⟨G',c'',rfl⟩:=hrow4.shapeN hnn4 (k+1) (by simp [hZk]))
      have hlv4:Lvs w.heap.size w4 G' (Z ++ [((nm3,fr,no,st,ls),.slice a' ls.length c')]):=by
        obtain ⟨g',cap',e,h⟩:=rowA_step (q:=((nm3,fr,no,st,ls),.slice a' ls.length c')) Hlv3.out (HoL3.out.mono (by omega)) (fun j hj=>by have:=HoL3.out.ge j hj;omega)
          (fun i hi j hj e=>by have:=(Hlv.out.own i hi).lt j hj;have:=HoL3.out.ge j e;omega) ((Below.refl _ w3).alloc (Nat.le_refl _) _) hgr4 hrow4 hnn4 hloc4
        injection e with e1
        injection e1 with e2
        injection e2 with e3
        subst e3
        exact h
      have hB4:Below w.heap.size w3 w4:=((Below.refl _ w3).alloc (by omega) _).grown hgr4 (by simp;omega) (fun j hj=>by cases hj;exact hGw)
      have hns4:OwnS w1.heap.size w4 (.slice (some ⟨b,off,none⟩) ns.length cvv) ns:=World.ownsRow.kept (World.ownsRow.alloc Hns3.out _) hgr4 (.inr fun e=>Hne.out G e rfl)
      have Hc4:=hide (Hc3.out.below hB4 hgl)
      have Hgr4:=hide (grw_below Hgr3.out hB4 (Nat.le_refl _))
      have hG':∀ j,(Value.slice (some ⟨b,off,none⟩) ns.length cvv).ownBlock=some j->j ≠ G':=fun j hj=>by
        have h1:=Hne.out j hj
        have h2:=(World.ownsRow.lt Hns3.out j hj).2
        rcases hloc4 with h | h
        · have:G'=G:=by simpa [Value.ownBlock] using h
          omega
        · have:G'=w3.heap.size+1:=by simpa [Value.ownBlock] using h
          omega
      go_roundw
      case rel =>
        refine ⟨k+1,G',c'',_,by omega,by go_num,rfl,by simp [hZk],hrow4,hlv4,⟨fun q hq=>?_,?_,fun q hq=>?_⟩,hns4,hG',Hc4.out,Hgr4.out⟩
        · rcases List.mem_append.1 hq with hq | hq
          · exact Hsm.out q hq
          · simp at hq;subst hq;exact ⟨(show nm3.size<=9 by omega),hl3⟩
        · rw [Htk.out,List.map_append,Hnm.out];rfl
        · rcases List.mem_append.1 hq with hq | hq
          · exact Han.out q hq
          · simp at hq;subst hq;exact HN3.out
      case measure=>simp [intOf];omega
    · go_wp2
      go_ret
      subst hZk
      exact ⟨G,c,Z,rfl,ho,hlv,by omega,hsm,⟨ns,HL5.out,by rw [Hnm.out];exact List.take_of_length_le (by omega)⟩,Han.out,hcr,hgr⟩
theorem l6DrawR_any (w0 w:World) (g:Nat) (cv:Value) (code:List UInt8) (hc:Cur w0 w g cv code) (hl:code.length<=1048576) :
    Calls Tryz.prog 47 #[.pointer (some ⟨g,0,none⟩)] w fun en w'=>∃ (e:Int) (v:Value) (Z:List (Ac × Value)),en=.returned (lgV e v)/\DrA w.heap.size w' v Z/\SmallZ Z/\lgB e (Z.map (·.1))=true/\Cur w0 w' g cv code/\w.grownBy w' (some g):=by
  have hgl:=hc.lt
  obtain ⟨w1,hw1⟩:∃ w1,w.alloc (.cells #[.int .i64 0,.slice none 0 0] 26)=w1:=⟨_,rfl⟩
  have b1:Below w.heap.size w w1:=by rw [<- hw1];exact (Below.refl _ w).alloc (Nat.le_refl _) _
  have k1:Blk w1 w.heap.size 26 [.int .i64 0,.slice none 0 0]:=by rw [<- hw1];exact Blk.new w _ _
  have s1:w1.heap.size=w.heap.size+1:=by rw [<- hw1];simp
  have hc1:=hc.below b1 hgl
  have Hc:=hide hc1
  clear hc hc1
  go_enter Tryz.func47,Tryz.ntmps47
  go_wp2_with fail
  refine (l1Below_any w0 w1 g cv code 3 Hc.out hl (by omega) (by omega)).mono ?_
  rintro en w2 ⟨x,rfl,hx,-,hc2,hg2⟩
  have Hx:Hid (x < 3):=hide (by have:=hx (by omega);omega)
  clear hx
  have z2:=hg2.size
  have k2:=k1.notg hg2 (by omega)
  have Hc2:=hide hc2
  clear hc2 Hc k1
  go_wp2_with fail
  refine (l4DrawR_any w0 w2 g cv code Hc2.out hl).mono ?_
  rintro en w3 ⟨G,cap,Z,rfl,hrow,hlv,hZ5,hZs,hZn,hZa,hc3,hg3⟩
  have HR:Hid (acsB (Z.map (·.1))=true):=hide (by obtain ⟨ns,h1,h2⟩:=hZn;exact acs_drawn (L:=Z.map (fun q:Ac × Value=>q.1)) h1 (by rw [List.map_map];exact h2) (fun a ha=>by obtain ⟨q,hq,rfl⟩:=List.mem_map.1 ha;exact hZa q hq))
  clear hZn hZa
  have z3:=hg3.size
  have k3:=k2.notg hg3 (by omega)
  have r0:=k3.cell 0
  have r1:=k3.cell 1
  have g0:=k3.frozen 0
  have g1:=k3.frozen 1
  simp only [List.getElem?_cons_zero,List.getElem?_cons_succ] at r0 r1
  have HD:=hide (DrA.of hrow hlv)
  have HC3:=hide hc3
  have HG:=hide (grownS_trans hg2 hg3)
  have HS:Hid (SmallZ Z):=hide ⟨by omega,fun q hq=>⟨(hZs q hq).1,by have:=(hZs q hq).2;omega⟩⟩
  have hgg:∀ j,(Value.slice (some ⟨G,0,none⟩) Z.length cap).ownBlock=some j->w2.heap.size<=j:=fun j hj=>hrow.ge j hj
  clear hrow hlv hc3 hg2 hg3 k2 k3 hZs
  go_wp2
  refine bodyPost_ret (v:=.agg #[.int .i64 (x:Int),.slice (some ⟨G,0,none⟩) Z.length cap]) (by simp [results,Tryz.f47,go_sem,r0,r1]) rfl ?_
  refine ⟨x,.slice (some ⟨G,0,none⟩) Z.length cap,Z,rfl,?_,HS.out,?_,?_,?_⟩
  · exact ((HD.out.notg (grown_set w3 w.heap.size 0 _) (by omega)).notg (grown_set _ w.heap.size 1 _) (by omega)).mono (by omega)
  · unfold lgB inB;rw [HR.out,Bool.and_true];have:=Hx.out;simp only [decide_eq_true_eq];omega
  · exact HC3.out.below (((Below.refl w.heap.size w3).setCell (p:=⟨w.heap.size,0,none⟩) (Nat.le_refl _) _).setCell (p:=⟨w.heap.size,1,none⟩) (Nat.le_refl _) _) hgl
  · exact grw_below (grw_trans (grw_of_below (some g) b1 (Nat.le_refl _)) HG.out) (((Below.refl w.heap.size w3).setCell (p:=⟨w.heap.size,0,none⟩) (Nat.le_refl _) _).setCell (p:=⟨w.heap.size,1,none⟩) (Nat.le_refl _) _) (Nat.le_refl _)
end Go.Proofs.YtohachldbpejpaaGreatDoor
