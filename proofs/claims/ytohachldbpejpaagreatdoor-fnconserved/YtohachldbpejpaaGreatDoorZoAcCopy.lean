/- Accounts copied. -/
import Derived.Test.YtohachldbpejpaaGreatDoorZoAcOk
import Derived.Lib.QuietBelow
import Derived.Sort.Walk0
set_option maxRecDepth 20000
set_option maxHeartbeats 2000000
namespace Go.Proofs.YtohachldbpejpaaGreatDoor
open Go.RowKit Go.Sort
set_option linter.unusedVariables false
def ac0:Ac:=(ByteArray.empty,0,0,0,[])
def acAt (l:List Ac) (i:Nat):Bool:=acB (l.getD i ac0) && (decide (i=0) || Op.bytesLess (l.getD (i - 1) ac0).1.toList (l.getD i ac0).1.toList)
def acsB (l:List Ac):Bool:=(List.range l.length).all (acAt l) && (decide (l.length<=12) && decide (wealthA l<=1000000))
theorem acs_no (l:List Ac) (k:Nat) (h:k < l.length) (hk:acAt l k=false):acsB l=false:=by
  unfold acsB
  have:(List.range l.length).all (acAt l)=false:=by
    rw [List.all_eq_false]
    exact ⟨k,List.mem_range.2 h,by simp [hk]⟩
  rw [this,Bool.false_and]
theorem acs_yes (l:List Ac) (h:∀ j,j < l.length->acAt l j=true):acsB l=(decide (l.length<=12) && decide (wealthA l<=1000000)):=by
  unfold acsB
  have:(List.range l.length).all (acAt l)=true:=by
    rw [List.all_eq_true]
    exact fun j hj=>h j (List.mem_range.1 hj)
  rw [this,Bool.true_and]
theorem acAt_eq (l:List Ac) (k:Nat) (a:Ac) (h:k < l.length) (ha:l[k]=a):acAt l k=(acB a && (decide (k=0) || Op.bytesLess (l.getD (k - 1) ac0).1.toList a.1.toList)):=by
  have:l.getD k ac0=a:=by rw [List.getD_eq_getElem?_getD,List.getElem?_eq_getElem h,<- ha];rfl
  unfold acAt;rw [this]
theorem specAcctsOk_any (v:Value) (l:List Ac) (w:World) (hr:RdA w v l) (hl:l.length<=4000000) (hall:∀ a ∈ l,a.1.size<=maxLen/\a.2.2.2.2.length<=4000000) :
    Calls Tryz.prog 195 #[v] w fun e w'=>e=.returned (.bool (acsB l))/\Below w.heap.size w w':=by
  have HW:=hide (fun w h=>specWealth_any v l w h hl (fun a ha=>(hall a ha).2))
  have Hr:=hide hr
  rcases hr with ⟨a,cap,rfl,rfl,-⟩ | ⟨b,off,cap,h0,rfl,h1,h2,h3,h4⟩
  · go_enter Tryz.func195,Tryz.ntmps195
    go_wp2
    refine wp_loop_rounds 1 ?_
    rw [rounds_succ]
    go_wp2_with fail
    refine (HW.out _ Hr.out).mono ?_
    rintro e w2 ⟨rfl,hb2⟩
    go_wp2
    go_ret
    exact ⟨rfl,hb2⟩
  · have H4 := hide h4
    have Hs:=hide hall
    clear h4 hall
    go_enter Tryz.func195,Tryz.ntmps195
    go_wp2
    go_loopw [3] (fun i wr=>∃ k:Nat,k<=l.length/\i=.int .i64 k/\(∀ j,j < k->acAt l j=true)/\Below w.heap.size w wr) (fun i _=>l.length - (intOf i).toNat)
    case atStart=>exact ⟨0,Nat.zero_le _,rfl,fun j hj=>by omega,Below.refl _ _⟩
    case round =>
      obtain ⟨k,hk,rfl,hok,hb⟩:=hrel
      have Hall:=hide hok
      clear hok
      by_cases hlt:k < l.length
      · obtain ⟨lv,hat,hrl⟩:=H4.out k hlt
        obtain ⟨c0,c1,c2,c3,c4⟩:=hat.below hb h3
        have hsz:=Hs.out l[k] (List.getElem_mem hlt)
        have Hok:=hide (acAt_eq l k l[k] hlt rfl)
        have Hno:=hide (acs_no l k hlt)
        have hli:(k:Int) < (l.length:Int):=by omega
        have Hnx:Hid (acAt l k=true->∀ j,j < k+1->acAt l j=true):=hide (fun h j hj=>by
          by_cases e:j=k
          · subst e;exact h
          · exact Hall.out j (by omega))
        have HQ:=hide (fun (d:Nat) (os:Array Obj)=>Calls.regrown_of (specAcctOk_any l[k] lv (grow (redrawn wr d) os) ((hrl.below hb (Nat.le_refl _)).below (below_regrown wr d os) (Nat.le_refl _)) hsz.1 hsz.2))
        have hprev:Hid (k ≥ 1->wr.cell? ⟨b,off+(k - 1) * 5,none⟩=some (.string (l.getD (k - 1) ac0).1)):=hide (fun hk1=>by
          obtain ⟨lv2,hat2,_⟩:=H4.out (k - 1) (by omega)
          rw [List.getD_eq_getElem?_getD,List.getElem?_eq_getElem (show k - 1 < l.length by omega)]
          exact (hat2.below hb h3).c0)
        have hshape:=hrl.shape
        clear hat hrl hsz
        generalize l[k]=ak at c0 c1 c2 c3 HQ Hok hshape
        generalize (l.getD (k - 1) ac0).1=pn at hprev Hok
        obtain ⟨nm,fr,no,st,ls⟩:=ak
        obtain ⟨av,cv,rfl⟩:=hshape
        simp only [acV] at c0 c1 c2 c3 HQ Hok
        have g0:=cell_regrown c0
        have g1:=cell_regrown c1
        have g2:=cell_regrown c2
        have g3:=cell_regrown c3
        have g4:=cell_regrown c4
        clear c0 c1 c2 c3 c4
        cases hn:acB (nm,fr,no,st,ls)
        · have hf:=hide (Hno.out (by rw [Hok.out,hn];rfl))
          rw [hn] at HQ
          clear hn hprev Hnx
          go_wp2
          refine wp_region_quiet_below (by kernel_rfl) (by kernel_rfl) ?_
          repeat (go_big_quiet_step ((go_at_call 223;exact HQ.out _ _)))
          refine wpQuiet_nil ?_
          intro _ hw'
          obtain ⟨⟨dq,osq⟩,hw''⟩:=hw'
          subst hw''
          go_wp2
          go_ret
          exact ⟨ret_bool hf.out.symm,hb.trans ((below_regrown wr dq osq).mono hb.size)⟩
        · rw [hn] at HQ
          by_cases hk1:k < 1
          · have hd:decide (0 < k)=false:=by simp;omega
            have hd2:decide ((0:Int) < (k:Int))=false:=by simp;omega
            have Hnx:=hide (Hnx.out (by rw [Hok.out,hn,show k=0 from by omega];rfl))
            clear hn hprev
            go_wp2
            refine wp_region_quiet_below (by kernel_rfl) (by kernel_rfl) ?_
            repeat (go_big_quiet_step ((go_at_call 223;exact HQ.out _ _)))
            refine wpQuiet_nil ?_
            intro _ hw'
            obtain ⟨⟨dq,osq⟩,hw''⟩:=hw'
            subst hw''
            go_wp2
            go_roundw
            case rel=>exact ⟨k+1,by omega,by go_num,Hnx.out,hb.trans ((below_regrown wr dq osq).mono hb.size)⟩
            case measure=>simp [intOf];omega
          · have hcp:=cell_regrown (hprev.out (by omega))
            clear hprev
            have hpos:(0:Int) < (k:Int):=by omega
            have hposN:0 < k:=by omega
            have hd1:decide (0 < k)=true:=by simp;omega
            have hix:((k:Int) - 1).toNat=k - 1:=by omega
            have hix1:(0:Int)<=(k:Int) - 1:=by omega
            have hix2:(k:Int) - 1 < (l.length:Int):=by omega
            cases hless:Op.bytesLess pn.toList nm.toList
            · have hf:=hide (Hno.out (by rw [Hok.out,hn,hless];simp;omega))
              clear hn Hnx
              go_wp2
              refine wp_region_quiet_below (by kernel_rfl) (by kernel_rfl) ?_
              repeat (go_big_quiet_step ((go_at_call 223;exact HQ.out _ _)))
              refine wpQuiet_nil ?_
              intro _ hw'
              obtain ⟨⟨dq,osq⟩,hw''⟩:=hw'
              subst hw''
              go_wp2
              go_ret
              exact ⟨ret_bool hf.out.symm,hb.trans ((below_regrown wr dq osq).mono hb.size)⟩
            · have Hnx:=hide (Hnx.out (by rw [Hok.out,hn,hless];simp))
              clear hn
              go_wp2
              refine wp_region_quiet_below (by kernel_rfl) (by kernel_rfl) ?_
              repeat (go_big_quiet_step ((go_at_call 223;exact HQ.out _ _)))
              refine wpQuiet_nil ?_
              intro _ hw'
              obtain ⟨⟨dq,osq⟩,hw''⟩:=hw'
              subst hw''
              go_wp2
              go_roundw
              case rel=>exact ⟨k+1,by omega,by go_num,Hnx.out,hb.trans ((below_regrown wr dq osq).mono hb.size)⟩
              case measure=>simp [intOf];omega
      · have hf:=hide (acs_yes l (fun j hj=>Hall.out j (by omega)))
        have HW2:=hide (HW.out _ (Hr.out.below hb (Nat.le_refl _)))
        by_cases h12:l.length<=12
        · have h12i:(l.length:Int)<=12:=by omega
          rw [decide_eq_true h12,Bool.true_and] at hf
          generalize wealthA l=W at hf HW2
          go_wp2_with fail
          refine HW2.out.mono ?_
          rintro e w2 ⟨rfl,hb2⟩
          go_wp2
          go_ret
          exact ⟨ret_bool hf.out.symm,hb.trans (hb2.mono hb.size)⟩
        · have h12i:¬ (l.length:Int)<=12:=by omega
          rw [decide_eq_false h12,Bool.false_and] at hf
          go_wp2
          go_ret
          exact ⟨ret_bool hf.out.symm,hb⟩
end Go.Proofs.YtohachldbpejpaaGreatDoor
namespace Go.Proofs.YtohachldbpejpaaGreatDoor
open Go.RowKit
set_option linter.unusedVariables false
def Lt (s t:ByteArray):Prop:=Op.bytesLess s.toList t.toList=true
theorem lt_iff (s t:ByteArray):Lt s t ↔ s.toList < t.toList:=by unfold Lt;rw [Go.Proofs.bytesLess_eq,decide_eq_true_iff]
theorem lt_no (s:ByteArray):¬ Lt s s:=fun h=>List.lt_irrefl _ ((lt_iff _ _).1 h)
theorem lt_tr {s t u:ByteArray} (h:Lt s t) (h':Lt t u):Lt s u:=(lt_iff _ _).2 (List.lt_trans ((lt_iff _ _).1 h) ((lt_iff _ _).1 h'))
theorem lt_as {s t:ByteArray} (h:Lt s t):¬ Lt t s:=fun h'=>lt_no _ (lt_tr h h')
theorem toList_inj' {s t:ByteArray} (h:s.toList=t.toList):s=t:=by
  rw [ByteArray.toList_eq,ByteArray.toList_eq] at h
  exact ByteArray.ext (Array.toList_inj.1 h)
theorem lt_or {s t:ByteArray} (h:¬ Lt s t) (hn:s ≠ t):Lt t s:=by
  rw [lt_iff] at h ⊢
  by_cases h':t.toList < s.toList
  · exact h'
  · exact absurd (toList_inj' (List.le_antisymm (List.not_lt.1 h') (List.not_lt.1 h))) hn
theorem lt_false {s t:ByteArray} (h:¬ Lt s t):Op.bytesLess s.toList t.toList=false:=by unfold Lt at h;simpa using h
variable {β:Type}
def Asc (Z:List (Ac × β)):Prop:=Z.Pairwise (fun x y=>Lt x.1.1 y.1.1)
def insZ (q:Ac × β):List (Ac × β)->List (Ac × β)
  | []=>[q]
  | x :: t=>if Op.bytesLess x.1.1.toList q.1.1.toList=true then x :: insZ q t else if x.1.1=q.1.1 then q :: t else q :: x :: t
def insA (a:Ac):List Ac->List Ac
  | []=>[a]
  | x :: t=>if Op.bytesLess x.1.toList a.1.toList=true then x :: insA a t else if x.1=a.1 then a :: t else a :: x :: t
theorem insZ_lt {q x:Ac × β} {t:List (Ac × β)} (h:Lt x.1.1 q.1.1):insZ q (x :: t)=x :: insZ q t:=by rw [insZ];exact if_pos h
theorem insZ_eq {q x:Ac × β} {t:List (Ac × β)} (h:x.1.1=q.1.1):insZ q (x :: t)=q :: t:=by
  rw [insZ,if_pos h]
  exact if_neg (show ¬ Lt x.1.1 q.1.1 from by rw [h];exact lt_no _)
theorem insZ_gt {q x:Ac × β} {t:List (Ac × β)} (h:Lt q.1.1 x.1.1):insZ q (x :: t)=q :: x :: t:=by
  rw [insZ,if_neg (show ¬ x.1.1=q.1.1 from fun e=>by rw [e] at h;exact lt_no _ h)]
  exact if_neg (lt_as h)
theorem insA_lt {q x:Ac} {t:List Ac} (h:Lt x.1 q.1):insA q (x :: t)=x :: insA q t:=by rw [insA];exact if_pos h
theorem insA_eq {q x:Ac} {t:List Ac} (h:x.1=q.1):insA q (x :: t)=q :: t:=by
  rw [insA,if_pos h]
  exact if_neg (show ¬ Lt x.1 q.1 from by rw [h];exact lt_no _)
theorem insA_gt {q x:Ac} {t:List Ac} (h:Lt q.1 x.1):insA q (x :: t)=q :: x :: t:=by
  rw [insA,if_neg (show ¬ x.1=q.1 from fun e=>by rw [e] at h;exact lt_no _ h)]
  exact if_neg (lt_as h)
theorem insZ_fst (q:Ac × β):∀ Z:List (Ac × β),(insZ q Z).map (·.1)=insA q.1 (Z.map (·.1))
  | []=>rfl
  | x :: t=>by
    unfold insZ insA
    simp only [List.map_cons]
    split
    · rw [List.map_cons,insZ_fst q t]
    · split <;> rfl
theorem insZ_mem (q:Ac × β):∀ (Z:List (Ac × β)) (p:Ac × β),p ∈ insZ q Z->p=q\/p ∈ Z
  | [],p,h=>by simp [insZ] at h;exact .inl h
  | x :: t,p,h=>by
    unfold insZ at h
    split at h
    · rcases List.mem_cons.1 h with rfl | h
      · exact .inr List.mem_cons_self
      · rcases insZ_mem q t p h with h | h
        · exact .inl h
        · exact .inr (List.mem_cons_of_mem _ h)
    · split at h
      · rcases List.mem_cons.1 h with rfl | h
        · exact .inl rfl
        · exact .inr (List.mem_cons_of_mem _ h)
      · rcases List.mem_cons.1 h with rfl | h
        · exact .inl rfl
        · exact .inr h
theorem insZ_asc (q:Ac × β):∀ Z:List (Ac × β),Asc Z->Asc (insZ q Z)
  | [],_=>by simp [insZ,Asc]
  | x :: t,h=>by
    obtain ⟨h1,h2⟩:=List.pairwise_cons.1 h
    unfold insZ
    split
    · rename_i hl
      refine List.pairwise_cons.2 ⟨fun y hy=>?_,insZ_asc q t h2⟩
      rcases insZ_mem q t y hy with rfl | hy
      · exact hl
      · exact h1 y hy
    · rename_i hl
      split
      · rename_i he
        refine List.pairwise_cons.2 ⟨fun y hy=>?_,h2⟩
        rw [<- he];exact h1 y hy
      · rename_i he
        have hlt:Lt q.1.1 x.1.1:=lt_or hl he
        refine List.pairwise_cons.2 ⟨fun y hy=>?_,h⟩
        rcases List.mem_cons.1 hy with rfl | hy
        · exact hlt
        · exact lt_tr hlt (h1 y hy)
def getZ (s:ByteArray):List (Ac × β)->Option (Ac × β)
  | []=>none
  | x :: t=>if x.1.1=s then some x else getZ s t
def getA (s:ByteArray):List Ac->Option Ac
  | []=>none
  | x :: t=>if x.1=s then some x else getA s t
theorem getZ_fst (s:ByteArray):∀ Z:List (Ac × β),(getZ s Z).map (·.1)=getA s (Z.map (·.1))
  | []=>rfl
  | x :: t=>by
    unfold getZ getA
    simp only [List.map_cons]
    split
    · rfl
    · exact getZ_fst s t
theorem getZ_name {s:ByteArray}:∀ {Z:List (Ac × β)} {q:Ac × β},getZ s Z=some q->q.1.1=s/\q ∈ Z
  | [],q,h=>by simp [getZ] at h
  | x :: t,q,h=>by
    unfold getZ at h
    split at h
    · rename_i he;simp at h;subst h;exact ⟨he,List.mem_cons_self⟩
    · exact ⟨(getZ_name h).1,List.mem_cons_of_mem _ (getZ_name h).2⟩
theorem getZ_none {s:ByteArray}:∀ {Z:List (Ac × β)},getZ s Z=none->∀ q ∈ Z,q.1.1 ≠ s
  | [],_,q,h=>by simp at h
  | x :: t,h,q,hq=>by
    unfold getZ at h
    split at h
    · simp at h
    · rename_i he
      rcases List.mem_cons.1 hq with rfl | hq
      · exact he
      · exact getZ_none h q hq
theorem insZ_back {s:ByteArray} (q':Ac × β) (hq':q'.1.1=s):∀ {Z:List (Ac × β)} {q:Ac × β},Asc Z->getZ s Z=some q->insZ q (insZ q' Z)=Z
  | [],q,_,h=>by simp [getZ] at h
  | x :: t,q,ha,h=>by
    obtain ⟨h1,h2⟩:=List.pairwise_cons.1 ha
    unfold getZ at h
    split at h
    · rename_i he
      simp at h
      subst h
      rw [insZ_eq (by rw [hq',he]),insZ_eq (by rw [hq',he])]
    · have hq:=getZ_name h
      have hl:Lt x.1.1 s:=by rw [<- hq.1];exact h1 q hq.2
      rw [insZ_lt (by rw [hq'];exact hl),insZ_lt (by rw [hq.1];exact hl),insZ_back q' hq' h2 h]
theorem insA_mid (a:Ac):∀ (A B:List Ac),(∀ x ∈ A,Lt x.1 a.1)->(∀ x ∈ B,Lt a.1 x.1)->insA a (A ++ B)=A ++ a :: B
  | [],[],_,_=>rfl
  | [],x :: B,_,hB=>by
    have h:=hB x List.mem_cons_self
    show insA a (x :: B)=a :: x :: B
    exact insA_gt h
  | x :: A,B,hA,hB=>by
    have h:=hA x List.mem_cons_self
    rw [List.cons_append,insA_lt h,insA_mid a A B (fun y hy=>hA y (List.mem_cons_of_mem _ hy)) hB]
    rfl
def AscA (l:List Ac):Prop:=l.Pairwise (fun x y=>Lt x.1 y.1)
theorem asc_map (Z:List (Ac × β)):Asc Z ↔ AscA (Z.map (·.1)):=by unfold Asc AscA;rw [List.pairwise_map]
def upA (s:ByteArray) (n:Int):List Ac->List Ac
  | []=>[]
  | x :: t=>if x.1=s then (x.1,wrap64 (x.2.1+n),x.2.2) :: t else x :: upA s n t
theorem upA_mid (s:ByteArray) (n:Int) (a:Ac) (ha:a.1=s):∀ (A B:List Ac),(∀ x ∈ A,x.1 ≠ s)->upA s n (A ++ a :: B)=A ++ (a.1,wrap64 (a.2.1+n),a.2.2) :: B
  | [],B,_=>by
    show upA s n (a :: B)=_
    unfold upA
    rw [if_pos ha]
    rfl
  | x :: A,B,h=>by
    rw [List.cons_append]
    unfold upA
    rw [if_neg (h x List.mem_cons_self),upA_mid s n a ha A B (fun y hy=>h y (List.mem_cons_of_mem _ hy))]
    rfl
def plA (l:List Ac) (s:ByteArray):Nat->Nat
  | 0=>0
  | k+1=>if Op.bytesLess s.toList (l.getD k ac0).1.toList=true then plA l s k else k+1
theorem plA_le (l:List Ac) (s:ByteArray):∀ k,plA l s k<=k
  | 0=>Nat.le_refl _
  | k+1=>by
    unfold plA
    split
    · have:=plA_le l s k;omega
    · exact Nat.le_refl _
theorem plA_above (l:List Ac) (s:ByteArray):∀ k j,plA l s k<=j->j < k->Lt s (l.getD j ac0).1
  | 0,j,_,h=>by omega
  | k + 1,j,h1,h2=>by
    unfold plA at h1
    split at h1
    · rename_i hl
      by_cases e:j=k
      · subst e;exact hl
      · exact plA_above l s k j h1 (by omega)
    · omega
theorem plA_below (l:List Ac) (s:ByteArray):∀ k,plA l s k=0\/¬ Lt s (l.getD (plA l s k - 1) ac0).1
  | 0=>.inl rfl
  | k + 1=>by
    unfold plA
    split
    · exact plA_below l s k
    · rename_i hl
      exact .inr hl
def newAc (s:ByteArray):Ac:=(s,0,0,0,[])
def withA (l:List Ac) (s:ByteArray):List Ac:=if getA s l=none then l.take (plA l s l.length) ++ newAc s :: l.drop (plA l s l.length) else l
def aftA (l:List Ac) (s:ByteArray) (n:Int):Ac:=match getA s l with
  | some a=>(s,wrap64 (a.2.1+n),a.2.2)
  | none=>(s,wrap64 (0+n),0,0,[])
theorem getA_none {s:ByteArray}:∀ {l:List Ac},getA s l=none->∀ q ∈ l,q.1 ≠ s
  | [],_,q,h=>by simp at h
  | x :: t,h,q,hq=>by
    unfold getA at h
    split at h
    · simp at h
    · rename_i he
      rcases List.mem_cons.1 hq with rfl | hq
      · exact he
      · exact getA_none h q hq
theorem getA_some {s:ByteArray}:∀ {l:List Ac} {a:Ac},getA s l=some a->a.1=s/\a ∈ l
  | [],q,h=>by simp [getA] at h
  | x :: t,q,h=>by
    unfold getA at h
    split at h
    · rename_i he;simp at h;subst h;exact ⟨he,List.mem_cons_self⟩
    · exact ⟨(getA_some h).1,List.mem_cons_of_mem _ (getA_some h).2⟩
theorem up_found (s:ByteArray) (n:Int):∀ (l:List Ac) (a:Ac),AscA l->getA s l=some a->upA s n l=insA (s,wrap64 (a.2.1+n),a.2.2) l
  | [],a,_,h=>by simp [getA] at h
  | x :: t,a,ha,h=>by
    obtain ⟨h1,h2⟩:=List.pairwise_cons.1 ha
    unfold getA at h
    split at h
    · rename_i he
      simp at h
      subst h
      rw [insA_eq he,upA,if_pos he,he]
    · rename_i he
      have hq:=getA_some h
      have hl:Lt x.1 s:=by rw [<- hq.1];exact h1 a hq.2
      rw [insA_lt hl,upA,if_neg he,up_found s n t a h2 h]
theorem give_eq (l:List Ac) (s:ByteArray) (n:Int) (ha:AscA l):upA s n (withA l s)=insA (aftA l s n) l:=by
  unfold withA aftA
  cases hg:getA s l with
  | some a=>rw [if_neg (by simp)];exact up_found s n l a ha hg
  | none =>
    rw [if_pos rfl]
    have hno:=getA_none hg
    have hp:=plA_le l s l.length
    have hget:∀ j (h:j < l.length),l.getD j ac0=l[j]:=fun j h=>by rw [List.getD_eq_getElem?_getD,List.getElem?_eq_getElem h];rfl
    have hB:∀ x ∈ l.drop (plA l s l.length),Lt s x.1:=fun x hx=>by
      obtain ⟨j,hj,rfl⟩:=List.mem_iff_getElem.1 hx
      rw [List.getElem_drop]
      simp at hj
      have:=plA_above l s l.length (plA l s l.length+j) (by omega) (by omega)
      rwa [hget _ (by omega)] at this
    have hA:∀ x ∈ l.take (plA l s l.length),Lt x.1 s:=fun x hx=>by
      obtain ⟨j,hj,rfl⟩:=List.mem_iff_getElem.1 hx
      rw [List.getElem_take]
      simp at hj
      rcases plA_below l s l.length with h0 | hb
      · omega
      · rw [hget _ (by omega)] at hb
        have hlast:Lt (l[plA l s l.length - 1]'(by omega)).1 s:=lt_or hb (hno _ (List.getElem_mem _)).symm
        by_cases e:j=plA l s l.length - 1
        · simp only [e];exact hlast
        · exact lt_tr (List.pairwise_iff_getElem.1 ha j (plA l s l.length - 1) (by omega) (by omega) (by omega)) hlast
    rw [upA_mid s n (newAc s) rfl _ _ (fun x hx e=>by have:=hA x hx;rw [e] at this;exact lt_no _ this)]
    have e:=insA_mid (s,wrap64 (0+n),0,0,[]) (l.take (plA l s l.length)) (l.drop (plA l s l.length)) hA hB
    rw [List.take_append_drop] at e
    rw [e]
    rfl
theorem asc_of_ok (l:List Ac) (h:acsB l=true):AscA l:=by
  have hat:∀ j,j < l.length->acAt l j=true:=by
    unfold acsB at h
    rw [Bool.and_eq_true,List.all_eq_true] at h
    exact fun j hj=>h.1 j (List.mem_range.2 hj)
  have step:∀ j (hj:j+1 < l.length),Lt (l[j]'(by omega)).1 l[j+1].1:=fun j hj=>by
    have:=hat (j+1) hj
    rw [acAt_eq l (j+1) l[j+1] hj rfl,Bool.and_eq_true,show decide (j+1=0)=false from rfl,Bool.false_or] at this
    have h2:=this.2
    rw [show j+1 - 1=j from rfl,List.getD_eq_getElem?_getD,List.getElem?_eq_getElem (show j < l.length by omega)] at h2
    exact h2
  have far:∀ d i (hi:i+1+d < l.length),Lt (l[i]'(by omega)).1 l[i+1+d].1:=fun d=>by
    induction d with
    | zero=>exact fun i hi=>step i hi
    | succ d ih=>exact fun i hi=>lt_tr (ih i (by omega)) (step (i+1+d) hi)
  refine List.pairwise_iff_getElem.2 fun i j hi hj hij=>?_
  obtain ⟨d,rfl⟩:∃ d,j=i+1+d:=⟨j - (i+1),by omega⟩
  exact far d i hj
def crA (l:List Ac) (s:ByteArray) (n:Int):List Ac × Bool :=
  if (acsB l && nmB s && inB n 0 1000000)=true then (if acsB (insA (aftA l s n) l)=true then (insA (aftA l s n) l,true) else (l,false)) else (l,false)
theorem implCopied_any (a:Ac) (lv:Value) (w:World) (hr:RdL w lv a.2.2.2.2) (hl:a.2.2.2.2.length<=4000000) :
    Calls Tryz.prog 161 #[acV a lv] w fun e w'=>∃ lv',e=.returned (acV a lv')/\OwnL w.heap.size w' lv' a.2.2.2.2/\Below w.heap.size w w':=by
  obtain ⟨nm,fr,no,st,ls⟩:=a
  obtain ⟨av,cv,rfl⟩:=hr.shape
  simp only [acV] at *
  obtain ⟨w1,hw1⟩:∃ w1,w.alloc (.cells #[.string nm,.int .i64 fr,.int .i64 no,.int .i64 st,.slice av ls.length cv] 105)=w1:=⟨_,rfl⟩
  have hs1:w1.heap.size=w.heap.size+1:=by rw [<- hw1];simp
  have hb1:Below w.heap.size w w1:=by rw [<- hw1];exact (Below.refl _ w).alloc (Nat.le_refl _) _
  have k1:Blk w1 w.heap.size 105 [.string nm,.int .i64 fr,.int .i64 no,.int .i64 st,.slice av ls.length cv]:=by rw [<- hw1];exact Blk.new w _ _
  obtain ⟨w2,hw2⟩:∃ w2,w1.alloc (.cells #[.string { data:=#[] },.int .i64 0,.int .i64 0,.int .i64 0,.slice none 0 0] 105)=w2:=⟨_,rfl⟩
  have hs2:w2.heap.size=w.heap.size+2:=by rw [<- hw2];simp;omega
  have hb2:Below w1.heap.size w1 w2:=by rw [<- hw2];exact (Below.refl _ w1).alloc (Nat.le_refl _) _
  have k2:Blk w2 (w.heap.size+1) 105 acZ:=by rw [<- hw2,<- hs1];exact Blk.new w1 _ _
  have k1':=k1.below hb2 (by omega)
  obtain ⟨w3,hw3⟩:∃ w3,w2.alloc (.cells #[] 107)=w3:=⟨_,rfl⟩
  have hs3:w3.heap.size=w.heap.size+3:=by rw [<- hw3];simp;omega
  have hb3:Below w2.heap.size w2 w3:=by rw [<- hw3];exact (Below.refl _ w2).alloc (Nat.le_refl _) _
  have HB3:Hid (Below w.heap.size w w3):=hide ((hb1.trans (hb2.mono (by omega))).trans (hb3.mono (by omega)))
  have Hr3:Hid (RdL w3 (.slice av ls.length cv) ls):=hide (hr.below HB3.out (Nat.le_refl _))
  have Ho3:Hid (OwnL (w.heap.size+2) w3 (.slice (some ⟨w.heap.size+2,0,none⟩) 0 0) []):=hide (by rw [<- hw3,<- hs2];exact own_nilL w2 _ (Nat.le_refl _))
  have K1:=hide (k1'.below hb3 (by omega))
  have K2:=hide (k2.below hb3 (by omega))
  have c4:=K1.out.cell 4
  simp only [List.getElem?_cons_zero,List.getElem?_cons_succ] at c4
  clear hr k1 k1' k2 hb1 hb2 hb3
  go_enter Tryz.func161,Tryz.ntmps161
  go_wp2_with (at_builtin;refine app_ownL _ rfl _ _ rfl (w.heap.size+2) _ _ [] ls rfl rfl Ho3.out Hr3.out (by simp;omega) (by omega) ?_;intro lv' w4 ho4 hb4;rw [List.nil_append] at ho4;obtain ⟨av',cv',rfl⟩:=ho4.rd.shape;have j1:=K1.out.below hb4 (by omega);have j2:=K2.out.below hb4 (by omega);have d0:=j1.cell 0;have d1:=j1.cell 1;have d2:=j1.cell 2;have d3:=j1.cell 3;have d4:=j1.cell 4;have f4:=j1.frozen 4;have e0:=j2.cell 0;have e1:=j2.cell 1;have e2:=j2.cell 2;have e3:=j2.cell 3;have e4:=j2.cell 4;have g0:=j2.frozen 0;have g1:=j2.frozen 1;have g2:=j2.frozen 2;have g3:=j2.frozen 3;have g4:=j2.frozen 4;simp only [acZ,List.getElem?_cons_zero,List.getElem?_cons_succ] at d0 d1 d2 d3 d4 e0 e1 e2 e3 e4;have hl4:=hb4.size)
  refine bodyPost_ret (v:=.agg #[.string nm,.int .i64 fr,.int .i64 no,.int .i64 st,.slice av' ls.length cv']) (by simp [results,Tryz.f161,go_sem,e0,e1,e2,e3,e4]) rfl ?_
  have n1:∀ k,(Value.slice av' ls.length cv').ownBlock=some k->k ≠ w.heap.size:=fun k hk=>by have:=ho4.ge k hk;omega
  have n2:∀ k,(Value.slice av' ls.length cv').ownBlock=some k->k ≠ w.heap.size+1:=fun k hk=>by have:=ho4.ge k hk;omega
  have HB4:=HB3.out.trans (hb4.mono (by omega))
  refine ⟨_,rfl,row_set (row_set (row_set (row_set (row_set (row_set (ho4.mono (by omega)) _ _ _ n1) _ _ _ n2) _ _ _ n2) _ _ _ n2) _ _ _ n2) _ _ _ n2,?_⟩
  exact (((((HB4.setCell (p:=⟨w.heap.size,4,none⟩) (by show w.heap.size<=w.heap.size;omega) _).setCell (p:=⟨w.heap.size+1,0,none⟩) (by show w.heap.size<=w.heap.size+1;omega) _).setCell (p:=⟨w.heap.size+1,1,none⟩) (by show w.heap.size<=w.heap.size+1;omega) _).setCell (p:=⟨w.heap.size+1,2,none⟩) (by show w.heap.size<=w.heap.size+1;omega) _).setCell (p:=⟨w.heap.size+1,3,none⟩) (by show w.heap.size<=w.heap.size+1;omega) _).setCell (p:=⟨w.heap.size+1,4,none⟩) (by show w.heap.size<=w.heap.size+1;omega) _
theorem implCopiedS_any (v:Value) (l:List Ac) (w:World) (hr:RdA w v l) (hl:l.length<=4000000) (hall:∀ a ∈ l,a.2.2.2.2.length<=4000000) :
    Calls Tryz.prog 105 #[v] w fun e w'=>∃ v',e=.returned v'/\OwnA w.heap.size w' v' l/\Below w.heap.size w w':=by
  obtain ⟨i0,hi,hz0,hz1,hz2⟩:=info_parts Tryz.infoAc
  rcases hr with ⟨a,cap,rfl,rfl,-⟩ | ⟨b,off,cap,h0,rfl,h1,h2,h3,h4⟩
  · go_enter Tryz.func105,Tryz.ntmps105
    go_wp2_with (refine wpList_make_own _ rfl _ _ 24 rfl w.heap.size 105 i0 (.agg #[.string { data:=#[] },.int .i64 0,.int .i64 0,.int .i64 0,.slice none 0 0]) 5 Tryz.underlying24 hi hz0 hz1 .i64 .i64 _ 0 rfl rfl rfl (by omega) (by unfold maxLen;omega) (Nat.le_refl _) ?_;intro w1 hown hgrow)
    have hb1:Below w.heap.size w w1:=(Below.refl _ _).grown hgrow (Nat.le_refl _) (by intro k hk;cases hk)
    refine wp_loop_rounds 1 ?_
    rw [rounds_succ]
    go_wp2
    go_ret
    exact ⟨_,rfl,OwnA.of_row (Z:=[]) hown (Lvs.nil _ _ _),hb1⟩
  · have H4:=hide h4
    have Hall:=hide hall
    clear h4 hall
    go_enter Tryz.func105,Tryz.ntmps105
    go_wp2_with (refine wpList_make_own _ rfl _ _ 24 rfl w.heap.size 105 i0 (.agg #[.string { data:=#[] },.int .i64 0,.int .i64 0,.int .i64 0,.slice none 0 0]) 5 Tryz.underlying24 hi hz0 hz1 .i64 .i64 _ l.length rfl rfl rfl (by rw [hz2];omega) (by unfold maxLen;omega) (Nat.le_refl _) ?_;intro w1 hown hgrow)
    have hb1:Below w.heap.size w w1:=(Below.refl _ _).grown hgrow (Nat.le_refl _) (by intro k hk;cases hk)
    go_loopw [3,11] (fun ov iv wr=>∃ (k g c:Nat) (Z:List (Ac × Value)),k<=l.length/\iv=.int .i64 k/\ov=.slice (some ⟨g,0,none⟩) k c/\Z.map (·.1)=l.take k/\RowA w.heap.size wr ov Z/\Lvs w.heap.size wr g Z/\Below w.heap.size w wr) (fun _ iv _=>l.length - (intOf iv).toNat)
    case atStart=>exact ⟨0,_,_,[],Nat.zero_le _,rfl,rfl,rfl,hown,Lvs.nil _ _ _,hb1⟩
    case round =>
      obtain ⟨k,g,c,Z,hk,rfl,rfl,hZ,ho,hlv,hb⟩:=hrel
      clear hown hgrow hb1
      have hZl:Z.length=k:=by have:=congrArg List.length hZ;simp at this;omega
      by_cases hlt:k < l.length
      · obtain ⟨lv,hat,hrl⟩:=H4.out k hlt
        obtain ⟨c0,c1,c2,c3,c4⟩:=hat.below hb h3
        have hli:(k:Int) < (l.length:Int):=by omega
        have hbb:b < wr.heap.size:=Nat.lt_of_lt_of_le h3 hb.size
        have hgl:g < wr.heap.size:=ho.lt g rfl
        have hshape:=hrl.shape
        have Hrl:=hide (hrl.below hb (Nat.le_refl _))
        have hls:=Hall.out l[k] (List.getElem_mem _)
        have HZ2:Hid (∀ lv':Value,(Z ++ [(l[k],lv')]).map (·.1)=l.take (k+1)):=hide (fun lv'=>by rw [List.map_append,hZ,List.take_succ_eq_append_getElem hlt];rfl)
        have Ho:=hide ho
        have Hlv:=hide hlv
        clear hat hrl ho hlv hZ
        generalize l[k]=ak at c0 c1 c2 c3 hshape Hrl hls HZ2
        obtain ⟨nm,fr,no,st,ls⟩:=ak
        obtain ⟨av,cv,rfl⟩:=hshape
        simp only at c0 c1 c2 c3 Hrl hls
        obtain ⟨w1,hw1⟩:∃ w1,wr.alloc (.cells #[.string nm,.int .i64 fr,.int .i64 no,.int .i64 st,.slice av ls.length cv] 105)=w1:=⟨_,rfl⟩
        have hA:Below wr.heap.size wr w1:=by rw [<- hw1];exact (Below.refl _ wr).alloc (Nat.le_refl _) _
        have hk1:Blk w1 wr.heap.size 105 [.string nm,.int .i64 fr,.int .i64 no,.int .i64 st,.slice av ls.length cv]:=by rw [<- hw1];exact Blk.new wr _ _
        have HC:=hide (implCopied_any (nm,fr,no,st,ls) (.slice av ls.length cv) w1 (Hrl.out.below hA (Nat.le_refl _)) hls)
        simp only [acV] at HC
        have hlt1:=hk1.lt
        have e0:=hk1.cell 0
        have e1:=hk1.cell 1
        have e2:=hk1.cell 2
        have e3:=hk1.cell 3
        have e4:=hk1.cell 4
        simp only [List.getElem?_cons_zero,List.getElem?_cons_succ] at e0 e1 e2 e3 e4
        go_wp2_with (first
          | (go_at_call 161;refine HC.out.mono ?_;rintro e w2 ⟨lv',rfl,ho2,hb2⟩;obtain ⟨av',cv',rfl⟩:=ho2.rd.shape;have hB2:=hA.trans (hb2.mono hA.size))
          | (at_builtin;refine app_ownA _ rfl _ _ rfl w.heap.size _ _ Z ((nm,fr,no,st,ls),.slice av' ls.length cv') rfl rfl (World.ownsRow.alloc (Ho.out.below hB2 (Nat.le_refl _)) _) (Blk.new' _ _ (acC ((nm,fr,no,st,ls),.slice av' ls.length cv')) _ rfl) rfl (by omega) (by have:=hb.size;have:=hB2.size;simp;omega) ?_;intro v' w4 hrow hgr hnn hloc))
        have hB:Below w.heap.size w (w2.alloc (.cells #[.string nm,.int .i64 fr,.int .i64 no,.int .i64 st,.slice av' ls.length cv'] 105)):=(hb.trans (hB2.mono hb.size)).alloc (by have:=hb.size;have:=hB2.size;omega) _
        obtain ⟨g',c',rfl,hlv'⟩:=rowA_step (Hlv.out.below hB2 (Nat.le_refl _)) (ho2.mono (by have:=hb.size;have:=hA.size;omega)) (fun j hj=>by have:=ho2.ge j hj;have:=hA.size;omega)
          (fun i hi j hj e=>by have:=(Hlv.out.own i hi).lt j hj;have:=ho2.ge j e;have:=hA.size;omega) ((Below.refl _ w2).alloc (Nat.le_refl _) _) hgr hrow hnn hloc
        go_roundw
        case rel =>
          refine ⟨k+1,g',c',_,by omega,by go_num,by simp [hZl],HZ2.out _,hrow,hlv',hB.grown hgr (by have:=hb.size;have:=hB2.size;simp;omega) (fun j hj=>by cases hj;exact Ho.out.ge g rfl)⟩
        case measure=>simp [intOf];omega
      · have e:k=l.length:=by omega
        subst e
        rw [List.take_length] at hZ
        go_wp2
        go_ret
        have:=OwnA.of_row (cap:=c) (g:=g) (Z:=Z) (by rw [hZl];exact ho) hlv
        rw [hZ,hZl] at this
        exact ⟨_,rfl,this,hb⟩
theorem specCopy_any (v:Value) (l:List Ac) (w:World) (hr:RdA w v l) (hl:l.length<=4000000) (hall:∀ a ∈ l,a.2.2.2.2.length<=4000000) :
    Calls Tryz.prog 133 #[v] w fun e w'=>∃ v',e=.returned v'/\OwnA w.heap.size w' v' l/\Below w.heap.size w w':=by
  rcases hr with ⟨a,cap,rfl,rfl,-⟩ | ⟨b,off,cap,h0,rfl,h1,h2,h3,h4⟩
  · go_enter Tryz.func133,Tryz.ntmps133
    have hown:=row_nilA w w.heap.size (Nat.le_refl _)
    have hb1:Below w.heap.size w (w.alloc (.cells #[] 105)):=(Below.refl _ _).alloc (Nat.le_refl _) _
    go_wp2
    refine wp_loop_rounds 1 ?_
    rw [rounds_succ]
    go_wp2
    go_ret
    exact ⟨_,rfl,OwnA.of_row (Z:=[]) hown (Lvs.nil _ _ _),hb1⟩
  · have H4:=hide h4
    have Hall:=hide hall
    clear h4 hall
    go_enter Tryz.func133,Tryz.ntmps133
    have hown:=hide (row_nilA w w.heap.size (Nat.le_refl _))
    have hb1:Hid (Below w.heap.size w (w.alloc (.cells #[] 105))):=hide ((Below.refl _ _).alloc (Nat.le_refl _) _)
    go_wp2
    go_loopw [3,4] (fun ov iv wr=>∃ (k g c:Nat) (Z:List (Ac × Value)),k<=l.length/\iv=.int .i64 k/\ov=.slice (some ⟨g,0,none⟩) k c/\Z.map (·.1)=l.take k/\RowA w.heap.size wr ov Z/\Lvs w.heap.size wr g Z/\Below w.heap.size w wr) (fun _ iv _=>l.length - (intOf iv).toNat)
    case atStart=>exact ⟨0,_,_,[],Nat.zero_le _,rfl,rfl,rfl,hown.out,Lvs.nil _ _ _,hb1.out⟩
    case round =>
      obtain ⟨k,g,c,Z,hk,rfl,rfl,hZ,ho,hlv,hb⟩:=hrel
      clear hown hb1
      have hZl:Z.length=k:=by have:=congrArg List.length hZ;simp at this;omega
      by_cases hlt:k < l.length
      · obtain ⟨lv,hat,hrl⟩:=H4.out k hlt
        obtain ⟨c0,c1,c2,c3,c4⟩:=hat.below hb h3
        have hli:(k:Int) < (l.length:Int):=by omega
        have hbb:b < wr.heap.size:=Nat.lt_of_lt_of_le h3 hb.size
        have hgl:g < wr.heap.size:=ho.lt g rfl
        have hshape:=hrl.shape
        have Hrl:=hide (hrl.below hb (Nat.le_refl _))
        have hls:=Hall.out l[k] (List.getElem_mem _)
        have HZ2:Hid (∀ lv':Value,(Z ++ [(l[k],lv')]).map (·.1)=l.take (k+1)):=hide (fun lv'=>by rw [List.map_append,hZ,List.take_succ_eq_append_getElem hlt];rfl)
        have Ho:=hide ho
        have Hlv:=hide hlv
        clear hat hrl ho hlv hZ
        generalize l[k]=ak at c0 c1 c2 c3 hshape Hrl hls HZ2
        obtain ⟨nm,fr,no,st,ls⟩:=ak
        obtain ⟨av,cv,rfl⟩:=hshape
        simp only at c0 c1 c2 c3 Hrl hls
        obtain ⟨w1,hw1⟩:∃ w1,wr.alloc (.cells #[.string nm,.int .i64 fr,.int .i64 no,.int .i64 st,.slice av ls.length cv] 105)=w1:=⟨_,rfl⟩
        have hA:Below wr.heap.size wr w1:=by rw [<- hw1];exact (Below.refl _ wr).alloc (Nat.le_refl _) _
        have hk1:Blk w1 wr.heap.size 105 [.string nm,.int .i64 fr,.int .i64 no,.int .i64 st,.slice av ls.length cv]:=by rw [<- hw1];exact Blk.new wr _ _
        have hs1:w1.heap.size=wr.heap.size+1:=by rw [<- hw1];simp
        obtain ⟨w2,hw2⟩:∃ w2,w1.alloc (.cells #[] 107)=w2:=⟨_,rfl⟩
        have hA2:Below w1.heap.size w1 w2:=by rw [<- hw2];exact (Below.refl _ w1).alloc (Nat.le_refl _) _
        have hs2:w2.heap.size=wr.heap.size+2:=by rw [<- hw2];simp;omega
        have Ho3:Hid (OwnL (wr.heap.size+1) w2 (.slice (some ⟨wr.heap.size+1,0,none⟩) 0 0) []):=hide (by rw [<- hw2,<- hs1];exact own_nilL w1 _ (Nat.le_refl _))
        have Hr3:Hid (RdL w2 (.slice av ls.length cv) ls):=hide ((Hrl.out.below hA (Nat.le_refl _)).below hA2 (Nat.le_refl _))
        have HK:=hide (hk1.below hA2 (by omega))
        have HA2:Hid (Below wr.heap.size wr w2):=hide (hA.trans (hA2.mono hA.size))
        have e4:=HK.out.cell 4
        simp only [List.getElem?_cons_zero,List.getElem?_cons_succ] at e4
        clear hk1 hA hA2
        go_wp2_with (first
          | (at_builtin;refine app_ownL _ rfl _ _ rfl (wr.heap.size+1) _ _ [] ls rfl rfl Ho3.out Hr3.out (by simp;omega) (by omega) ?_;intro lv' w3 ho4 hb4;rw [List.nil_append] at ho4;obtain ⟨av',cv',rfl⟩:=ho4.rd.shape;have j1:=HK.out.below hb4 (by omega);have d0:=j1.cell 0;have d1:=j1.cell 1;have d2:=j1.cell 2;have d3:=j1.cell 3;have d4:=j1.cell 4;have f4:=j1.frozen 4;simp only [List.getElem?_cons_zero,List.getElem?_cons_succ] at d0 d1 d2 d3 d4;have hl4:=hb4.size;have hB2:=(HA2.out.trans (hb4.mono (by omega))).setCell (p:=⟨wr.heap.size,4,none⟩) (Nat.le_refl _) (.slice av' ls.length cv');have ho2:=row_set ho4 wr.heap.size 4 (.slice av' ls.length cv') (fun k hk=>by have:=ho4.ge k hk;omega))
          | (at_builtin;refine app_ownA _ rfl _ _ rfl w.heap.size _ _ Z ((nm,fr,no,st,ls),.slice av' ls.length cv') rfl rfl (World.ownsRow.alloc (Ho.out.below hB2 (Nat.le_refl _)) _) (Blk.new' _ _ (acC ((nm,fr,no,st,ls),.slice av' ls.length cv')) _ (by simp)) rfl (by omega) (by have:=hb.size;have:=hB2.size;simp at this ⊢;omega) ?_;intro v' w4 hrow hgr hnn hloc))
        have hB:Below w.heap.size w ((w3.setCell ⟨wr.heap.size,4,none⟩ (.slice av' ls.length cv')).alloc (.cells #[.string nm,.int .i64 fr,.int .i64 no,.int .i64 st,.slice av' ls.length cv'] 105)):=(hb.trans (hB2.mono hb.size)).alloc (by have:=hb.size;have:=hB2.size;omega) _
        have ho2:OwnL (wr.heap.size+1) (w3.setCell ⟨wr.heap.size,4,none⟩ (.slice av' ls.length cv')) (.slice av' ls.length cv') ls:=ho2
        obtain ⟨g',c',rfl,hlv'⟩:=rowA_step (q:=((nm,fr,no,st,ls),.slice av' ls.length cv')) (Hlv.out.below hB2 (Nat.le_refl _)) (OwnL.mono ho2 (by have:=hb.size;omega)) (fun j hj=>by have:=OwnL.ge ho2 j hj;omega)
          (fun i hi j hj e=>by have:=(Hlv.out.own i hi).lt j hj;have:=OwnL.ge ho2 j e;omega) ((Below.refl _ _).alloc (Nat.le_refl _) _) hgr hrow hnn hloc
        go_roundw
        case rel =>
          refine ⟨k+1,g',c',_,by omega,by go_num,by simp [hZl],HZ2.out _,hrow,hlv',hB.grown hgr (by have:=hb.size;have:=hB2.size;simp;omega) (fun j hj=>by cases hj;exact Ho.out.ge g rfl)⟩
        case measure=>simp [intOf];omega
      · have e:k=l.length:=by omega
        subst e
        rw [List.take_length] at hZ
        go_wp2
        go_ret
        have:=OwnA.of_row (cap:=c) (g:=g) (Z:=Z) (by rw [hZl];exact ho) hlv
        rw [hZ,hZl] at this
        exact ⟨_,rfl,this,hb⟩
end Go.Proofs.YtohachldbpejpaaGreatDoor
