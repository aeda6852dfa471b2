/- The next epoch loses nothing (plain facts). -/
import Derived.Test.YtohachldbpejpaaGreatDoorZoBdThere
import Derived.Test.YtohachldbpejpaaGreatDoorZoLgRoot
namespace Go.Proofs.YtohachldbpejpaaGreatDoor
open Go.RowKit
set_option linter.unusedVariables false
def setV (l:List Ac):List Vl:=(l.filter (fun a=>decide (5<=a.2.2.2.1))).map (fun a=>(a.1,a.2.2.2.1))
def setA (e:Int) (l:List Ac):List Vl:=if lgB e l=true then setV l else []
theorem neA_few {e:Int} {l:List Ac} (hl:l.length<=3999999) (hall:∀ a ∈ l,a.1.size<=maxLen/\a.2.2.2.2.length<=3999999) :
    (neA e l).2.length<=3999999/\∀ a ∈ (neA e l).2,a.1.size<=maxLen/\a.2.2.2.2.length<=3999999:=by
  rcases neA_is e l with h | h
  · rw [h]
    exact ⟨hl,hall⟩
  · refine ⟨by have:=(acs_parts h).1;omega,fun a ha=>?_⟩
    have hp:=ac_parts (acs_all h a ha)
    have hn:=hp.1
    unfold nmB inB at hn
    simp only [Bool.and_eq_true,decide_eq_true_eq] at hn
    exact ⟨by unfold maxLen;omega,by omega⟩
structure Bd where
  ts:List Tx5
  en:Bool
  nx:List Vl
  rt:ByteArray
def bdC (e:Int) (z:List Ac) (l:List Bk) (C:List Nat) (ts:List Tx5) (most:Nat):Bd :=
  if C.any (enAt l)=true then ⟨[],false,[],{ data:=#[] }⟩
  else if C.length=1 then ⟨(gdA e (foL e z l C) ts most).2,true,setA (neA e (gdA e (foL e z l C) ts most).1).1 (neA e (gdA e (foL e z l C) ts most).1).2,srB (neA e (gdA e (foL e z l C) ts most).1).1 (neA e (gdA e (foL e z l C) ts most).1).2⟩
  else ⟨(gdA e (foL e z l C) ts most).2,false,[],{ data:=#[] }⟩
def bdA (e:Int) (z:List Ac) (l:List Bk) (id:Int) (ts:List Tx5) (most:Nat):Bd × Bool :=
  if treeB l=true/\(chT l id=[]->id=-1) then (bdC e z l (chT l id) ts most,true) else (⟨[],false,[],{ data:=#[] }⟩,false)
def boR (b:Bk) (R:Bd × Bool):Bool:=R.2 && (decide (b.ts=R.1.ts) && (decide (b.en=R.1.en) && (decide (b.nx=R.1.nx) && decide (b.rt=R.1.rt))))
def boB (e:Int) (z:List Ac) (l:List Bk) (b:Bk):Bool:=boR b (bdA e z l b.qb b.ts b.ts.length)
theorem amI_lvP (n t:Int):∀ l:List (Int × Int),(∀ p ∈ l,0<=p.1/\p.1<=1000000)->(0<=n/\n<=1000000)->amI (lvP n t l)=amI l+n
  | [],_,_=>by simp [lvP,amI]
  | x :: r,h,hn=>by
    have hx:=h x List.mem_cons_self
    have ih:=amI_lvP n t r (fun p hp=>h p (List.mem_cons_of_mem _ hp)) hn
    rw [lvP]
    by_cases e1:x.2=t
    · rw [if_pos e1,show wrap64 (x.1+n)=x.1+n from by unfold wrap64;omega]
      simp only [amI,List.map_cons,List.sum_cons]
      omega
    · rw [if_neg e1]
      by_cases e2:t < x.2
      · rw [if_pos e2];simp only [amI,List.map_cons,List.sum_cons];omega
      · rw [if_neg e2];simp only [amI,List.map_cons,List.sum_cons] at ih ⊢;omega
structure Gave (t:Tx5) (a b:Ac):Prop where
  bf:0<=a.2.1/\a.2.1<=1000000
  bn:0<=a.2.2.1/\a.2.2.1<=10000
  bs:0<=a.2.2.2.1/\a.2.2.2.1<=1000000
  bm:1<=t.2.2.2.1/\t.2.2.2.1<=1000000
  nonce:b.2.2.1=a.2.2.1+1
  bond:t.1=2->b.2.2.2.1=a.2.2.2.1+t.2.2.2.1/\b.2.1=a.2.1 - t.2.2.2.1
  unbond:t.1=3->b.2.2.2.1=a.2.2.2.1 - t.2.2.2.1/\b.2.1=a.2.1
  pay:t.1 ≠ 2->t.1 ≠ 3->(t.2.2.1 ≠ t.2.1->b.2.1=a.2.1 - t.2.2.2.1)/\b.2.2.2.1=a.2.2.2.1
theorem doA_facts {e:Int} {l:List Ac} {t:Tx5} {k:Nat} (hl:lgB e l=true) (ht:txB t=true) (hk:k < l.length) (hn:l[k].1=t.2.1) (h3:¬ hasA t l[k] < t.2.2.2.1) :
    wealthA (doA e t l k)=wealthA l/\∃ b,getA t.2.1 (doA e t l k)=some b/\Gave t l[k] b:=by
  have hac:acsB l=true:=by unfold lgB at hl;rw [Bool.and_eq_true] at hl;exact hl.2
  obtain ⟨-,hm,-,hkind⟩:=tx_parts ht
  have hall:=acs_all hac
  have hasc:=asc_of_ok l hac
  have hkk:=hall l[k] (List.getElem_mem _)
  obtain ⟨p1,p2,p3,p4,p5,p6⟩:=ac_parts hkk
  have hasc':=ascA_set hasc k (gvA e t l[k]) hk (gvA_name _ _ _)
  have hgk:getA t.2.1 (l.set k (gvA e t l[k]))=some (gvA e t l[k]):=by
    have:=getA_at hasc' k (by simpa using hk)
    simpa [gvA_name,hn] using this
  have w1:wrap64 (l[k].2.2.1+1)=l[k].2.2.1+1:=by unfold wrap64;omega
  rcases hkind with h1 | h1 | h1
  · have hs:t.2.2.2.1<=l[k].2.1:=by unfold hasA at h3;rw [if_neg (by omega)] at h3;omega
    have w2:wrap64 (l[k].2.1 - t.2.2.2.1)=l[k].2.1 - t.2.2.2.1:=by unfold wrap64;omega
    have hg:gvA e t l[k]=(l[k].1,l[k].2.1 - t.2.2.2.1,l[k].2.2.1+1,l[k].2.2.2.1,l[k].2.2.2.2):=by
      unfold gvA;rw [if_pos h1,w1,w2]
    have hd:doA e t l k=insA (aftA (l.set k (gvA e t l[k])) t.2.2.1 t.2.2.2.1) (l.set k (gvA e t l[k])):=by unfold doA;rw [if_pos h1,getD_at l k hk]
    rw [hd]
    constructor
    · rw [wealth_given _ _ _ hasc',wealth_is,wealth_is,wsI_set l k _ hk,hg]
      unfold ofI
      show wrap64 (wrap64 (wsI l - (l[k].2.1+l[k].2.2.2.1+amI l[k].2.2.2.2)+(l[k].2.1 - t.2.2.2.1+l[k].2.2.2.1+amI l[k].2.2.2.2))+t.2.2.2.1)=wrap64 (wsI l)
      unfold wrap64
      omega
    · by_cases hs2:t.2.2.1=t.2.1
      · refine ⟨aftA (l.set k (gvA e t l[k])) t.2.2.1 t.2.2.2.1,?_,⟨p2,p3,p4,hm,?_,fun h=>by omega,fun h=>by omega,fun _ _=>⟨fun h=>absurd hs2 h,?_⟩⟩⟩
        · have:=getA_ins (aftA (l.set k (gvA e t l[k])) t.2.2.1 t.2.2.2.1) (l.set k (gvA e t l[k]))
          rw [aftA_name] at this
          exact (congrArg (fun s=>getA s _) hs2.symm).trans this
        · unfold aftA;rw [hs2,hgk,hg]
        · unfold aftA;rw [hs2,hgk,hg]
      · refine ⟨gvA e t l[k],?_,⟨p2,p3,p4,hm,by rw [hg],fun h=>by omega,fun h=>by omega,fun _ _=>⟨fun _=>by rw [hg],by rw [hg]⟩⟩⟩
        rw [getA_ins_other _ _ (by rw [aftA_name];exact fun h=>hs2 h.symm),hgk]
  · have hs:t.2.2.2.1<=l[k].2.1:=by unfold hasA at h3;rw [if_neg (by omega)] at h3;omega
    have w2:wrap64 (l[k].2.1 - t.2.2.2.1)=l[k].2.1 - t.2.2.2.1:=by unfold wrap64;omega
    have w3:wrap64 (l[k].2.2.2.1+t.2.2.2.1)=l[k].2.2.2.1+t.2.2.2.1:=by unfold wrap64;omega
    have hg:gvA e t l[k]=(l[k].1,l[k].2.1 - t.2.2.2.1,l[k].2.2.1+1,l[k].2.2.2.1+t.2.2.2.1,l[k].2.2.2.2):=by
      unfold gvA;rw [if_neg (by omega),if_pos h1,w1,w2,w3]
    have hd:doA e t l k=l.set k (gvA e t l[k]):=by unfold doA;rw [if_neg (by omega),getD_at l k hk]
    rw [hd]
    refine ⟨?_,gvA e t l[k],hgk,⟨p2,p3,p4,hm,by rw [hg],fun _=>by rw [hg];exact ⟨rfl,rfl⟩,fun h=>by omega,fun h=>absurd h1 h⟩⟩
    rw [wealth_is,wealth_is,wsI_set l k _ hk,hg]
    unfold ofI
    show wrap64 (wsI l - (l[k].2.1+l[k].2.2.2.1+amI l[k].2.2.2.2)+(l[k].2.1 - t.2.2.2.1+(l[k].2.2.2.1+t.2.2.2.1)+amI l[k].2.2.2.2))=wrap64 (wsI l)
    congr 1
    omega
  · have hs:t.2.2.2.1<=l[k].2.2.2.1:=by unfold hasA at h3;rw [if_pos h1] at h3;omega
    have w3:wrap64 (l[k].2.2.2.1 - t.2.2.2.1)=l[k].2.2.2.1 - t.2.2.2.1:=by unfold wrap64;omega
    have hg:gvA e t l[k]=(l[k].1,l[k].2.1,l[k].2.2.1+1,l[k].2.2.2.1 - t.2.2.2.1,lvP t.2.2.2.1 (wrap64 (e+2)) l[k].2.2.2.2):=by
      unfold gvA;rw [if_neg (by omega),if_neg (by omega),w1,w3]
    have hd:doA e t l k=l.set k (gvA e t l[k]):=by unfold doA;rw [if_neg (by omega),getD_at l k hk]
    rw [hd]
    refine ⟨?_,gvA e t l[k],hgk,⟨p2,p3,p4,hm,by rw [hg],fun h=>by omega,fun _=>by rw [hg];exact ⟨rfl,rfl⟩,fun _ h=>absurd h1 h⟩⟩
    rw [wealth_is,wealth_is,wsI_set l k _ hk,hg]
    unfold ofI
    show wrap64 (wsI l - (l[k].2.1+l[k].2.2.2.1+amI l[k].2.2.2.2)+(l[k].2.1+(l[k].2.2.2.1 - t.2.2.2.1)+amI (lvP t.2.2.2.1 (wrap64 (e+2)) l[k].2.2.2.2)))=wrap64 (wsI l)
    rw [amI_lvP _ _ _ (fun p hp=>by have:=lvs_mem p6 p hp;omega) (by omega)]
    congr 1
    omega
theorem apA_told (e:Int) (l:List Ac) (t:Tx5):((apA e l t).2 ≠ 0/\(apA e l t).1=l)\/((apA e l t).2=0/\lgB e (apA e l t).1=true/\lgB e l=true/\wealthA (apA e l t).1=wealthA l/\∃ (k:Nat) (hk:k < l.length) (j:Nat) (hj:j < (apA e l t).1.length),atA l t.2.1=(k:Int)/\atA (apA e l t).1 t.2.1=(j:Int)/\Gave t l[k] (apA e l t).1[j]):=by
  cases h0:(lgB e l && txB t)
  · rw [apA_form h0];exact .inl ⟨by simp,rfl⟩
  · have h0':=h0
    rw [Bool.and_eq_true] at h0
    rcases at_cases l t.2.1 with h1 | ⟨k,hk,h1,hn,-⟩
    · rw [apA_none h0' (by omega)];exact .inl ⟨by simp,rfl⟩
    · have hgd:=getD_at l k hk
      by_cases h2:(l.getD k ac0).2.2.1=t.2.2.2.2
      · by_cases h3:hasA t (l.getD k ac0) < t.2.2.2.1
        · rw [apA_short h0' h1 h2 h3];exact .inl ⟨by simp,rfl⟩
        · cases h4:lgB e (doA e t l k)
          · rw [apA_full h0' h1 h2 h3 h4];exact .inl ⟨by simp,rfl⟩
          · rw [apA_good h0' h1 h2 h3 h4]
            rw [hgd] at h3
            obtain ⟨hw,b,hb,hG⟩:=doA_facts h0.1 h0.2 hk hn h3
            obtain ⟨j,hj,e1,e2,-⟩:=at_get hb
            exact .inr ⟨rfl,h4,h0.1,hw,k,hk,j,hj,h1,e1,by rw [e2];exact hG⟩
      · rw [apA_nonce h0' h1 h2];exact .inl ⟨by simp,rfl⟩
theorem apA_wealth (e:Int) (l:List Ac) (t:Tx5):wealthA (apA e l t).1=wealthA l:=by
  rcases apA_told e l t with ⟨-,h⟩ | ⟨-,-,-,h,-⟩
  · rw [h]
  · exact h
theorem al_wealth (e:Int):∀ (ts:List Tx5) (s:List Ac × Nat),wealthA (ts.foldl (alS e) s).1=wealthA s.1
  | [],s=>rfl
  | t :: ts,s=>by
    rw [List.foldl_cons,al_wealth e ts]
    exact apA_wealth e s.1 t
theorem alA_wealth (e:Int) (l:List Ac) (ts:List Tx5):wealthA (alA e l ts).1=wealthA l:=al_wealth e ts (l,0)
theorem fr_sum (e:Int):∀ (l:List (Int × Int)) (z c:Int),wrap64 (frF e z l+amI (stL e l)+c)=wrap64 (z+amI l+c)
  | [],z,c=>rfl
  | x :: l,z,c=>by
    by_cases h:x.2<=e
    · have e1:frF e z (x :: l)=frF e (wrap64 (z+x.1)) l:=by
        show l.foldl _ (if x.2<=e then wrap64 (z+x.1) else z)=_
        rw [if_pos h]
        rfl
      have e2:stL e (x :: l)=stL e l:=by unfold stL;rw [List.filter_cons_of_neg (by simp;omega)]
      rw [e1,e2,fr_sum e l,Int.add_assoc,wrap64_add']
      congr 1
      simp [amI]
      omega
    · have e1:frF e z (x :: l)=frF e z l:=by
        show l.foldl _ (if x.2<=e then wrap64 (z+x.1) else z)=_
        rw [if_neg h]
        rfl
      have e2:stL e (x :: l)=x :: stL e l:=by unfold stL;rw [List.filter_cons_of_pos (by simp;omega)]
      have e3:frF e z l+amI (x :: stL e l)+c=frF e z l+amI (stL e l)+(c+x.1):=by simp [amI];omega
      rw [e1,e2,e3,fr_sum e l]
      congr 1
      simp [amI]
      omega
theorem frA_of (e:Int) (a:Ac):ofA (frA e a)=ofA a:=by
  rw [ofA_is,ofA_is]
  have h:=fr_sum e a.2.2.2.2 a.2.1 a.2.2.2.1
  have e1:ofI (frA e a)=frF e a.2.1 a.2.2.2.2+amI (stL e a.2.2.2.2)+a.2.2.2.1:=by show frF e a.2.1 a.2.2.2.2+a.2.2.2.1+amI (stL e a.2.2.2.2)=_;omega
  have e2:ofI a=a.2.1+amI a.2.2.2.2+a.2.2.2.1:=by unfold ofI;omega
  rw [e1,e2]
  exact h
theorem fr_wealth (e:Int):∀ (l:List Ac) (s:Int),(l.map (frA e)).foldl (fun s a=>wrap64 (s+ofA a)) s=l.foldl (fun s a=>wrap64 (s+ofA a)) s
  | [],s=>rfl
  | a :: l,s=>by
    rw [List.map_cons,List.foldl_cons,List.foldl_cons,frA_of]
    exact fr_wealth e l _
theorem ne_wealth (e:Int) (l:List Ac):wealthA (neA e l).2=wealthA l:=by
  unfold neA
  split
  · exact fr_wealth _ l 0
  · rfl
theorem ne_right {e:Int} {l:List Ac} (h:lgB e l=true):lgB (neA e l).1 (neA e l).2=true:=by
  unfold neA
  split
  · rename_i h1
    rw [Bool.and_eq_true] at h1
    exact h1.2
  · exact h
theorem al_right {e:Int}:∀ (ts:List Tx5) (s:List Ac × Nat),lgB e s.1=true->lgB e (ts.foldl (alS e) s).1=true
  | [],s,h=>h
  | t :: ts,s,h=>by
    rw [List.foldl_cons]
    refine al_right ts _ ?_
    show lgB e (apA e s.1 t).1=true
    rcases apA_told e s.1 t with ⟨_,h2⟩ | ⟨_,h2,_⟩
    · rw [h2];exact h
    · exact h2
theorem alA_right {e:Int} {l:List Ac} (ts:List Tx5) (h:lgB e l=true):lgB e (alA e l ts).1=true:=al_right ts (l,0) h
end Go.Proofs.YtohachldbpejpaaGreatDoor
