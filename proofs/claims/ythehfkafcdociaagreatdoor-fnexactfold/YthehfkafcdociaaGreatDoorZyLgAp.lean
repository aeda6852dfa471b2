/- What an order does to accounts (plain facts). -/
import Derived.Test.YthehfkafcdociaaGreatDoorZyAcCrImpl
import Derived.Test.YthehfkafcdociaaGreatDoorZyLgNext
namespace Go.Proofs.YthehfkafcdociaaGreatDoor
open Go.RowKit
set_option linter.unusedVariables false
theorem getA_ins (a:Ac):∀ l:List Ac,getA a.1 (insA a l)=some a
  | []=>by simp [insA,getA]
  | x :: t=>by
    by_cases hl:Lt x.1 a.1
    · rw [insA_lt hl,getA,if_neg (fun e=>by rw [e] at hl;exact lt_no _ hl)]
      exact getA_ins a t
    · by_cases he:x.1=a.1
      · rw [insA_eq he,getA,if_pos rfl]
      · rw [insA_gt (lt_or hl he),getA,if_pos rfl]
theorem getA_ins_other (a:Ac) (s:ByteArray) (hs:s ≠ a.1):∀ l:List Ac,getA s (insA a l)=getA s l
  | []=>by simp [insA,getA,hs.symm]
  | x :: t=>by
    by_cases hl:Lt x.1 a.1
    · rw [insA_lt hl,getA,getA,getA_ins_other a s hs t]
    · by_cases he:x.1=a.1
      · rw [insA_eq he,getA,if_neg (fun e=>hs e.symm),getA,if_neg (fun e=>hs (by rw [<- e,he]))]
      · rw [insA_gt (lt_or hl he),getA,if_neg (fun e=>hs e.symm)]
theorem getA_at:∀ {l:List Ac},AscA l->∀ k (h:k < l.length),getA l[k].1 l=some l[k]
  | [],_,k,h=>by simp at h
  | x :: t,ha,0,h=>by simp [getA]
  | x :: t,ha,k+1,h=>by
    obtain ⟨h1,h2⟩:=List.pairwise_cons.1 ha
    have hk:k < t.length:=by simpa using h
    have hlt:=h1 t[k] (List.getElem_mem hk)
    simp only [List.getElem_cons_succ]
    unfold getA
    rw [if_neg (fun e=>by rw [e] at hlt;exact lt_no _ hlt)]
    exact getA_at h2 k hk
def amI (l:List (Int × Int)):Int:=(l.map (·.1)).sum
def ofI (a:Ac):Int:=a.2.1+a.2.2.2.1+amI a.2.2.2.2
def wsI (l:List Ac):Int:=(l.map ofI).sum
theorem amI_fold:∀ (l:List (Int × Int)) (z:Int),l.foldl (fun s p=>wrap64 (s+p.1)) (wrap64 z)=wrap64 (z+amI l)
  | [],z=>by simp [amI]
  | p :: t,z=>by
    rw [List.foldl_cons,wrap64_add',amI_fold t (z+p.1)]
    congr 1
    simp [amI]
    omega
theorem ofA_is (a:Ac):ofA a=wrap64 (ofI a):=by
  unfold ofA ofI
  exact amI_fold _ _
theorem wealth_fold:∀ (l:List Ac) (z:Int),l.foldl (fun s a=>wrap64 (s+ofA a)) (wrap64 z)=wrap64 (z+wsI l)
  | [],z=>by simp [wsI]
  | a :: t,z=>by
    rw [List.foldl_cons,wrap64_add',ofA_is,wrap64_add,wealth_fold t (z+ofI a)]
    congr 1
    simp [wsI]
    omega
theorem wealth_is (l:List Ac):wealthA l=wrap64 (wsI l):=by
  have:=wealth_fold l 0
  rw [Int.zero_add,show wrap64 0=0 from by unfold wrap64;omega] at this
  exact this
def oldA (l:List Ac) (s:ByteArray):Int:=match getA s l with
  | some a=>a.2.1
  | none=>0
theorem acs_at {l:List Ac} (h:acsB l=true) (j:Nat) (hj:j < l.length):acB l[j]=true:=by
  unfold acsB at h
  rw [Bool.and_eq_true,List.all_eq_true] at h
  have:=h.1 j (List.mem_range.2 hj)
  rw [acAt_eq l j l[j] hj rfl,Bool.and_eq_true] at this
  exact this.1
theorem asc_lv {l:List (Int × Int)} (h:lvsB l=true):l.Pairwise (fun x y=>x.2 < y.2):=by
  have hat:∀ j,j < l.length->lvAt l j=true:=by
    unfold lvsB at h
    rw [List.all_eq_true] at h
    exact fun j hj=>h j (List.mem_range.2 hj)
  have step:∀ j (hj:j+1 < l.length),(l[j]'(by omega)).2 < l[j+1].2:=fun j hj=>by
    have:=hat (j+1) hj
    unfold lvAt at this
    simp only [Bool.and_eq_true,Bool.or_eq_true,decide_eq_true_eq,Nat.add_eq_zero_iff,Nat.succ_ne_self,and_false,false_or,Nat.add_sub_cancel] at this
    have h2:=this.2.2
    rw [List.getD_eq_getElem?_getD,List.getD_eq_getElem?_getD,List.getElem?_eq_getElem hj,List.getElem?_eq_getElem (show j < l.length by omega)] at h2
    exact h2
  have far:∀ d i (hi:i+1+d < l.length),(l[i]'(by omega)).2 < l[i+1+d].2:=fun d=>by
    induction d with
    | zero=>exact fun i hi=>step i hi
    | succ d ih=>exact fun i hi=>Int.lt_trans (ih i (by omega)) (step (i+1+d) hi)
  refine List.pairwise_iff_getElem.2 fun i j hi hj hij=>?_
  obtain ⟨d,rfl⟩:∃ d,j=i+1+d:=⟨j - (i+1),by omega⟩
  exact far d i hj
def amF (n t:Int) (l:List (Int × Int)):Int:=l.foldl (fun s y=>if y.2=t then wrap64 (s+y.1) else s) n
def ahL (t:Int) (l:List (Int × Int)):List (Int × Int):=l.filter (fun x=>decide (x.2 < t))
def beL (t:Int) (l:List (Int × Int)):List (Int × Int):=l.filter (fun x=>decide (t < x.2))
def wlP (n t:Int) (l:List (Int × Int)):List (Int × Int):=ahL t l ++ (amF n t l,t) :: beL t l
theorem amF_none (n t:Int):∀ l:List (Int × Int),(∀ x ∈ l,x.2 ≠ t)->amF n t l=n
  | [],_=>rfl
  | x :: r,h=>by
    have e:amF n t (x :: r)=amF (if x.2=t then wrap64 (n+x.1) else n) t r:=rfl
    rw [e,if_neg (h x List.mem_cons_self)]
    exact amF_none n t r (fun y hy=>h y (List.mem_cons_of_mem _ hy))
theorem wl_lv (n t:Int):∀ l:List (Int × Int),l.Pairwise (fun x y=>x.2 < y.2)->wlP n t l=lvP n t l
  | [],_=>rfl
  | x :: r,h=>by
    obtain ⟨h1,h2⟩:=List.pairwise_cons.1 h
    have ih:=wl_lv n t r h2
    have e:amF n t (x :: r)=amF (if x.2=t then wrap64 (n+x.1) else n) t r:=rfl
    rw [lvP]
    unfold wlP ahL beL at ih ⊢
    by_cases hx:x.2=t
    · rw [if_pos hx,e,if_pos hx,amF_none _ _ r (fun y hy=>by have:=h1 y hy;omega),List.filter_cons_of_neg (by simp;omega),List.filter_cons_of_neg (by simp;omega),List.filter_eq_nil_iff.2 (fun y hy=>by have:=h1 y hy;simp;omega),List.filter_eq_self.2 (fun y hy=>by have:=h1 y hy;simp;omega),Int.add_comm,hx]
      rfl
    · rw [if_neg hx,e,if_neg hx]
      by_cases hl:t < x.2
      · rw [if_pos hl,amF_none _ _ r (fun y hy=>by have:=h1 y hy;omega),List.filter_cons_of_neg (by simp;omega),List.filter_cons_of_pos (by simpa using hl),List.filter_eq_nil_iff.2 (fun y hy=>by have:=h1 y hy;simp;omega),List.filter_eq_self.2 (fun y hy=>by have:=h1 y hy;simp;omega)]
        rfl
      · rw [if_neg hl,List.filter_cons_of_pos (by simp;omega),List.filter_cons_of_neg (by simp;omega),List.cons_append,ih]
def gvA (e:Int) (t:Tx5) (a:Ac):Ac :=
  if t.1=1 then (a.1,wrap64 (a.2.1 - t.2.2.2.1),wrap64 (a.2.2.1+1),a.2.2.2.1,a.2.2.2.2)
  else if t.1=2 then (a.1,wrap64 (a.2.1 - t.2.2.2.1),wrap64 (a.2.2.1+1),wrap64 (a.2.2.2.1+t.2.2.2.1),a.2.2.2.2)
  else (a.1,a.2.1,wrap64 (a.2.2.1+1),wrap64 (a.2.2.2.1 - t.2.2.2.1),lvP t.2.2.2.1 (wrap64 (e+2)) a.2.2.2.2)
theorem gvA_name (e:Int) (t:Tx5) (a:Ac):(gvA e t a).1=a.1:=by
  unfold gvA
  split
  · rfl
  · split <;> rfl
def hasA (t:Tx5) (a:Ac):Int:=if t.1=3 then a.2.2.2.1 else a.2.1
def doA (e:Int) (t:Tx5) (l:List Ac) (k:Nat):List Ac :=
  if t.1=1 then insA (aftA (l.set k (gvA e t (l.getD k ac0))) t.2.2.1 t.2.2.2.1) (l.set k (gvA e t (l.getD k ac0))) else l.set k (gvA e t (l.getD k ac0))
def apA (e:Int) (l:List Ac) (t:Tx5):List Ac × Int :=
  if (lgB e l && txB t)=false then (l,1)
  else if atA l t.2.1 < 0 then (l,2)
  else if (l.getD (atA l t.2.1).toNat ac0).2.2.1 ≠ t.2.2.2.2 then (l,3)
  else if hasA t (l.getD (atA l t.2.1).toNat ac0) < t.2.2.2.1 then (l,4)
  else if lgB e (doA e t l (atA l t.2.1).toNat)=false then (l,5)
  else (doA e t l (atA l t.2.1).toNat,0)
theorem apA_form {e:Int} {l:List Ac} {t:Tx5} (h:(lgB e l && txB t)=false):apA e l t=(l,1):=by unfold apA;rw [if_pos h]
theorem apA_none {e:Int} {l:List Ac} {t:Tx5} (h:(lgB e l && txB t)=true) (h1:atA l t.2.1 < 0):apA e l t=(l,2):=by unfold apA;rw [if_neg (by rw [h];decide),if_pos h1]
theorem apA_nonce {e:Int} {l:List Ac} {t:Tx5} {k:Nat} (h:(lgB e l && txB t)=true) (h1:atA l t.2.1=(k:Int)) (h2:(l.getD k ac0).2.2.1 ≠ t.2.2.2.2):apA e l t=(l,3):=by
  unfold apA;rw [if_neg (by rw [h];decide),h1,if_neg (by omega),Int.toNat_natCast,if_pos h2]
theorem apA_short {e:Int} {l:List Ac} {t:Tx5} {k:Nat} (h:(lgB e l && txB t)=true) (h1:atA l t.2.1=(k:Int)) (h2:(l.getD k ac0).2.2.1=t.2.2.2.2) (h3:hasA t (l.getD k ac0) < t.2.2.2.1):apA e l t=(l,4):=by
  unfold apA;rw [if_neg (by rw [h];decide),h1,if_neg (by omega),Int.toNat_natCast,if_neg (by rw [h2];exact fun h=>h rfl),if_pos h3]
theorem apA_full {e:Int} {l:List Ac} {t:Tx5} {k:Nat} (h:(lgB e l && txB t)=true) (h1:atA l t.2.1=(k:Int)) (h2:(l.getD k ac0).2.2.1=t.2.2.2.2) (h3:¬ hasA t (l.getD k ac0) < t.2.2.2.1) (h4:lgB e (doA e t l k)=false):apA e l t=(l,5):=by
  unfold apA;rw [if_neg (by rw [h];decide),h1,if_neg (by omega),Int.toNat_natCast,if_neg (by rw [h2];exact fun h=>h rfl),if_neg h3,if_pos h4]
theorem apA_good {e:Int} {l:List Ac} {t:Tx5} {k:Nat} (h:(lgB e l && txB t)=true) (h1:atA l t.2.1=(k:Int)) (h2:(l.getD k ac0).2.2.1=t.2.2.2.2) (h3:¬ hasA t (l.getD k ac0) < t.2.2.2.1) (h4:lgB e (doA e t l k)=true):apA e l t=(doA e t l k,0):=by
  unfold apA;rw [if_neg (by rw [h];decide),h1,if_neg (by omega),Int.toNat_natCast,if_neg (by rw [h2];exact fun h=>h rfl),if_neg h3,if_neg (by rw [h4];decide)]
theorem at_cases (l:List Ac) (s:ByteArray):atA l s=-1\/∃ (k:Nat) (h:k < l.length),atA l s=(k:Int)/\l[k].1=s/\∀ j (hj:j < k),(l[j]'(by omega)).1 ≠ s:=by
  cases hg:getA s l with
  | none=>exact .inl (at_not hg)
  | some a =>
    obtain ⟨k,hk,h1,h2,h3,h4⟩:=at_get hg
    exact .inr ⟨k,hk,h1,by rw [h2];exact h3,h4⟩
theorem getD_at (l:List Ac) (k:Nat) (h:k < l.length):l.getD k ac0=l[k]:=by rw [List.getD_eq_getElem?_getD,List.getElem?_eq_getElem h];rfl
theorem amI_bd:∀ l:List (Int × Int),(∀ p ∈ l,0<=p.1/\p.1<=1000000)->0<=amI l/\amI l<=1000000 * (l.length:Int)
  | [],_=>by simp [amI]
  | p :: r,h=>by
    have h1:=h p List.mem_cons_self
    have h2:=amI_bd r (fun q hq=>h q (List.mem_cons_of_mem _ hq))
    simp only [amI,List.map_cons,List.sum_cons,List.length_cons] at h2 ⊢
    omega
theorem lvs_mem {l:List (Int × Int)} (h:lvsB l=true):∀ p ∈ l,1<=p.1/\p.1<=1000000:=by
  intro p hp
  obtain ⟨j,hj,rfl⟩:=List.mem_iff_getElem.1 hp
  unfold lvsB at h
  rw [List.all_eq_true] at h
  have:=h j (List.mem_range.2 hj)
  unfold lvAt at this
  rw [List.getD_eq_getElem?_getD,List.getElem?_eq_getElem hj] at this
  simp only [Bool.and_eq_true] at this
  have h1:=this.1
  unfold inB at h1
  simpa using h1
theorem ac_parts {a:Ac} (h:acB a=true):nmB a.1=true/\(0<=a.2.1/\a.2.1<=1000000)/\(0<=a.2.2.1/\a.2.2.1<=10000)/\(0<=a.2.2.2.1/\a.2.2.2.1<=1000000)/\a.2.2.2.2.length<=4/\lvsB a.2.2.2.2=true:=by
  unfold acB inB at h
  simpa only [Bool.and_eq_true,decide_eq_true_eq] using h
theorem ac_mk {a:Ac} (h:nmB a.1=true/\(0<=a.2.1/\a.2.1<=1000000)/\(0<=a.2.2.1/\a.2.2.1<=10000)/\(0<=a.2.2.2.1/\a.2.2.2.1<=1000000)/\a.2.2.2.2.length<=4/\lvsB a.2.2.2.2=true):acB a=true:=by
  unfold acB inB
  simpa only [Bool.and_eq_true,decide_eq_true_eq] using h
theorem ofI_bd {a:Ac} (h:acB a=true):0<=ofI a/\ofI a<=6000000:=by
  obtain ⟨-,h1,-,h2,h3,h4⟩:=ac_parts h
  have h5:=amI_bd a.2.2.2.2 (fun p hp=>by have:=lvs_mem h4 p hp;omega)
  unfold ofI
  omega
theorem wsI_bd:∀ l:List Ac,(∀ a ∈ l,acB a=true)->0<=wsI l/\wsI l<=6000000 * (l.length:Int)
  | [],_=>by simp [wsI]
  | a :: r,h=>by
    have h1:=ofI_bd (h a List.mem_cons_self)
    have h2:=wsI_bd r (fun q hq=>h q (List.mem_cons_of_mem _ hq))
    simp only [wsI,List.map_cons,List.sum_cons,List.length_cons] at h2 ⊢
    omega
theorem acs_all {l:List Ac} (h:acsB l=true):∀ a ∈ l,acB a=true:=by
  intro a ha
  obtain ⟨j,hj,rfl⟩:=List.mem_iff_getElem.1 ha
  exact acs_at h j hj
theorem acs_parts {l:List Ac} (h:acsB l=true):l.length<=12/\wealthA l<=1000000:=by
  unfold acsB at h
  simp only [Bool.and_eq_true,decide_eq_true_eq] at h
  exact h.2
theorem wealth_small {l:List Ac} (h:∀ a ∈ l,acB a=true) (hl:l.length<=12):wealthA l=wsI l:=by
  have h1:=wsI_bd l h
  rw [wealth_is]
  unfold wrap64
  omega
theorem wsI_set:∀ (l:List Ac) (k:Nat) (b:Ac) (h:k < l.length),wsI (l.set k b)=wsI l - ofI l[k]+ofI b
  | [],k,b,h=>by simp at h
  | x :: r,0,b,h=>by simp only [List.set_cons_zero,wsI,List.map_cons,List.sum_cons,List.getElem_cons_zero];omega
  | x :: r,k+1,b,h=>by
    have:=wsI_set r k b (by simpa using h)
    simp only [List.set_cons_succ,wsI,List.map_cons,List.sum_cons,List.getElem_cons_succ] at this ⊢
    omega
theorem acs_mk {l:List Ac} (h1:∀ a ∈ l,acB a=true) (h2:AscA l) (h3:l.length<=12) (h4:wsI l<=1000000):acsB l=true:=by
  rw [acs_yes l,decide_eq_true h3,decide_eq_true (by rw [wealth_small h1 h3];exact h4)]
  · rfl
  · intro j hj
    rw [acAt_eq l j l[j] hj rfl,h1 _ (List.getElem_mem _),Bool.true_and]
    by_cases h0:j=0
    · rw [decide_eq_true h0];rfl
    · have:=List.pairwise_iff_getElem.1 h2 (j - 1) j (by omega) hj (by omega)
      rw [getD_at l (j - 1) (by omega)]
      unfold Lt at this
      rw [this,Bool.or_true]
theorem ascA_set {l:List Ac} (h:AscA l) (k:Nat) (b:Ac) (hk:k < l.length) (hb:b.1=l[k].1):AscA (l.set k b):=by
  have hn:(l.set k b).map (·.1)=l.map (·.1):=by
    rw [List.map_set,hb]
    apply List.ext_getElem (by simp)
    intro i h1 h2
    simp only [List.getElem_set]
    split
    · rename_i e;subst e;simp
    · rfl
  have e:∀ m:List Ac,AscA m ↔ (m.map (·.1)).Pairwise Lt:=fun m=>by unfold AscA;rw [List.pairwise_map]
  rw [e,hn,<- e]
  exact h
theorem tx_parts {t:Tx5} (h:txB t=true):nmB t.2.1=true/\(1<=t.2.2.2.1/\t.2.2.2.1<=1000000)/\(t.1=1->nmB t.2.2.1=true)/\(t.1=1\/t.1=2\/t.1=3):=by
  unfold txB inB at h
  simp only [Bool.and_eq_true,decide_eq_true_eq] at h
  obtain ⟨h1,h2,h3,h4⟩:=h
  refine ⟨h1,h2,fun e=>by rw [if_pos e] at h4;exact h4,?_⟩
  split at h4
  · exact .inl ‹_›
  · simp only [Bool.and_eq_true,decide_eq_true_eq] at h4
    omega
theorem pay_full {e:Int} {l:List Ac} {t:Tx5} {k:Nat} (hl:lgB e l=true) (ht:txB t=true) (h1:t.1=1) (hk:k < l.length) (h3:t.2.2.2.1<=l[k].2.1) :
    (crA (l.set k (gvA e t l[k])) t.2.2.1 t.2.2.2.1).2=lgB e (doA e t l k)/\((crA (l.set k (gvA e t l[k])) t.2.2.1 t.2.2.2.1).2=true->(crA (l.set k (gvA e t l[k])) t.2.2.1 t.2.2.2.1).1=doA e t l k):=by
  have hac:acsB l=true:=by unfold lgB at hl;rw [Bool.and_eq_true] at hl;exact hl.2
  have hep:inB e 0 900=true:=by unfold lgB at hl;rw [Bool.and_eq_true] at hl;exact hl.1
  obtain ⟨-,hn,hto,-⟩:=tx_parts ht
  have hall:=acs_all hac
  have hasc:=asc_of_ok l hac
  obtain ⟨hlen,hw⟩:=acs_parts hac
  rw [wealth_small hall hlen] at hw
  have hkk:=hall l[k] (List.getElem_mem _)
  obtain ⟨p1,p2,p3,p4,p5,p6⟩:=ac_parts hkk
  have hg:gvA e t l[k]=(l[k].1,l[k].2.1 - t.2.2.2.1,l[k].2.2.1+1,l[k].2.2.2.1,l[k].2.2.2.2):=by
    unfold gvA
    rw [if_pos h1,show wrap64 (l[k].2.1 - t.2.2.2.1)=l[k].2.1 - t.2.2.2.1 from by unfold wrap64;omega,show wrap64 (l[k].2.2.1+1)=l[k].2.2.1+1 from by unfold wrap64;omega]
  have hd:doA e t l k=insA (aftA (l.set k (gvA e t l[k])) t.2.2.1 t.2.2.2.1) (l.set k (gvA e t l[k])):=by unfold doA;rw [if_pos h1,getD_at l k hk]
  have hasc':=ascA_set hasc k (gvA e t l[k]) hk (gvA_name _ _ _)
  have hnm:nmB t.2.2.1=true:=hto h1
  have hin:inB t.2.2.2.1 0 1000000=true:=by unfold inB;simp;omega
  have hlg:lgB e (doA e t l k)=acsB (doA e t l k):=by unfold lgB;rw [hep,Bool.true_and]
  rw [hlg,hd]
  by_cases hno:l[k].2.2.1+1<=10000
  · have hok:acsB (l.set k (gvA e t l[k]))=true:=by
      refine acs_mk ?_ hasc' (by simpa using hlen) ?_
      · intro a ha
        rcases List.mem_or_eq_of_mem_set ha with h | h
        · exact hall a h
        · subst h
          rw [hg]
          exact ac_mk ⟨p1,⟨by show 0<=l[k].2.1 - t.2.2.2.1;omega,by show l[k].2.1 - t.2.2.2.1<=1000000;omega⟩,⟨by show 0<=l[k].2.2.1+1;omega,hno⟩,p4,p5,p6⟩
      · rw [wsI_set l k _ hk,hg]
        unfold ofI
        show wsI l - (l[k].2.1+l[k].2.2.2.1+amI l[k].2.2.2.2)+(l[k].2.1 - t.2.2.2.1+l[k].2.2.2.1+amI l[k].2.2.2.2)<=1000000
        omega
    have hand:(acsB (l.set k (gvA e t l[k])) && nmB t.2.2.1 && inB t.2.2.2.1 0 1000000)=true:=by rw [hok,hnm,hin];rfl
    cases hx:acsB (insA (aftA (l.set k (gvA e t l[k])) t.2.2.1 t.2.2.2.1) (l.set k (gvA e t l[k])))
    · rw [crA_bad hand hx];exact ⟨rfl,fun h=>by cases h⟩
    · rw [crA_yes hand hx];exact ⟨rfl,fun _=>rfl⟩
  · have hbadk:∀ (a:Ac),a.2.2.1=l[k].2.2.1+1->acB a=false:=fun a ha=>by
      cases hb:acB a
      · rfl
      · have:=(ac_parts hb).2.2.1;omega
    have hbad:acsB (l.set k (gvA e t l[k]))=false:=by
      cases hb:acsB (l.set k (gvA e t l[k]))
      · rfl
      · have:=acs_all hb (gvA e t l[k]) (List.mem_iff_getElem.2 ⟨k,by simpa using hk,by simp⟩)
        rw [hbadk _ (by rw [hg])] at this
        cases this
    have hbad2:acsB (insA (aftA (l.set k (gvA e t l[k])) t.2.2.1 t.2.2.2.1) (l.set k (gvA e t l[k])))=false:=by
      cases hb:acsB (insA (aftA (l.set k (gvA e t l[k])) t.2.2.1 t.2.2.2.1) (l.set k (gvA e t l[k])))
      · rfl
      · have hgk:getA l[k].1 (l.set k (gvA e t l[k]))=some (gvA e t l[k]):=by
          have:=getA_at hasc' k (by simpa using hk)
          simpa [gvA_name] using this
        by_cases hs:t.2.2.1=l[k].1
        · have hm:=getA_some (getA_ins (aftA (l.set k (gvA e t l[k])) t.2.2.1 t.2.2.2.1) (l.set k (gvA e t l[k])))
          have:=acs_all hb _ hm.2
          rw [hbadk] at this
          · cases this
          · unfold aftA
            rw [hs,hgk,hg]
        · have hm:=getA_ins_other (aftA (l.set k (gvA e t l[k])) t.2.2.1 t.2.2.2.1) l[k].1 (by rw [aftA_name];exact fun h=>hs h.symm) (l.set k (gvA e t l[k]))
          rw [hgk] at hm
          have:=acs_all hb _ (getA_some hm).2
          rw [hbadk _ (by rw [hg])] at this
          cases this
    rw [crA_no (by rw [hbad];rfl),hbad2]
    exact ⟨rfl,fun h=>by cases h⟩
end Go.Proofs.YthehfkafcdociaaGreatDoor
