/- The landed code's list of what leaves, with one more. -/
import Derived.Test.YtohachldbpejpaaGreatDoorZoDrawR
import Derived.Test.YtohachldbpejpaaGreatDoorZoLgLeave
set_option maxRecDepth 20000
set_option maxHeartbeats 1000000
namespace Go.Proofs.YtohachldbpejpaaGreatDoor
open Go.RowKit
set_option linter.unusedVariables false
theorem asc_lv {l:List (Int × Int)} (h:lvsB l=true):l.Pairwise (fun x y=>x.2 < y.2):=by
  have hat:∀ j,j < l.length->lvAt l j=true:=by
    unfold lvsB at h
    rw [List.all_eq_true] at h
    exact fun j hj=>h j (List.mem_range.2 hj)
  have step:∀ j (hj:j+1 < l.length),(l[j]'(by omega)).2 < l[j+1].2:=fun j hj=>by
    have:=hat (j+1) hj
    unfold lvAt at this
    simp only [Bool.and_eq_true,Bool.or_eq_true,decide_eq_true_eq,Nat.add_eq_zero_iff,Nat.succ_ne_self,and_false,false_or,Nat.add_sub_cancel] at this
    have h2:=this.2.2
    rw [List.getD_eq_getElem?_getD,List.getD_eq_getElem?_getD,List.getElem?_eq_getElem hj,List.getElem?_eq_getElem (show j < l.length by omega)] at h2
    exact h2
  have far:∀ d i (hi:i+1+d < l.length),(l[i]'(by omega)).2 < l[i+1+d].2:=fun d=>by
    induction d with
    | zero=>exact fun i hi=>step i hi
    | succ d ih=>exact fun i hi=>Int.lt_trans (ih i (by omega)) (step (i+1+d) hi)
  refine List.pairwise_iff_getElem.2 fun i j hi hj hij=>?_
  obtain ⟨d,rfl⟩:∃ d,j=i+1+d:=⟨j - (i+1),by omega⟩
  exact far d i hj
def amF (n t:Int) (l:List (Int × Int)):Int:=l.foldl (fun s y=>if y.2=t then wrap64 (s+y.1) else s) n
def ahL (t:Int) (l:List (Int × Int)):List (Int × Int):=l.filter (fun x=>decide (x.2 < t))
def beL (t:Int) (l:List (Int × Int)):List (Int × Int):=l.filter (fun x=>decide (t < x.2))
def wlP (n t:Int) (l:List (Int × Int)):List (Int × Int):=ahL t l ++ (amF n t l,t) :: beL t l
theorem amF_none (n t:Int):∀ l:List (Int × Int),(∀ x ∈ l,x.2 ≠ t)->amF n t l=n
  | [],_=>rfl
  | x :: r,h=>by
    have e:amF n t (x :: r)=amF (if x.2=t then wrap64 (n+x.1) else n) t r:=rfl
    rw [e,if_neg (h x List.mem_cons_self)]
    exact amF_none n t r (fun y hy=>h y (List.mem_cons_of_mem _ hy))
theorem wl_lv (n t:Int):∀ l:List (Int × Int),l.Pairwise (fun x y=>x.2 < y.2)->wlP n t l=lvP n t l
  | [],_=>rfl
  | x :: r,h=>by
    obtain ⟨h1,h2⟩:=List.pairwise_cons.1 h
    have ih:=wl_lv n t r h2
    have e:amF n t (x :: r)=amF (if x.2=t then wrap64 (n+x.1) else n) t r:=rfl
    rw [lvP]
    unfold wlP ahL beL at ih ⊢
    by_cases hx:x.2=t
    · rw [if_pos hx,e,if_pos hx,amF_none _ _ r (fun y hy=>by have:=h1 y hy;omega),List.filter_cons_of_neg (by simp;omega),List.filter_cons_of_neg (by simp;omega),List.filter_eq_nil_iff.2 (fun y hy=>by have:=h1 y hy;simp;omega),List.filter_eq_self.2 (fun y hy=>by have:=h1 y hy;simp;omega),Int.add_comm,hx]
      rfl
    · rw [if_neg hx,e,if_neg hx]
      by_cases hl:t < x.2
      · rw [if_pos hl,amF_none _ _ r (fun y hy=>by have:=h1 y hy;omega),List.filter_cons_of_neg (by simp;omega),List.filter_cons_of_pos (by simpa using hl),List.filter_eq_nil_iff.2 (fun y hy=>by have:=h1 y hy;simp;omega),List.filter_eq_self.2 (fun y hy=>by have:=h1 y hy;simp;omega)]
        rfl
      · rw [if_neg hl,List.filter_cons_of_pos (by simp;omega),List.filter_cons_of_neg (by simp;omega),List.cons_append,ih]
def gvA (e:Int) (t:Tx5) (a:Ac):Ac :=
  if t.1=1 then (a.1,wrap64 (a.2.1 - t.2.2.2.1),wrap64 (a.2.2.1+1),a.2.2.2.1,a.2.2.2.2)
  else if t.1=2 then (a.1,wrap64 (a.2.1 - t.2.2.2.1),wrap64 (a.2.2.1+1),wrap64 (a.2.2.2.1+t.2.2.2.1),a.2.2.2.2)
  else (a.1,a.2.1,wrap64 (a.2.2.1+1),wrap64 (a.2.2.2.1 - t.2.2.2.1),lvP t.2.2.2.1 (wrap64 (e+2)) a.2.2.2.2)
theorem gvA_name (e:Int) (t:Tx5) (a:Ac):(gvA e t a).1=a.1:=by
  unfold gvA
  split
  · rfl
  · split <;> rfl
def hasA (t:Tx5) (a:Ac):Int:=if t.1=3 then a.2.2.2.1 else a.2.1
def doA (e:Int) (t:Tx5) (l:List Ac) (k:Nat):List Ac :=
  if t.1=1 then insA (aftA (l.set k (gvA e t (l.getD k ac0))) t.2.2.1 t.2.2.2.1) (l.set k (gvA e t (l.getD k ac0))) else l.set k (gvA e t (l.getD k ac0))
def apA (e:Int) (l:List Ac) (t:Tx5):List Ac × Int :=
  if (lgB e l && txB t)=false then (l,1)
  else if atA l t.2.1 < 0 then (l,2)
  else if (l.getD (atA l t.2.1).toNat ac0).2.2.1 ≠ t.2.2.2.2 then (l,3)
  else if hasA t (l.getD (atA l t.2.1).toNat ac0) < t.2.2.2.1 then (l,4)
  else if lgB e (doA e t l (atA l t.2.1).toNat)=false then (l,5)
  else (doA e t l (atA l t.2.1).toNat,0)
theorem apA_form {e:Int} {l:List Ac} {t:Tx5} (h:(lgB e l && txB t)=false):apA e l t=(l,1):=by unfold apA;rw [if_pos h]
theorem apA_none {e:Int} {l:List Ac} {t:Tx5} (h:(lgB e l && txB t)=true) (h1:atA l t.2.1 < 0):apA e l t=(l,2):=by unfold apA;rw [if_neg (by rw [h];decide),if_pos h1]
theorem apA_nonce {e:Int} {l:List Ac} {t:Tx5} {k:Nat} (h:(lgB e l && txB t)=true) (h1:atA l t.2.1=(k:Int)) (h2:(l.getD k ac0).2.2.1 ≠ t.2.2.2.2):apA e l t=(l,3):=by
  unfold apA;rw [if_neg (by rw [h];decide),h1,if_neg (by omega),Int.toNat_natCast,if_pos h2]
theorem apA_short {e:Int} {l:List Ac} {t:Tx5} {k:Nat} (h:(lgB e l && txB t)=true) (h1:atA l t.2.1=(k:Int)) (h2:(l.getD k ac0).2.2.1=t.2.2.2.2) (h3:hasA t (l.getD k ac0) < t.2.2.2.1):apA e l t=(l,4):=by
  unfold apA;rw [if_neg (by rw [h];decide),h1,if_neg (by omega),Int.toNat_natCast,if_neg (by rw [h2];exact fun h=>h rfl),if_pos h3]
theorem apA_full {e:Int} {l:List Ac} {t:Tx5} {k:Nat} (h:(lgB e l && txB t)=true) (h1:atA l t.2.1=(k:Int)) (h2:(l.getD k ac0).2.2.1=t.2.2.2.2) (h3:¬ hasA t (l.getD k ac0) < t.2.2.2.1) (h4:lgB e (doA e t l k)=false):apA e l t=(l,5):=by
  unfold apA;rw [if_neg (by rw [h];decide),h1,if_neg (by omega),Int.toNat_natCast,if_neg (by rw [h2];exact fun h=>h rfl),if_neg h3,if_pos h4]
theorem apA_good {e:Int} {l:List Ac} {t:Tx5} {k:Nat} (h:(lgB e l && txB t)=true) (h1:atA l t.2.1=(k:Int)) (h2:(l.getD k ac0).2.2.1=t.2.2.2.2) (h3:¬ hasA t (l.getD k ac0) < t.2.2.2.1) (h4:lgB e (doA e t l k)=true):apA e l t=(doA e t l k,0):=by
  unfold apA;rw [if_neg (by rw [h];decide),h1,if_neg (by omega),Int.toNat_natCast,if_neg (by rw [h2];exact fun h=>h rfl),if_neg h3,if_neg (by rw [h4];decide)]
theorem at_cases (l:List Ac) (s:ByteArray):atA l s=-1\/∃ (k:Nat) (h:k < l.length),atA l s=(k:Int)/\l[k].1=s/\∀ j (hj:j < k),(l[j]'(by omega)).1 ≠ s:=by
  cases hg:getA s l with
  | none=>exact .inl (at_not hg)
  | some a =>
    obtain ⟨k,hk,h1,h2,h3,h4⟩:=at_get hg
    exact .inr ⟨k,hk,h1,by rw [h2];exact h3,h4⟩
theorem getD_at (l:List Ac) (k:Nat) (h:k < l.length):l.getD k ac0=l[k]:=by rw [List.getD_eq_getElem?_getD,List.getElem?_eq_getElem h];rfl
theorem amI_bd:∀ l:List (Int × Int),(∀ p ∈ l,0<=p.1/\p.1<=1000000)->0<=amI l/\amI l<=1000000 * (l.length:Int)
  | [],_=>by simp [amI]
  | p :: r,h=>by
    have h1:=h p List.mem_cons_self
    have h2:=amI_bd r (fun q hq=>h q (List.mem_cons_of_mem _ hq))
    simp only [amI,List.map_cons,List.sum_cons,List.length_cons] at h2 ⊢
    omega
theorem lvs_mem {l:List (Int × Int)} (h:lvsB l=true):∀ p ∈ l,1<=p.1/\p.1<=1000000:=by
  intro p hp
  obtain ⟨j,hj,rfl⟩:=List.mem_iff_getElem.1 hp
  unfold lvsB at h
  rw [List.all_eq_true] at h
  have:=h j (List.mem_range.2 hj)
  unfold lvAt at this
  rw [List.getD_eq_getElem?_getD,List.getElem?_eq_getElem hj] at this
  simp only [Bool.and_eq_true] at this
  have h1:=this.1
  unfold inB at h1
  simpa using h1
theorem ac_parts {a:Ac} (h:acB a=true):nmB a.1=true/\(0<=a.2.1/\a.2.1<=1000000)/\(0<=a.2.2.1/\a.2.2.1<=10000)/\(0<=a.2.2.2.1/\a.2.2.2.1<=1000000)/\a.2.2.2.2.length<=4/\lvsB a.2.2.2.2=true:=by
  unfold acB inB at h
  simpa only [Bool.and_eq_true,decide_eq_true_eq] using h
theorem ac_mk {a:Ac} (h:nmB a.1=true/\(0<=a.2.1/\a.2.1<=1000000)/\(0<=a.2.2.1/\a.2.2.1<=10000)/\(0<=a.2.2.2.1/\a.2.2.2.1<=1000000)/\a.2.2.2.2.length<=4/\lvsB a.2.2.2.2=true):acB a=true:=by
  unfold acB inB
  simpa only [Bool.and_eq_true,decide_eq_true_eq] using h
theorem ofI_bd {a:Ac} (h:acB a=true):0<=ofI a/\ofI a<=6000000:=by
  obtain ⟨-,h1,-,h2,h3,h4⟩:=ac_parts h
  have h5:=amI_bd a.2.2.2.2 (fun p hp=>by have:=lvs_mem h4 p hp;omega)
  unfold ofI
  omega
theorem wsI_bd:∀ l:List Ac,(∀ a ∈ l,acB a=true)->0<=wsI l/\wsI l<=6000000 * (l.length:Int)
  | [],_=>by simp [wsI]
  | a :: r,h=>by
    have h1:=ofI_bd (h a List.mem_cons_self)
    have h2:=wsI_bd r (fun q hq=>h q (List.mem_cons_of_mem _ hq))
    simp only [wsI,List.map_cons,List.sum_cons,List.length_cons] at h2 ⊢
    omega
theorem acs_all {l:List Ac} (h:acsB l=true):∀ a ∈ l,acB a=true:=by
  intro a ha
  obtain ⟨j,hj,rfl⟩:=List.mem_iff_getElem.1 ha
  exact acs_at h j hj
theorem acs_parts {l:List Ac} (h:acsB l=true):l.length<=12/\wealthA l<=1000000:=by
  unfold acsB at h
  simp only [Bool.and_eq_true,decide_eq_true_eq] at h
  exact h.2
theorem wealth_small {l:List Ac} (h:∀ a ∈ l,acB a=true) (hl:l.length<=12):wealthA l=wsI l:=by
  have h1:=wsI_bd l h
  rw [wealth_is]
  unfold wrap64
  omega
theorem wsI_set:∀ (l:List Ac) (k:Nat) (b:Ac) (h:k < l.length),wsI (l.set k b)=wsI l - ofI l[k]+ofI b
  | [],k,b,h=>by simp at h
  | x :: r,0,b,h=>by simp only [List.set_cons_zero,wsI,List.map_cons,List.sum_cons,List.getElem_cons_zero];omega
  | x :: r,k+1,b,h=>by
    have:=wsI_set r k b (by simpa using h)
    simp only [List.set_cons_succ,wsI,List.map_cons,List.sum_cons,List.getElem_cons_succ] at this ⊢
    omega
theorem acs_mk {l:List Ac} (h1:∀ a ∈ l,acB a=true) (h2:AscA l) (h3:l.length<=12) (h4:wsI l<=1000000):acsB l=true:=by
  rw [acs_yes l,decide_eq_true h3,decide_eq_true (by rw [wealth_small h1 h3];exact h4)]
  · rfl
  · intro j hj
    rw [acAt_eq l j l[j] hj rfl,h1 _ (List.getElem_mem _),Bool.true_and]
    by_cases h0:j=0
    · rw [decide_eq_true h0];rfl
    · have:=List.pairwise_iff_getElem.1 h2 (j - 1) j (by omega) hj (by omega)
      rw [getD_at l (j - 1) (by omega)]
      unfold Lt at this
      rw [this,Bool.or_true]
theorem ascA_set {l:List Ac} (h:AscA l) (k:Nat) (b:Ac) (hk:k < l.length) (hb:b.1=l[k].1):AscA (l.set k b):=by
  have hn:(l.set k b).map (·.1)=l.map (·.1):=by
    rw [List.map_set,hb]
    apply List.ext_getElem (by simp)
    intro i h1 h2
    simp only [List.getElem_set]
    split
    · rename_i e;subst e;simp
    · rfl
  have e:∀ m:List Ac,AscA m ↔ (m.map (·.1)).Pairwise Lt:=fun m=>by unfold AscA;rw [List.pairwise_map]
  rw [e,hn,<- e]
  exact h
theorem tx_parts {t:Tx5} (h:txB t=true):nmB t.2.1=true/\(1<=t.2.2.2.1/\t.2.2.2.1<=1000000)/\(t.1=1->nmB t.2.2.1=true)/\(t.1=1\/t.1=2\/t.1=3):=by
  unfold txB inB at h
  simp only [Bool.and_eq_true,decide_eq_true_eq] at h
  obtain ⟨h1,h2,h3,h4⟩:=h
  refine ⟨h1,h2,fun e=>by rw [if_pos e] at h4;exact h4,?_⟩
  split at h4
  · exact .inl ‹_›
  · simp only [Bool.and_eq_true,decide_eq_true_eq] at h4
    omega
theorem pay_full {e:Int} {l:List Ac} {t:Tx5} {k:Nat} (hl:lgB e l=true) (ht:txB t=true) (h1:t.1=1) (hk:k < l.length) (h3:t.2.2.2.1<=l[k].2.1) :
    (crA (l.set k (gvA e t l[k])) t.2.2.1 t.2.2.2.1).2=lgB e (doA e t l k)/\((crA (l.set k (gvA e t l[k])) t.2.2.1 t.2.2.2.1).2=true->(crA (l.set k (gvA e t l[k])) t.2.2.1 t.2.2.2.1).1=doA e t l k):=by
  have hac:acsB l=true:=by unfold lgB at hl;rw [Bool.and_eq_true] at hl;exact hl.2
  have hep:inB e 0 900=true:=by unfold lgB at hl;rw [Bool.and_eq_true] at hl;exact hl.1
  obtain ⟨-,hn,hto,-⟩:=tx_parts ht
  have hall:=acs_all hac
  have hasc:=asc_of_ok l hac
  obtain ⟨hlen,hw⟩:=acs_parts hac
  rw [wealth_small hall hlen] at hw
  have hkk:=hall l[k] (List.getElem_mem _)
  obtain ⟨p1,p2,p3,p4,p5,p6⟩:=ac_parts hkk
  have hg:gvA e t l[k]=(l[k].1,l[k].2.1 - t.2.2.2.1,l[k].2.2.1+1,l[k].2.2.2.1,l[k].2.2.2.2):=by
    unfold gvA
    rw [if_pos h1,show wrap64 (l[k].2.1 - t.2.2.2.1)=l[k].2.1 - t.2.2.2.1 from by unfold wrap64;omega,show wrap64 (l[k].2.2.1+1)=l[k].2.2.1+1 from by unfold wrap64;omega]
  have hd:doA e t l k=insA (aftA (l.set k (gvA e t l[k])) t.2.2.1 t.2.2.2.1) (l.set k (gvA e t l[k])):=by unfold doA;rw [if_pos h1,getD_at l k hk]
  have hasc':=ascA_set hasc k (gvA e t l[k]) hk (gvA_name _ _ _)
  have hnm:nmB t.2.2.1=true:=hto h1
  have hin:inB t.2.2.2.1 0 1000000=true:=by unfold inB;simp;omega
  have hlg:lgB e (doA e t l k)=acsB (doA e t l k):=by unfold lgB;rw [hep,Bool.true_and]
  rw [hlg,hd]
  by_cases hno:l[k].2.2.1+1<=10000
  · have hok:acsB (l.set k (gvA e t l[k]))=true:=by
      refine acs_mk ?_ hasc' (by simpa using hlen) ?_
      · intro a ha
        rcases List.mem_or_eq_of_mem_set ha with h | h
        · exact hall a h
        · subst h
          rw [hg]
          exact ac_mk ⟨p1,⟨by show 0<=l[k].2.1 - t.2.2.2.1;omega,by show l[k].2.1 - t.2.2.2.1<=1000000;omega⟩,⟨by show 0<=l[k].2.2.1+1;omega,hno⟩,p4,p5,p6⟩
      · rw [wsI_set l k _ hk,hg]
        unfold ofI
        show wsI l - (l[k].2.1+l[k].2.2.2.1+amI l[k].2.2.2.2)+(l[k].2.1 - t.2.2.2.1+l[k].2.2.2.1+amI l[k].2.2.2.2)<=1000000
        omega
    have hand:(acsB (l.set k (gvA e t l[k])) && nmB t.2.2.1 && inB t.2.2.2.1 0 1000000)=true:=by rw [hok,hnm,hin];rfl
    cases hx:acsB (insA (aftA (l.set k (gvA e t l[k])) t.2.2.1 t.2.2.2.1) (l.set k (gvA e t l[k])))
    · rw [crA_bad hand hx];exact ⟨rfl,fun h=>by cases h⟩
    · rw [crA_yes hand hx];exact ⟨rfl,fun _=>rfl⟩
  · have hbadk:∀ (a:Ac),a.2.2.1=l[k].2.2.1+1->acB a=false:=fun a ha=>by
      cases hb:acB a
      · rfl
      · have:=(ac_parts hb).2.2.1;omega
    have hbad:acsB (l.set k (gvA e t l[k]))=false:=by
      cases hb:acsB (l.set k (gvA e t l[k]))
      · rfl
      · have:=acs_all hb (gvA e t l[k]) (List.mem_iff_getElem.2 ⟨k,by simpa using hk,by simp⟩)
        rw [hbadk _ (by rw [hg])] at this
        cases this
    have hbad2:acsB (insA (aftA (l.set k (gvA e t l[k])) t.2.2.1 t.2.2.2.1) (l.set k (gvA e t l[k])))=false:=by
      cases hb:acsB (insA (aftA (l.set k (gvA e t l[k])) t.2.2.1 t.2.2.2.1) (l.set k (gvA e t l[k])))
      · rfl
      · have hgk:getA l[k].1 (l.set k (gvA e t l[k]))=some (gvA e t l[k]):=by
          have:=getA_at hasc' k (by simpa using hk)
          simpa [gvA_name] using this
        by_cases hs:t.2.2.1=l[k].1
        · have hm:=getA_some (getA_ins (aftA (l.set k (gvA e t l[k])) t.2.2.1 t.2.2.2.1) (l.set k (gvA e t l[k])))
          have:=acs_all hb _ hm.2
          rw [hbadk] at this
          · cases this
          · unfold aftA
            rw [hs,hgk,hg]
        · have hm:=getA_ins_other (aftA (l.set k (gvA e t l[k])) t.2.2.1 t.2.2.2.1) l[k].1 (by rw [aftA_name];exact fun h=>hs h.symm) (l.set k (gvA e t l[k]))
          rw [hgk] at hm
          have:=acs_all hb _ (getA_some hm).2
          rw [hbadk _ (by rw [hg])] at this
          cases this
    rw [crA_no (by rw [hbad];rfl),hbad2]
    exact ⟨rfl,fun h=>by cases h⟩
def frF (e z:Int) (l:List (Int × Int)):Int:=l.foldl (fun s x=>if x.2<=e then wrap64 (s+x.1) else s) z
def stL (e:Int) (l:List (Int × Int)):List (Int × Int):=l.filter (fun x=>decide (e < x.2))
theorem frF_snoc (e z:Int) (l:List (Int × Int)) (k:Nat) (h:k < l.length):frF e z (l.take (k+1))=if l[k].2<=e then wrap64 (frF e z (l.take k)+l[k].1) else frF e z (l.take k):=by
  unfold frF
  rw [List.take_succ_eq_append_getElem h,List.foldl_append]
  rfl
theorem stL_snoc (e:Int) (l:List (Int × Int)) (k:Nat) (h:k < l.length):stL e (l.take (k+1))=if l[k].2<=e then stL e (l.take k) else stL e (l.take k) ++ [l[k]]:=by
  unfold stL
  rw [List.take_succ_eq_append_getElem h,List.filter_append]
  by_cases hh:l[k].2<=e
  · rw [if_pos hh,List.filter_cons_of_neg (by simp;omega),List.filter_nil,List.append_nil]
  · rw [if_neg hh,List.filter_cons_of_pos (by simp;omega),List.filter_nil]
theorem stL_len (e:Int) (l:List (Int × Int)):(stL e l).length<=l.length:=List.length_filter_le _ _
def frA (e:Int) (a:Ac):Ac:=(a.1,frF e a.2.1 a.2.2.2.2,a.2.2.1,a.2.2.2.1,stL e a.2.2.2.2)
def neA (e:Int) (l:List Ac):Int × List Ac:=if (lgB e l && lgB (wrap64 (e+1)) (l.map (frA (wrap64 (e+1)))))=true then (wrap64 (e+1),l.map (frA (wrap64 (e+1)))) else (e,l)
theorem neA_old {e:Int} {l:List Ac} (h:lgB e l=false):neA e l=(e,l):=by unfold neA;rw [h];rfl
theorem neA_new {e:Int} {l:List Ac} (h:lgB (wrap64 (e+1)) (l.map (frA (wrap64 (e+1))))=false):neA e l=(e,l):=by unfold neA;rw [h,Bool.and_false];rfl
theorem neA_yes {e:Int} {l:List Ac} (h:lgB e l=true) (h':lgB (wrap64 (e+1)) (l.map (frA (wrap64 (e+1))))=true):neA e l=(wrap64 (e+1),l.map (frA (wrap64 (e+1)))):=by unfold neA;rw [h,h'];rfl
theorem frA_len (e:Int) (a:Ac):(frA e a).2.2.2.2.length<=a.2.2.2.2.length:=stL_len _ _
theorem fr_all (e:Int) (l:List Ac) (h:∀ a ∈ l,a.1.size<=maxLen/\a.2.2.2.2.length<=4000000):∀ a ∈ l.map (frA e),a.1.size<=maxLen/\a.2.2.2.2.length<=4000000:=by
  intro a ha
  obtain ⟨b,hb,rfl⟩:=List.mem_map.1 ha
  exact ⟨(h b hb).1,Nat.le_trans (frA_len e b) (h b hb).2⟩
def frK (e:Int) (l:List Ac) (k:Nat):List Ac:=(l.take k).map (frA e) ++ l.drop k
theorem frK_zero (e:Int) (l:List Ac):frK e l 0=l:=by simp [frK]
theorem frK_all (e:Int) (l:List Ac):frK e l l.length=l.map (frA e):=by simp [frK]
theorem frK_len (e:Int) (l:List Ac) (k:Nat):(frK e l k).length=l.length:=by simp [frK];omega
theorem frK_at (e:Int) (l:List Ac) (k:Nat) (h:k < l.length):(frK e l k)[k]'(by rw [frK_len];exact h)=l[k]:=by
  unfold frK
  rw [List.getElem_append_right (by simp;omega),List.getElem_drop]
  congr 1
  simp
  omega
theorem frK_next (e:Int) (l:List Ac) (k:Nat) (h:k < l.length):(frK e l k).set k (frA e l[k])=frK e l (k+1):=by
  unfold frK
  rw [List.take_succ_eq_append_getElem h,List.map_append,List.append_assoc,List.set_append_right _ _ (by simp;omega),show k - ((l.take k).map (frA e)).length=0 from by simp;omega,List.drop_eq_getElem_cons h]
  rfl
theorem acs_four {l:List Ac} (h:acsB l=true):∀ a ∈ l,a.2.2.2.2.length<=4:=by
  intro a ha
  obtain ⟨j,hj,rfl⟩:=List.mem_iff_getElem.1 ha
  unfold acsB at h
  rw [Bool.and_eq_true,List.all_eq_true] at h
  have:=h.1 j (List.mem_range.2 hj)
  rw [acAt_eq l j l[j] hj rfl,Bool.and_eq_true] at this
  have h2:=this.1
  unfold acB at h2
  simp only [Bool.and_eq_true,decide_eq_true_eq] at h2
  exact h2.2.2.2.2.1
theorem acs_len' {l:List Ac} (h:acsB l=true):l.length<=12:=by
  unfold acsB at h
  simp only [Bool.and_eq_true,decide_eq_true_eq] at h
  exact h.2.1
theorem lg_acs {e:Int} {l:List Ac} (h:lgB e l=true):acsB l=true:=by unfold lgB at h;rw [Bool.and_eq_true] at h;exact h.2
theorem neA_is (e:Int) (l:List Ac):(neA e l).2=l\/acsB (neA e l).2=true:=by
  unfold neA
  split
  · rename_i h
    rw [Bool.and_eq_true] at h
    exact .inr (lg_acs h.2)
  · exact .inl rfl
theorem OwnX.old {base hi:Nat} {w:World} {v:Value} {l:List Ac} (h:OwnX base hi w v l) {b:Nat} (hb:b < base) (j:Nat) (u:Value):OwnX base hi (w.setCell ⟨b,j,none⟩ u) v l :=
  h.btw (Btw.of_grown (lo:=0) (hi:=base) (grown_set w b j u) (fun k hk=>⟨Nat.zero_le _,by cases hk;exact hb⟩)) (.inr (Nat.le_refl _))
theorem apA_is (e:Int) (l:List Ac) (t:Tx5):(apA e l t).1=l\/acsB (apA e l t).1=true:=by
  unfold apA
  split
  · exact .inl rfl
  · split
    · exact .inl rfl
    · split
      · exact .inl rfl
      · split
        · exact .inl rfl
        · split
          · exact .inl rfl
          · rename_i h
            exact .inr (lg_acs (by simpa using h))
theorem app_ownLl {ops:Array Oper} {rest:List Oper} {o:Oper} {a:Act} {Q:Exit->Act->World->Prop} (w:World) (hgd:o.guard=none) (s x:Operand)
    (ho:o.op=.call { callee:=.builtin .append,args:=#[s,x],argTypes:=#[103,103] })
    (base:Nat) (v:Value) (B:Nat) (l:List (Int × Int)) (q:Int × Int) (hs:a.eval s=v) (hx:a.eval x=.slice (some ⟨B,0,none⟩) 1 1) (hown:OwnL base w v l) (hblk:Blk w B 107 (lvC q))
    (hlen:l.length<=100000000) (hbase:base<=w.heap.size)
    (h:∀ v' w',OwnL base w' v' (l ++ [q])->w.grownBy w' v.ownBlock->(v'.ownBlock=v.ownBlock\/v'.ownBlock=some w.heap.size)->wpList Tryz.prog ops Q rest (a.put o.dst v') w'):wpList Tryz.prog ops Q (o :: rest) a w:=by
  obtain ⟨i0,hi,hz0,hz1,hz2⟩:=info_parts Tryz.infoLv
  refine wpList_append_own_at w hgd s x 103 ho base 107 i0 (.agg #[.int .i64 0,.int .i64 0]) 2 16 Tryz.underlying103 hi hz0 hz1 hz2 rfl (by decide) v l.length (l.map lvC).flatten hs hown ⟨B,0,none⟩ 1 1 (lvC q) hx rfl ?_ ?_ (by unfold maxLen;omega) (by omega) hbase ?_
  · intro j u hj
    rw [add_flat,Nat.zero_add,hblk.cell j]
    exact hj
  · intro u hu
    simp only [lvC,List.mem_cons,List.not_mem_nil,or_false] at hu
    rcases hu with rfl | rfl <;> rfl
  · intro v' w' ho' hg hn hl
    refine h v' w' ?_ hg hl
    unfold OwnL
    rw [List.length_append,List.map_append,List.flatten_append]
    simpa using ho'
theorem fil_snoc (p:Int × Int->Bool) (l:List (Int × Int)) (k:Nat) (h:k < l.length):(l.take (k+1)).filter p=if p l[k]=true then (l.take k).filter p ++ [l[k]] else (l.take k).filter p:=by
  rw [List.take_succ_eq_append_getElem h,List.filter_append]
  by_cases hh:p l[k]=true
  · rw [if_pos hh,List.filter_cons_of_pos hh,List.filter_nil]
  · rw [if_neg hh,List.filter_cons_of_neg hh,List.filter_nil,List.append_nil]
theorem ahL_snoc (t:Int) (l:List (Int × Int)) (k:Nat) (h:k < l.length):ahL t (l.take (k+1))=if l[k].2 < t then ahL t (l.take k) ++ [l[k]] else ahL t (l.take k):=by
  unfold ahL
  rw [fil_snoc _ _ _ h]
  simp
theorem beL_snoc (t:Int) (l:List (Int × Int)) (k:Nat) (h:k < l.length):beL t (l.take (k+1))=if t < l[k].2 then beL t (l.take k) ++ [l[k]] else beL t (l.take k):=by
  unfold beL
  rw [fil_snoc _ _ _ h]
  simp
theorem amF_snoc (n t:Int) (l:List (Int × Int)) (k:Nat) (h:k < l.length):amF n t (l.take (k+1))=if l[k].2=t then wrap64 (amF n t (l.take k)+l[k].1) else amF n t (l.take k):=by
  unfold amF
  rw [List.take_succ_eq_append_getElem h,List.foldl_append]
  rfl
theorem ahL_len (t:Int) (l:List (Int × Int)):(ahL t l).length<=l.length:=List.length_filter_le _ _
theorem beL_len (t:Int) (l:List (Int × Int)):(beL t l).length<=l.length:=List.length_filter_le _ _
theorem implWithLeave_any (v:Value) (l:List (Int × Int)) (n t:Int) (w:World) (hr:RdL w v l) (hl:l.length<=4000000) :
    Calls Tryz.prog 165 #[v,.agg #[.int .i64 n,.int .i64 t]] w fun en w'=>∃ v',en=.returned v'/\OwnL w.heap.size w' v' (wlP n t l)/\Below w.heap.size w w':=by
  obtain ⟨av,cv,rfl⟩:=hr.shape
  have Hr:=hide hr
  have Hb1:Hid (Below w.heap.size w (w.alloc (.cells #[.int .i64 n,.int .i64 t] 107))):=hide ((Below.refl _ w).alloc (Nat.le_refl _) _)
  have K1:Hid (Blk (w.alloc (.cells #[.int .i64 n,.int .i64 t] 107)) w.heap.size 107 [.int .i64 n,.int .i64 t]):=hide (Blk.new w _ _)
  clear hr
  go_enter Tryz.func165,Tryz.ntmps165
  go_wp2
  go_loopw [5,6,11] (fun ahv bev iv wr=>∃ k:Nat,k<=l.length/\iv=.int .i64 (k:Int)/\OwnL (w.heap.size+1) wr ahv (ahL t (l.take k))/\OwnL (w.heap.size+1) wr bev (beL t (l.take k))/\(∀ j,ahv.ownBlock=some j->bev.ownBlock ≠ some j)/\Blk wr w.heap.size 107 [.int .i64 (amF n t (l.take k)),.int .i64 t]/\Below w.heap.size w wr) (fun _ _ iv _=>l.length - (intOf iv).toNat)
  case atStart=>exact ⟨0,by omega,rfl,own_noneL _ _,own_noneL _ _,fun j hj=>by simp [Value.ownBlock] at hj,K1.out,Hb1.out⟩
  case round =>
    obtain ⟨k,hk,rfl,ha,he,hap,j1,hb⟩:=hrel
    clear K1 Hb1
    have hbs:=hb.size
    have hjl:=j1.lt
    by_cases hlt:k < l.length
    · obtain ⟨b,off,rfl,hc1,hc2,hbw,e0,e1⟩:=Hr.out.at hlt
      have f0:=(hb.cell (p:=⟨b,off+k * 2,none⟩) hbw).trans e0
      have f1:=(hb.cell (p:=⟨b,off+k * 2+1,none⟩) hbw).trans e1
      have HA:=hide (ahL_snoc t l k hlt)
      have HE:=hide (beL_snoc t l k hlt)
      have HM:=hide (amF_snoc n t l k hlt)
      have hal:=ahL_len t (l.take k)
      have hel:=beL_len t (l.take k)
      have htl:(l.take k).length<=k:=by simp;omega
      generalize l[k]=x at f0 f1 e0 e1 HA HE HM
      obtain ⟨xa,xt⟩:=x
      simp only at f0 f1 HA HE HM
      have hli:(k:Int) < (l.length:Int):=by omega
      obtain ⟨w3,hw3⟩:∃ w3,wr.alloc (.cells #[.int .i64 xa,.int .i64 xt] 107)=w3:=⟨_,rfl⟩
      have hb3:Below w.heap.size w w3:=by rw [<- hw3];exact hb.alloc hbs _
      have ha3:OwnL (w.heap.size+1) w3 u5 (ahL t (l.take k)):=by rw [<- hw3];exact ha.alloc _
      have he3:OwnL (w.heap.size+1) w3 u6 (beL t (l.take k)):=by rw [<- hw3];exact he.alloc _
      have m1:Blk w3 w.heap.size 107 [.int .i64 (amF n t (l.take k)),.int .i64 t]:=by rw [<- hw3];exact j1.alloc _
      have m3:Blk w3 wr.heap.size 107 [.int .i64 xa,.int .i64 xt]:=by rw [<- hw3];exact Blk.new wr _ _
      have hs3:w3.heap.size=wr.heap.size+1:=by rw [<- hw3];simp
      have d0:=m1.cell 0
      have d1:=m1.cell 1
      have q0:=m1.frozen 0
      have x0:=m3.cell 0
      have x1:=m3.cell 1
      simp only [List.getElem?_cons_zero,List.getElem?_cons_succ] at d0 d1 x0 x1
      have Ha:=hide ha3
      have He:=hide he3
      have Hb:=hide hb3
      have J1:=hide m1
      have Hap:=hide hap
      have ha_lt:=ha.lt
      have he_lt:=he.lt
      clear e0 e1 ha he hb j1 m1 m3 ha3 he3 hb3 hap
      by_cases h1:xt < t
      · rw [if_pos h1] at HA
        rw [if_neg (by omega)] at HE HM
        go_wp2_with (at_builtin;refine app_ownLl _ rfl _ _ rfl (w.heap.size+1) _ _ (ahL t (l.take k)) (xa,xt) rfl rfl (Ha.out.alloc _) (Blk.new' _ _ (lvC (xa,xt)) _ (by first | rfl | omega)) (by omega) (by first | omega | (simp;omega)) ?_;intro v1 w1 ho1 hg1 hlo1)
        have HB:=hide ((Hb.out.alloc (by omega) (.cells #[.int .i64 xa,.int .i64 xt] 107)).grown hg1 (by simp;omega) (fun k hk=>by have:=Ha.out.ge k hk;omega))
        go_roundw
        case rel =>
          refine ⟨k+1,by omega,by go_num,?_,?_,?_,?_,HB.out⟩
          · rw [HA.out];exact ho1
          · rw [HE.out];exact (He.out.alloc _).kept hg1 (by cases hq:u6.ownBlock with | none=>exact .inl rfl | some j=>exact .inr (fun e=>Hap.out j e.symm hq))
          · intro j hj e
            rcases hlo1 with h | h
            · exact Hap.out j (h ▸ hj) e
            · have:=he_lt j e
              rw [h] at hj
              simp at hj
              omega
          · rw [HM.out];exact (J1.out.alloc _).kept' hg1 (fun e=>by have:=Ha.out.ge _ e.symm;omega)
        case measure=>simp [intOf];omega
      · by_cases h2:t < xt
        · rw [if_neg h1] at HA
          rw [if_pos h2] at HE
          rw [if_neg (by omega)] at HM
          go_wp2_with (at_builtin;refine app_ownLl _ rfl _ _ rfl (w.heap.size+1) _ _ (beL t (l.take k)) (xa,xt) rfl rfl (He.out.alloc _) (Blk.new' _ _ (lvC (xa,xt)) _ (by first | rfl | omega)) (by omega) (by first | omega | (simp;omega)) ?_;intro v1 w1 ho1 hg1 hlo1)
          have HB:=hide ((Hb.out.alloc (by omega) (.cells #[.int .i64 xa,.int .i64 xt] 107)).grown hg1 (by simp;omega) (fun k hk=>by have:=He.out.ge k hk;omega))
          go_roundw
          case rel =>
            refine ⟨k+1,by omega,by go_num,?_,?_,?_,?_,HB.out⟩
            · rw [HA.out];exact (Ha.out.alloc _).kept hg1 (by cases hq:u5.ownBlock with | none=>exact .inl rfl | some j=>exact .inr (fun e=>Hap.out j hq e.symm))
            · rw [HE.out];exact ho1
            · intro j hj e
              rcases hlo1 with h | h
              · exact Hap.out j hj (h ▸ e)
              · have:=ha_lt j hj
                rw [h] at e
                simp at e
                omega
            · rw [HM.out];exact (J1.out.alloc _).kept' hg1 (fun e=>by have:=He.out.ge _ e.symm;omega)
          case measure=>simp [intOf];omega
        · have h3:xt=t:=by omega
          rw [if_neg h1] at HA
          rw [if_neg h2] at HE
          rw [if_pos h3] at HM
          clear h3
          go_wp2
          go_roundw
          case rel =>
            refine ⟨k+1,by omega,by go_num,?_,?_,Hap.out,?_,?_⟩
            · rw [HA.out];exact row_set Ha.out _ _ _ (fun j hj=>by have:=Ha.out.ge j hj;omega)
            · rw [HE.out];exact row_set He.out _ _ _ (fun j hj=>by have:=He.out.ge j hj;omega)
            · rw [HM.out];exact J1.out.set 0 _
            · exact Hb.out.setCell (p:=⟨w.heap.size,0,none⟩) (Nat.le_refl _) _
          case measure=>simp [intOf];omega
    · have ek:k=l.length:=by omega
      subst ek
      rw [List.take_length] at ha he j1
      have d0:=j1.cell 0
      have d1:=j1.cell 1
      simp only [List.getElem?_cons_zero,List.getElem?_cons_succ] at d0 d1
      have hal:=ahL_len t l
      have hel:=beL_len t l
      have Ha:=hide ha
      have He:=hide he
      have Hb:=hide hb
      have Hap:=hide hap
      have he_lt:=he.lt
      have HW:Hid (wlP n t l=(ahL t l ++ [(amF n t l,t)]) ++ beL t l):=hide (by unfold wlP;simp)
      clear ha he hb hap j1
      go_wp2_with (first
        | (at_builtin;refine app_ownLg _ rfl _ _ rfl (w.heap.size+1) _ _ (ahL t l ++ [(amF n t l,t)]) (beL t l) rfl rfl ho1 he1.rd (by simp;omega) (by omega) ?_;intro v2 w2 ho2 hg2)
        | (at_builtin;refine app_ownLl _ rfl _ _ rfl (w.heap.size+1) _ _ (ahL t l) (amF n t l,t) rfl rfl (Ha.out.alloc _) (Blk.new' _ _ (lvC (amF n t l,t)) _ (by first | rfl | omega)) (by omega) (by first | omega | (simp;omega)) ?_;intro v1 w1 ho1 hg1 hlo1;have he1:=(He.out.alloc (.cells #[.int .i64 (amF n t l),.int .i64 t] 107)).kept hg1 (by cases hq:u6.ownBlock with | none=>exact .inl rfl | some j=>exact .inr (fun e=>Hap.out j e.symm hq));have hz1:=hg1.size;simp only [World.size_alloc] at hz1))
      have HB1:=hide ((Hb.out.alloc hbs (.cells #[.int .i64 (amF n t l),.int .i64 t] 107)).grown hg1 (by simp;omega) (fun k hk=>by have:=Ha.out.ge k hk;omega))
      have HB2:=hide (HB1.out.grown hg2 (by omega) (fun k hk=>by have:=ho1.ge k hk;omega))
      go_ret
      exact ⟨v2,rfl,by rw [HW.out];exact ho2.mono (by omega),HB2.out⟩
end Go.Proofs.YtohachldbpejpaaGreatDoor
