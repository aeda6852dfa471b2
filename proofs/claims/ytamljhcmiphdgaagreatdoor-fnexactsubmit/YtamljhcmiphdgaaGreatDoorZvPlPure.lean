/- Pools plainly. -/
import Derived.Test.YtamljhcmiphdgaaGreatDoorZvAcMem
import Derived.Sort.Walk0
namespace Go.Proofs.YtamljhcmiphdgaaGreatDoor
open Go.RowKit
set_option linter.unusedVariables false
theorem bn_ (s t:ByteArray) (h:Op.bytesLess s.toList t.toList=true):Op.bytesLess t.toList s.toList=false:=by
 rw [Go.Proofs.bytesLess_eq,decide_eq_true_iff] at h
 rw [Go.Proofs.bytesLess_eq,decide_eq_false_iff_not]
 exact fun h'=>List.lt_irrefl _ (List.lt_trans h h')
theorem fL_ (s t:ByteArray) (hn:s ≠ t) (h:Op.bytesLess s.toList t.toList=false):Op.bytesLess t.toList s.toList=true:=by
 rw [Go.Proofs.bytesLess_eq,decide_eq_false_iff_not] at h
 rw [Go.Proofs.bytesLess_eq,decide_eq_true_iff]
 by_cases h':t.toList < s.toList
 ·exact h'
 ·have e:=List.le_antisymm (List.not_lt.1 h') (List.not_lt.1 h)
  rw [ByteArray.toList_eq,ByteArray.toList_eq] at e
  exact absurd (ByteArray.ext (Array.toList_inj.1 e)) hn
theorem ja_ (a b:Tx5):lessT b a=(decide (a ≠ b) && !lessT a b)/\(a=b->lessT a b=false):=by
 obtain ⟨k1,f1,t1,m1,n1⟩:=a
 obtain ⟨k2,f2,t2,m2,n2⟩:=b
 by_cases h1:f1=f2
 ·subst h1
  by_cases h2:n1=n2
  ·subst h2
   by_cases h3:k1=k2
   ·subst h3
    by_cases h4:t1=t2
    ·subst h4
     by_cases h5:m1=m2
     ·subst h5;simp [lessT]
     ·simp [lessT,h5];rw [Bool.eq_iff_iff];simp;omega
    ·have h4':t2 ≠ t1:=fun e=>h4 e.symm
     simp [lessT,h4,h4']
     cases hb:Op.bytesLess t1.toList t2.toList
     ·simp [fL_ _ _ h4 hb]
     ·simp [bn_ _ _ hb]
   ·have h3':k2 ≠ k1:=fun e=>h3 e.symm
    simp [lessT,h3,h3'];rw [Bool.eq_iff_iff];simp;omega
  ·have h2':n2 ≠ n1:=fun e=>h2 e.symm
   simp [lessT,h2,h2'];rw [Bool.eq_iff_iff];simp;omega
 ·have h1':f2 ≠ f1:=fun e=>h1 e.symm
  simp [lessT,h1,h1']
  cases hb:Op.bytesLess f1.toList f2.toList
  ·simp [fL_ _ _ h1 hb]
  ·simp [bn_ _ _ hb]
theorem ip_ {s t u:ByteArray} (h:Op.bytesLess s.toList t.toList=true) (h':Op.bytesLess t.toList u.toList=true):Op.bytesLess s.toList u.toList=true:=by
 rw [Go.Proofs.bytesLess_eq,decide_eq_true_iff] at *
 exact List.lt_trans h h'
theorem blt_ne {s t:ByteArray} (h:Op.bytesLess s.toList t.toList=true):s ≠ t:=fun e=>by
 subst e
 have:=bn_ _ _ h
 rw [h] at this
 cases this
theorem jo_ (k1 k2 m1 m2 n1 n2:Int) (f1 f2 t1 t2:ByteArray):lessT (k1,f1,t1,m1,n1) (k2,f2,t2,m2,n2)=true ↔
  (Op.bytesLess f1.toList f2.toList=true\/f1=f2/\(n1 < n2\/n1=n2/\(k1 < k2\/k1=k2/\(Op.bytesLess t1.toList t2.toList=true\/t1=t2/\m1 < m2)))):=by
 have hno:∀ s:ByteArray,¬ Op.bytesLess s.toList s.toList=true:=fun s h=>blt_ne h rfl
 by_cases h1:f1=f2
 ·subst h1
  by_cases h2:n1=n2
  ·subst h2
   by_cases h3:k1=k2
   ·subst h3
    by_cases h4:t1=t2
    ·subst h4;simp [lessT,hno]
    ·simp [lessT,h4,hno]
   ·simp [lessT,h3,hno]
  ·simp [lessT,h2,hno]
 ·simp [lessT,h1]
theorem jQ_ {a b c:Tx5} (h:lessT a b=true) (h':lessT b c=true):lessT a c=true:=by
 obtain ⟨k1,f1,t1,m1,n1⟩:=a
 obtain ⟨k2,f2,t2,m2,n2⟩:=b
 obtain ⟨k3,f3,t3,m3,n3⟩:=c
 rw [jo_] at *
 rcases h with h | ⟨rfl,h⟩
 ·rcases h' with h' | ⟨rfl,h'⟩
  ·exact .inl (ip_ h h')
  ·exact .inl h
 ·rcases h' with h' | ⟨rfl,h'⟩
  ·exact .inl h'
  ·refine .inr ⟨rfl,?_⟩
   rcases h with h | ⟨rfl,h⟩
   ·rcases h' with h' | ⟨rfl,h'⟩
    ·exact .inl (by omega)
    ·exact .inl h
   ·rcases h' with h' | ⟨rfl,h'⟩
    ·exact .inl h'
    ·refine .inr ⟨rfl,?_⟩
     rcases h with h | ⟨rfl,h⟩
     ·rcases h' with h' | ⟨rfl,h'⟩
      ·exact .inl (by omega)
      ·exact .inl h
     ·rcases h' with h' | ⟨rfl,h'⟩
      ·exact .inl h'
      ·refine .inr ⟨rfl,?_⟩
       rcases h with h | ⟨rfl,h⟩
       ·rcases h' with h' | ⟨rfl,h'⟩
        ·exact .inl (ip_ h h')
        ·exact .inl h
       ·rcases h' with h' | ⟨rfl,h'⟩
        ·exact .inl h'
        ·exact .inr ⟨rfl,by omega⟩
theorem fX_ {a b:Tx5} (h:lessT a b=true):lessT b a=false:=by
 rw [(ja_ a b).1,h];simp
def tx0:Tx5:=(0,ByteArray.empty,ByteArray.empty,0,0)
def poAt (l:List Tx5) (i:Nat):Bool:=txB (l.getD i tx0) && (decide (i=0) || lessT (l.getD (i - 1) tx0) (l.getD i tx0))
def poolB (l:List Tx5):Bool:=(List.range l.length).all (poAt l) && decide (l.length<=20)
theorem he_ (l:List Tx5) (k:Nat) (h:k < l.length) (hk:poAt l k=false):poolB l=false:=by
 unfold poolB
 have:(List.range l.length).all (poAt l)=false:=by
  rw [List.all_eq_false]
  exact ⟨k,List.mem_range.2 h,by simp [hk]⟩
 rw [this,Bool.false_and]
theorem fm_ (l:List Tx5) (h:∀ j,j < l.length->poAt l j=true):poolB l=decide (l.length<=20):=by
 unfold poolB
 have:(List.range l.length).all (poAt l)=true:=by
  rw [List.all_eq_true]
  exact fun j hj=>h j (List.mem_range.1 hj)
 rw [this,Bool.true_and]
theorem U_ {l:List Tx5} {i:Nat} (h:i < l.length):l.getD i tx0=l[i]:=by
 rw [List.getD_eq_getElem?_getD,List.getElem?_eq_getElem h];rfl
theorem ca_ (l:List Tx5) (k:Nat) (a:Tx5) (h:k < l.length) (ha:l[k]=a):poAt l k=(txB a && (decide (k=0) || lessT (l.getD (k - 1) tx0) a)):=by
 unfold poAt;rw [U_ h,ha]
theorem fA_ (l:List Tx5):poolB l=true ↔ (∀ x ∈ l,txB x=true)/\l.Pairwise (fun a b=>lessT a b=true)/\l.length<=20:=by
 unfold poolB
 rw [Bool.and_eq_true,List.all_eq_true,decide_eq_true_iff]
 constructor
 ·rintro ⟨h,hl⟩
  have hat:∀ k (hk:k < l.length),txB l[k]=true/\(k=0\/lessT (l.getD (k - 1) tx0) l[k]=true):=fun k hk=>by
   have:=h k (List.mem_range.2 hk)
   rw [ca_ l k l[k] hk rfl] at this
   simpa using this
  refine ⟨fun x hx=>?_,?_,hl⟩
  ·obtain ⟨i,hi,rfl⟩:=List.mem_iff_getElem.1 hx
   exact (hat i hi).1
  ·rw [List.pairwise_iff_getElem]
   intro i j hi hj hij
   obtain ⟨d,rfl⟩:∃ d,j=i+1+d:=⟨j - i - 1,by omega⟩
   clear hij
   induction d with
   | zero =>
    have:=(hat (i+1) hj).2
    rcases this with h0 | h0
    ·omega
    ·rw [Nat.add_sub_cancel,U_ hi] at h0;exact h0
   | succ d ih =>
    have h1:=ih (by omega)
    have:=(hat (i+1+(d+1)) hj).2
    rcases this with h0 | h0
    ·omega
    ·rw [show i+1+(d+1) - 1=i+1+d by omega,U_ (show i+1+d < l.length by omega)] at h0
     exact jQ_ h1 h0
 ·rintro ⟨h1,h2,hl⟩
  refine ⟨fun k hk=>?_,hl⟩
  have hk:=List.mem_range.1 hk
  rw [ca_ l k l[k] hk rfl,h1 _ (List.getElem_mem hk),Bool.true_and]
  by_cases h0:k=0
  ·simp [h0]
  ·rw [U_ (show k - 1 < l.length by omega),List.pairwise_iff_getElem.1 h2 (k - 1) k (by omega) hk (by omega)]
   simp
def insT (k:Nat) (t:Tx5) (l:List Tx5):List Tx5:=l.take k ++ t :: l.drop k
theorem am_ {k:Nat} {t:Tx5} {l:List Tx5}:(insT k t l).length=l.length+1:=by
 unfold insT
 rw [List.length_append,List.length_cons,List.length_take,List.length_drop];omega
theorem bj_ {k:Nat} {t x:Tx5} {l:List Tx5}:x ∈ insT k t l ↔ x=t\/x ∈ l:=by
 unfold insT
 rw [List.mem_append,List.mem_cons]
 constructor
 ·rintro (h | h | h)
  ·exact .inr (List.mem_of_mem_take h)
  ·exact .inl h
  ·exact .inr (List.mem_of_mem_drop h)
 ·rintro (h | h)
  ·exact .inr (.inl h)
  ·rw [<- List.take_append_drop k l,List.mem_append] at h
   rcases h with h | h
   ·exact .inl h
   ·exact .inr (.inr h)
def buT (l:List Tx5) (t:Tx5):Nat->Nat
 | 0=>0
 | n+1=>if lessT t (l.getD n tx0)=true then buT l t n else n+1
theorem iU_ (l:List Tx5) (t:Tx5):∀ n,buT l t n<=n
 | 0=>nr_ _
 | n+1=>by
  unfold buT
  split
  ·have:=iU_ l t n;omega
  ·exact nr_ _
def poS (l:List Tx5) (t:Tx5):List Tx5 × Bool:=if (poolB l && poolB (insT (buT l t l.length) t l))=true then (insT (buT l t l.length) t l,true) else (l,false)
def Plc (l:List Tx5) (t:Tx5) (k:Nat):Prop:=k<=l.length/\(k=0\/lessT (l.getD (k - 1) tx0) t=true)/\(k=l.length\/lessT (l.getD k tx0) t=false)
theorem gf_ {l:List Tx5} {t:Tx5} {k:Nat} (h:poolB (insT k t l)=true):poolB l=true/\txB t=true/\(∀ i (hi:i < l.length),i < k->lessT l[i] t=true)/\∀ i (hi:i < l.length),k<=i->lessT t l[i]=true:=by
 obtain ⟨h1,h2,h3⟩:=(fA_ _).1 h
 rw [am_] at h3
 unfold insT at h2
 rw [List.pairwise_append] at h2
 obtain ⟨p1,p2,p3⟩:=h2
 rw [List.pairwise_cons] at p2
 obtain ⟨p4,p5⟩:=p2
 refine ⟨(fA_ l).2 ⟨fun x hx=>h1 x (bj_.2 (.inr hx)),?_,by omega⟩,h1 t (bj_.2 (.inl rfl)),fun i hi hik=>?_,fun i hi hik=>?_⟩
 ·rw [<- List.take_append_drop k l,List.pairwise_append]
  exact ⟨p1,p5,fun a ha b hb=>p3 a ha b (List.mem_cons_of_mem _ hb)⟩
 ·exact p3 l[i] (List.mem_take_iff_getElem.2 ⟨i,by omega,rfl⟩) t List.mem_cons_self
 ·exact p4 l[i] (List.mem_drop_iff_getElem.2 ⟨i - k,by omega,by congr 1;omega⟩)
theorem js_ {l:List Tx5} {t:Tx5} {k:Nat} (h1:∀ i (hi:i < l.length),i < k->lessT l[i] t=true) (h2:∀ i (hi:i < l.length),k<=i->lessT t l[i]=true):∀ n,n<=l.length->k<=n->buT l t n=k
 | 0,_,hk=>by unfold buT;omega
 | n + 1,hn,hk=>by
  unfold buT
  rw [U_ (show n < l.length by omega)]
  by_cases h:k<=n
  ·rw [if_pos (h2 n (by omega) h)]
   exact js_ h1 h2 n (by omega) h
  ·have h3:=fX_ (h1 n (by omega) (by omega))
   rw [h3,if_neg (by simp)]
   omega
theorem plc_is {l:List Tx5} {t:Tx5} {k b:Nat} (hp:Plc l t k) (hb:b<=l.length) (h1:∀ i (hi:i < l.length),i < b->lessT l[i] t=true) (h2:∀ i (hi:i < l.length),b<=i->lessT t l[i]=true):k=b:=by
 obtain ⟨hk,ha,hc⟩:=hp
 rcases Nat.lt_trichotomy k b with h | h | h
 ·rcases hc with hc | hc
  ·omega
  ·rw [U_ (show k < l.length by omega),h1 k (by omega) h] at hc;cases hc
 ·exact h
 ·rcases ha with ha | ha
  ·omega
  ·rw [U_ (show k - 1 < l.length by omega)] at ha
   have:=fX_ (h2 (k - 1) (by omega) (by omega))
   rw [ha] at this;cases this
theorem kA_ {l:List Tx5} {t:Tx5} {k:Nat} (hp:Plc l t k):(if poolB (insT k t l)=true then (insT k t l,true) else (l,false))=poS l t:=by
 unfold poS
 by_cases hF:poolB (insT k t l)=true
 ·obtain ⟨h1,h2,h3,h4⟩:=gf_ hF
  rw [if_pos hF,js_ h3 h4 l.length (nr_ _) hp.1,h1,hF,Bool.and_self,if_pos rfl]
 ·rw [if_neg hF]
  by_cases hS:poolB (insT (buT l t l.length) t l)=true
  ·obtain ⟨h1,h2,h3,h4⟩:=gf_ hS
   have e:=plc_is hp (iU_ l t l.length) h3 h4
   rw [e] at hF
   exact absurd hS hF
  ·have:poolB (insT (buT l t l.length) t l)=false:=by simpa using hS
   rw [this,Bool.and_false,if_neg (by simp)]
end Go.Proofs.YtamljhcmiphdgaaGreatDoor
