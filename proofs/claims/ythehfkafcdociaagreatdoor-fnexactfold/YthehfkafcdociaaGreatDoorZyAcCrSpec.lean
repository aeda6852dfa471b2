/- The model's Credit. -/
import Derived.Test.YthehfkafcdociaaGreatDoorZyAcApp
import Derived.Sort.Walk0
set_option maxRecDepth 20000
set_option maxHeartbeats 2000000
namespace Go.Proofs.YthehfkafcdociaaGreatDoor
open Go.RowKit
set_option linter.unusedVariables false
def Lt (s t:ByteArray):Prop:=Op.bytesLess s.toList t.toList=true
theorem lt_iff (s t:ByteArray):Lt s t ↔ s.toList < t.toList:=by unfold Lt;rw [Go.Proofs.bytesLess_eq,decide_eq_true_iff]
theorem lt_no (s:ByteArray):¬ Lt s s:=fun h=>List.lt_irrefl _ ((lt_iff _ _).1 h)
theorem lt_tr {s t u:ByteArray} (h:Lt s t) (h':Lt t u):Lt s u:=(lt_iff _ _).2 (List.lt_trans ((lt_iff _ _).1 h) ((lt_iff _ _).1 h'))
theorem lt_as {s t:ByteArray} (h:Lt s t):¬ Lt t s:=fun h'=>lt_no _ (lt_tr h h')
theorem toList_inj' {s t:ByteArray} (h:s.toList=t.toList):s=t:=by
  rw [ByteArray.toList_eq,ByteArray.toList_eq] at h
  exact ByteArray.ext (Array.toList_inj.1 h)
theorem lt_or {s t:ByteArray} (h:¬ Lt s t) (hn:s ≠ t):Lt t s:=by
  rw [lt_iff] at h ⊢
  by_cases h':t.toList < s.toList
  · exact h'
  · exact absurd (toList_inj' (List.le_antisymm (List.not_lt.1 h') (List.not_lt.1 h))) hn
theorem lt_false {s t:ByteArray} (h:¬ Lt s t):Op.bytesLess s.toList t.toList=false:=by unfold Lt at h;simpa using h
variable {β:Type}
def Asc (Z:List (Ac × β)):Prop:=Z.Pairwise (fun x y=>Lt x.1.1 y.1.1)
def insZ (q:Ac × β):List (Ac × β)->List (Ac × β)
  | []=>[q]
  | x :: t=>if Op.bytesLess x.1.1.toList q.1.1.toList=true then x :: insZ q t else if x.1.1=q.1.1 then q :: t else q :: x :: t
def insA (a:Ac):List Ac->List Ac
  | []=>[a]
  | x :: t=>if Op.bytesLess x.1.toList a.1.toList=true then x :: insA a t else if x.1=a.1 then a :: t else a :: x :: t
theorem insZ_lt {q x:Ac × β} {t:List (Ac × β)} (h:Lt x.1.1 q.1.1):insZ q (x :: t)=x :: insZ q t:=by rw [insZ];exact if_pos h
theorem insZ_eq {q x:Ac × β} {t:List (Ac × β)} (h:x.1.1=q.1.1):insZ q (x :: t)=q :: t:=by
  rw [insZ,if_pos h]
  exact if_neg (show ¬ Lt x.1.1 q.1.1 from by rw [h];exact lt_no _)
theorem insZ_gt {q x:Ac × β} {t:List (Ac × β)} (h:Lt q.1.1 x.1.1):insZ q (x :: t)=q :: x :: t:=by
  rw [insZ,if_neg (show ¬ x.1.1=q.1.1 from fun e=>by rw [e] at h;exact lt_no _ h)]
  exact if_neg (lt_as h)
theorem insA_lt {q x:Ac} {t:List Ac} (h:Lt x.1 q.1):insA q (x :: t)=x :: insA q t:=by rw [insA];exact if_pos h
theorem insA_eq {q x:Ac} {t:List Ac} (h:x.1=q.1):insA q (x :: t)=q :: t:=by
  rw [insA,if_pos h]
  exact if_neg (show ¬ Lt x.1 q.1 from by rw [h];exact lt_no _)
theorem insA_gt {q x:Ac} {t:List Ac} (h:Lt q.1 x.1):insA q (x :: t)=q :: x :: t:=by
  rw [insA,if_neg (show ¬ x.1=q.1 from fun e=>by rw [e] at h;exact lt_no _ h)]
  exact if_neg (lt_as h)
theorem insZ_fst (q:Ac × β):∀ Z:List (Ac × β),(insZ q Z).map (·.1)=insA q.1 (Z.map (·.1))
  | []=>rfl
  | x :: t=>by
    unfold insZ insA
    simp only [List.map_cons]
    split
    · rw [List.map_cons,insZ_fst q t]
    · split <;> rfl
theorem insZ_mem (q:Ac × β):∀ (Z:List (Ac × β)) (p:Ac × β),p ∈ insZ q Z->p=q\/p ∈ Z
  | [],p,h=>by simp [insZ] at h;exact .inl h
  | x :: t,p,h=>by
    unfold insZ at h
    split at h
    · rcases List.mem_cons.1 h with rfl | h
      · exact .inr List.mem_cons_self
      · rcases insZ_mem q t p h with h | h
        · exact .inl h
        · exact .inr (List.mem_cons_of_mem _ h)
    · split at h
      · rcases List.mem_cons.1 h with rfl | h
        · exact .inl rfl
        · exact .inr (List.mem_cons_of_mem _ h)
      · rcases List.mem_cons.1 h with rfl | h
        · exact .inl rfl
        · exact .inr h
theorem insZ_asc (q:Ac × β):∀ Z:List (Ac × β),Asc Z->Asc (insZ q Z)
  | [],_=>by simp [insZ,Asc]
  | x :: t,h=>by
    obtain ⟨h1,h2⟩:=List.pairwise_cons.1 h
    unfold insZ
    split
    · rename_i hl
      refine List.pairwise_cons.2 ⟨fun y hy=>?_,insZ_asc q t h2⟩
      rcases insZ_mem q t y hy with rfl | hy
      · exact hl
      · exact h1 y hy
    · rename_i hl
      split
      · rename_i he
        refine List.pairwise_cons.2 ⟨fun y hy=>?_,h2⟩
        rw [<- he];exact h1 y hy
      · rename_i he
        have hlt:Lt q.1.1 x.1.1:=lt_or hl he
        refine List.pairwise_cons.2 ⟨fun y hy=>?_,h⟩
        rcases List.mem_cons.1 hy with rfl | hy
        · exact hlt
        · exact lt_tr hlt (h1 y hy)
def getZ (s:ByteArray):List (Ac × β)->Option (Ac × β)
  | []=>none
  | x :: t=>if x.1.1=s then some x else getZ s t
def getA (s:ByteArray):List Ac->Option Ac
  | []=>none
  | x :: t=>if x.1=s then some x else getA s t
theorem getZ_fst (s:ByteArray):∀ Z:List (Ac × β),(getZ s Z).map (·.1)=getA s (Z.map (·.1))
  | []=>rfl
  | x :: t=>by
    unfold getZ getA
    simp only [List.map_cons]
    split
    · rfl
    · exact getZ_fst s t
theorem getZ_name {s:ByteArray}:∀ {Z:List (Ac × β)} {q:Ac × β},getZ s Z=some q->q.1.1=s/\q ∈ Z
  | [],q,h=>by simp [getZ] at h
  | x :: t,q,h=>by
    unfold getZ at h
    split at h
    · rename_i he;simp at h;subst h;exact ⟨he,List.mem_cons_self⟩
    · exact ⟨(getZ_name h).1,List.mem_cons_of_mem _ (getZ_name h).2⟩
theorem getZ_none {s:ByteArray}:∀ {Z:List (Ac × β)},getZ s Z=none->∀ q ∈ Z,q.1.1 ≠ s
  | [],_,q,h=>by simp at h
  | x :: t,h,q,hq=>by
    unfold getZ at h
    split at h
    · simp at h
    · rename_i he
      rcases List.mem_cons.1 hq with rfl | hq
      · exact he
      · exact getZ_none h q hq
theorem insZ_back {s:ByteArray} (q':Ac × β) (hq':q'.1.1=s):∀ {Z:List (Ac × β)} {q:Ac × β},Asc Z->getZ s Z=some q->insZ q (insZ q' Z)=Z
  | [],q,_,h=>by simp [getZ] at h
  | x :: t,q,ha,h=>by
    obtain ⟨h1,h2⟩:=List.pairwise_cons.1 ha
    unfold getZ at h
    split at h
    · rename_i he
      simp at h
      subst h
      rw [insZ_eq (by rw [hq',he]),insZ_eq (by rw [hq',he])]
    · have hq:=getZ_name h
      have hl:Lt x.1.1 s:=by rw [<- hq.1];exact h1 q hq.2
      rw [insZ_lt (by rw [hq'];exact hl),insZ_lt (by rw [hq.1];exact hl),insZ_back q' hq' h2 h]
theorem insA_mid (a:Ac):∀ (A B:List Ac),(∀ x ∈ A,Lt x.1 a.1)->(∀ x ∈ B,Lt a.1 x.1)->insA a (A ++ B)=A ++ a :: B
  | [],[],_,_=>rfl
  | [],x :: B,_,hB=>by
    have h:=hB x List.mem_cons_self
    show insA a (x :: B)=a :: x :: B
    exact insA_gt h
  | x :: A,B,hA,hB=>by
    have h:=hA x List.mem_cons_self
    rw [List.cons_append,insA_lt h,insA_mid a A B (fun y hy=>hA y (List.mem_cons_of_mem _ hy)) hB]
    rfl
def AscA (l:List Ac):Prop:=l.Pairwise (fun x y=>Lt x.1 y.1)
theorem asc_map (Z:List (Ac × β)):Asc Z ↔ AscA (Z.map (·.1)):=by unfold Asc AscA;rw [List.pairwise_map]
def upA (s:ByteArray) (n:Int):List Ac->List Ac
  | []=>[]
  | x :: t=>if x.1=s then (x.1,wrap64 (x.2.1+n),x.2.2) :: t else x :: upA s n t
theorem upA_mid (s:ByteArray) (n:Int) (a:Ac) (ha:a.1=s):∀ (A B:List Ac),(∀ x ∈ A,x.1 ≠ s)->upA s n (A ++ a :: B)=A ++ (a.1,wrap64 (a.2.1+n),a.2.2) :: B
  | [],B,_=>by
    show upA s n (a :: B)=_
    unfold upA
    rw [if_pos ha]
    rfl
  | x :: A,B,h=>by
    rw [List.cons_append]
    unfold upA
    rw [if_neg (h x List.mem_cons_self),upA_mid s n a ha A B (fun y hy=>h y (List.mem_cons_of_mem _ hy))]
    rfl
def plA (l:List Ac) (s:ByteArray):Nat->Nat
  | 0=>0
  | k+1=>if Op.bytesLess s.toList (l.getD k ac0).1.toList=true then plA l s k else k+1
theorem plA_le (l:List Ac) (s:ByteArray):∀ k,plA l s k<=k
  | 0=>Nat.le_refl _
  | k+1=>by
    unfold plA
    split
    · have:=plA_le l s k;omega
    · exact Nat.le_refl _
theorem plA_above (l:List Ac) (s:ByteArray):∀ k j,plA l s k<=j->j < k->Lt s (l.getD j ac0).1
  | 0,j,_,h=>by omega
  | k + 1,j,h1,h2=>by
    unfold plA at h1
    split at h1
    · rename_i hl
      by_cases e:j=k
      · subst e;exact hl
      · exact plA_above l s k j h1 (by omega)
    · omega
theorem plA_below (l:List Ac) (s:ByteArray):∀ k,plA l s k=0\/¬ Lt s (l.getD (plA l s k - 1) ac0).1
  | 0=>.inl rfl
  | k + 1=>by
    unfold plA
    split
    · exact plA_below l s k
    · rename_i hl
      exact .inr hl
def newAc (s:ByteArray):Ac:=(s,0,0,0,[])
def withA (l:List Ac) (s:ByteArray):List Ac:=if getA s l=none then l.take (plA l s l.length) ++ newAc s :: l.drop (plA l s l.length) else l
def aftA (l:List Ac) (s:ByteArray) (n:Int):Ac:=match getA s l with
  | some a=>(s,wrap64 (a.2.1+n),a.2.2)
  | none=>(s,wrap64 (0+n),0,0,[])
theorem getA_none {s:ByteArray}:∀ {l:List Ac},getA s l=none->∀ q ∈ l,q.1 ≠ s
  | [],_,q,h=>by simp at h
  | x :: t,h,q,hq=>by
    unfold getA at h
    split at h
    · simp at h
    · rename_i he
      rcases List.mem_cons.1 hq with rfl | hq
      · exact he
      · exact getA_none h q hq
theorem getA_some {s:ByteArray}:∀ {l:List Ac} {a:Ac},getA s l=some a->a.1=s/\a ∈ l
  | [],q,h=>by simp [getA] at h
  | x :: t,q,h=>by
    unfold getA at h
    split at h
    · rename_i he;simp at h;subst h;exact ⟨he,List.mem_cons_self⟩
    · exact ⟨(getA_some h).1,List.mem_cons_of_mem _ (getA_some h).2⟩
theorem up_found (s:ByteArray) (n:Int):∀ (l:List Ac) (a:Ac),AscA l->getA s l=some a->upA s n l=insA (s,wrap64 (a.2.1+n),a.2.2) l
  | [],a,_,h=>by simp [getA] at h
  | x :: t,a,ha,h=>by
    obtain ⟨h1,h2⟩:=List.pairwise_cons.1 ha
    unfold getA at h
    split at h
    · rename_i he
      simp at h
      subst h
      rw [insA_eq he,upA,if_pos he,he]
    · rename_i he
      have hq:=getA_some h
      have hl:Lt x.1 s:=by rw [<- hq.1];exact h1 a hq.2
      rw [insA_lt hl,upA,if_neg he,up_found s n t a h2 h]
theorem give_eq (l:List Ac) (s:ByteArray) (n:Int) (ha:AscA l):upA s n (withA l s)=insA (aftA l s n) l:=by
  unfold withA aftA
  cases hg:getA s l with
  | some a=>rw [if_neg (by simp)];exact up_found s n l a ha hg
  | none =>
    rw [if_pos rfl]
    have hno:=getA_none hg
    have hp:=plA_le l s l.length
    have hget:∀ j (h:j < l.length),l.getD j ac0=l[j]:=fun j h=>by rw [List.getD_eq_getElem?_getD,List.getElem?_eq_getElem h];rfl
    have hB:∀ x ∈ l.drop (plA l s l.length),Lt s x.1:=fun x hx=>by
      obtain ⟨j,hj,rfl⟩:=List.mem_iff_getElem.1 hx
      rw [List.getElem_drop]
      simp at hj
      have:=plA_above l s l.length (plA l s l.length+j) (by omega) (by omega)
      rwa [hget _ (by omega)] at this
    have hA:∀ x ∈ l.take (plA l s l.length),Lt x.1 s:=fun x hx=>by
      obtain ⟨j,hj,rfl⟩:=List.mem_iff_getElem.1 hx
      rw [List.getElem_take]
      simp at hj
      rcases plA_below l s l.length with h0 | hb
      · omega
      · rw [hget _ (by omega)] at hb
        have hlast:Lt (l[plA l s l.length - 1]'(by omega)).1 s:=lt_or hb (hno _ (List.getElem_mem _)).symm
        by_cases e:j=plA l s l.length - 1
        · simp only [e];exact hlast
        · exact lt_tr (List.pairwise_iff_getElem.1 ha j (plA l s l.length - 1) (by omega) (by omega) (by omega)) hlast
    rw [upA_mid s n (newAc s) rfl _ _ (fun x hx e=>by have:=hA x hx;rw [e] at this;exact lt_no _ this)]
    have e:=insA_mid (s,wrap64 (0+n),0,0,[]) (l.take (plA l s l.length)) (l.drop (plA l s l.length)) hA hB
    rw [List.take_append_drop] at e
    rw [e]
    rfl
theorem asc_of_ok (l:List Ac) (h:acsB l=true):AscA l:=by
  have hat:∀ j,j < l.length->acAt l j=true:=by
    unfold acsB at h
    rw [Bool.and_eq_true,List.all_eq_true] at h
    exact fun j hj=>h.1 j (List.mem_range.2 hj)
  have step:∀ j (hj:j+1 < l.length),Lt (l[j]'(by omega)).1 l[j+1].1:=fun j hj=>by
    have:=hat (j+1) hj
    rw [acAt_eq l (j+1) l[j+1] hj rfl,Bool.and_eq_true,show decide (j+1=0)=false from rfl,Bool.false_or] at this
    have h2:=this.2
    rw [show j+1 - 1=j from rfl,List.getD_eq_getElem?_getD,List.getElem?_eq_getElem (show j < l.length by omega)] at h2
    exact h2
  have far:∀ d i (hi:i+1+d < l.length),Lt (l[i]'(by omega)).1 l[i+1+d].1:=fun d=>by
    induction d with
    | zero=>exact fun i hi=>step i hi
    | succ d ih=>exact fun i hi=>lt_tr (ih i (by omega)) (step (i+1+d) hi)
  refine List.pairwise_iff_getElem.2 fun i j hi hj hij=>?_
  obtain ⟨d,rfl⟩:∃ d,j=i+1+d:=⟨j - (i+1),by omega⟩
  exact far d i hj
def crA (l:List Ac) (s:ByteArray) (n:Int):List Ac × Bool :=
  if (acsB l && nmB s && inB n 0 1000000)=true then (if acsB (insA (aftA l s n) l)=true then (insA (aftA l s n) l,true) else (l,false)) else (l,false)
theorem implCopied_any (a:Ac) (lv:Value) (w:World) (hr:RdL w lv a.2.2.2.2) (hl:a.2.2.2.2.length<=4000000) :
    Calls Tryz.prog 106 #[acV a lv] w fun e w'=>∃ lv',e=.returned (acV a lv')/\OwnL w.heap.size w' lv' a.2.2.2.2/\Below w.heap.size w w':=by
  obtain ⟨nm,fr,no,st,ls⟩:=a
  obtain ⟨av,cv,rfl⟩:=hr.shape
  simp only [acV] at *
  obtain ⟨w1,hw1⟩:∃ w1,w.alloc (.cells #[.string nm,.int .i64 fr,.int .i64 no,.int .i64 st,.slice av ls.length cv] 122)=w1:=⟨_,rfl⟩
  have hs1:w1.heap.size=w.heap.size+1:=by rw [<- hw1];simp
  have hb1:Below w.heap.size w w1:=by rw [<- hw1];exact (Below.refl _ w).alloc (Nat.le_refl _) _
  have k1:Blk w1 w.heap.size 122 [.string nm,.int .i64 fr,.int .i64 no,.int .i64 st,.slice av ls.length cv]:=by rw [<- hw1];exact Blk.new w _ _
  obtain ⟨w2,hw2⟩:∃ w2,w1.alloc (.cells #[.string { data:=#[] },.int .i64 0,.int .i64 0,.int .i64 0,.slice none 0 0] 122)=w2:=⟨_,rfl⟩
  have hs2:w2.heap.size=w.heap.size+2:=by rw [<- hw2];simp;omega
  have hb2:Below w1.heap.size w1 w2:=by rw [<- hw2];exact (Below.refl _ w1).alloc (Nat.le_refl _) _
  have k2:Blk w2 (w.heap.size+1) 122 acZ:=by rw [<- hw2,<- hs1];exact Blk.new w1 _ _
  have k1':=k1.below hb2 (by omega)
  obtain ⟨w3,hw3⟩:∃ w3,w2.alloc (.cells #[] 124)=w3:=⟨_,rfl⟩
  have hs3:w3.heap.size=w.heap.size+3:=by rw [<- hw3];simp;omega
  have hb3:Below w2.heap.size w2 w3:=by rw [<- hw3];exact (Below.refl _ w2).alloc (Nat.le_refl _) _
  have HB3:Hid (Below w.heap.size w w3):=hide ((hb1.trans (hb2.mono (by omega))).trans (hb3.mono (by omega)))
  have Hr3:Hid (RdL w3 (.slice av ls.length cv) ls):=hide (hr.below HB3.out (Nat.le_refl _))
  have Ho3:Hid (OwnL (w.heap.size+2) w3 (.slice (some ⟨w.heap.size+2,0,none⟩) 0 0) []):=hide (by rw [<- hw3,<- hs2];exact own_nilL w2 _ (Nat.le_refl _))
  have K1:=hide (k1'.below hb3 (by omega))
  have K2:=hide (k2.below hb3 (by omega))
  have c4:=K1.out.cell 4
  simp only [List.getElem?_cons_zero,List.getElem?_cons_succ] at c4
  clear hr k1 k1' k2 hb1 hb2 hb3
  go_enter Tryz.func106,Tryz.ntmps106
  go_wp2_with (at_builtin;refine app_ownL _ rfl _ _ rfl (w.heap.size+2) _ _ [] ls rfl rfl Ho3.out Hr3.out (by simp;omega) (by omega) ?_;intro lv' w4 ho4 hb4;rw [List.nil_append] at ho4;obtain ⟨av',cv',rfl⟩:=ho4.rd.shape;have j1:=K1.out.below hb4 (by omega);have j2:=K2.out.below hb4 (by omega);have d0:=j1.cell 0;have d1:=j1.cell 1;have d2:=j1.cell 2;have d3:=j1.cell 3;have d4:=j1.cell 4;have f4:=j1.frozen 4;have e0:=j2.cell 0;have e1:=j2.cell 1;have e2:=j2.cell 2;have e3:=j2.cell 3;have e4:=j2.cell 4;have g0:=j2.frozen 0;have g1:=j2.frozen 1;have g2:=j2.frozen 2;have g3:=j2.frozen 3;have g4:=j2.frozen 4;simp only [acZ,List.getElem?_cons_zero,List.getElem?_cons_succ] at d0 d1 d2 d3 d4 e0 e1 e2 e3 e4;have hl4:=hb4.size)
  refine bodyPost_ret (v:=.agg #[.string nm,.int .i64 fr,.int .i64 no,.int .i64 st,.slice av' ls.length cv']) (by simp [results,Tryz.f106,go_sem,e0,e1,e2,e3,e4]) rfl ?_
  have n1:∀ k,(Value.slice av' ls.length cv').ownBlock=some k->k ≠ w.heap.size:=fun k hk=>by have:=ho4.ge k hk;omega
  have n2:∀ k,(Value.slice av' ls.length cv').ownBlock=some k->k ≠ w.heap.size+1:=fun k hk=>by have:=ho4.ge k hk;omega
  have HB4:=HB3.out.trans (hb4.mono (by omega))
  refine ⟨_,rfl,row_set (row_set (row_set (row_set (row_set (row_set (ho4.mono (by omega)) _ _ _ n1) _ _ _ n2) _ _ _ n2) _ _ _ n2) _ _ _ n2) _ _ _ n2,?_⟩
  exact (((((HB4.setCell (p:=⟨w.heap.size,4,none⟩) (by show w.heap.size<=w.heap.size;omega) _).setCell (p:=⟨w.heap.size+1,0,none⟩) (by show w.heap.size<=w.heap.size+1;omega) _).setCell (p:=⟨w.heap.size+1,1,none⟩) (by show w.heap.size<=w.heap.size+1;omega) _).setCell (p:=⟨w.heap.size+1,2,none⟩) (by show w.heap.size<=w.heap.size+1;omega) _).setCell (p:=⟨w.heap.size+1,3,none⟩) (by show w.heap.size<=w.heap.size+1;omega) _).setCell (p:=⟨w.heap.size+1,4,none⟩) (by show w.heap.size<=w.heap.size+1;omega) _
theorem implCopiedS_any (v:Value) (l:List Ac) (w:World) (hr:RdA w v l) (hl:l.length<=4000000) (hall:∀ a ∈ l,a.2.2.2.2.length<=4000000) :
    Calls Tryz.prog 63 #[v] w fun e w'=>∃ v',e=.returned v'/\OwnA w.heap.size w' v' l/\Below w.heap.size w w':=by
  obtain ⟨i0,hi,hz0,hz1,hz2⟩:=info_parts Tryz.infoAc
  rcases hr with ⟨a,cap,rfl,rfl,-⟩ | ⟨b,off,cap,h0,rfl,h1,h2,h3,h4⟩
  · go_enter Tryz.func63,Tryz.ntmps63
    go_wp2_with (refine wpList_make_own _ rfl _ _ 34 rfl w.heap.size 122 i0 (.agg #[.string { data:=#[] },.int .i64 0,.int .i64 0,.int .i64 0,.slice none 0 0]) 5 Tryz.underlying34 hi hz0 hz1 .i64 .i64 _ 0 rfl rfl rfl (by omega) (by unfold maxLen;omega) (Nat.le_refl _) ?_;intro w1 hown hgrow)
    have hb1:Below w.heap.size w w1:=(Below.refl _ _).grown hgrow (Nat.le_refl _) (by intro k hk;cases hk)
    refine wp_loop_rounds 1 ?_
    rw [rounds_succ]
    go_wp2
    go_ret
    exact ⟨_,rfl,OwnA.of_row (Z:=[]) hown (Lvs.nil _ _ _),hb1⟩
  · have H4:=hide h4
    have Hall:=hide hall
    clear h4 hall
    go_enter Tryz.func63,Tryz.ntmps63
    go_wp2_with (refine wpList_make_own _ rfl _ _ 34 rfl w.heap.size 122 i0 (.agg #[.string { data:=#[] },.int .i64 0,.int .i64 0,.int .i64 0,.slice none 0 0]) 5 Tryz.underlying34 hi hz0 hz1 .i64 .i64 _ l.length rfl rfl rfl (by rw [hz2];omega) (by unfold maxLen;omega) (Nat.le_refl _) ?_;intro w1 hown hgrow)
    have hb1:Below w.heap.size w w1:=(Below.refl _ _).grown hgrow (Nat.le_refl _) (by intro k hk;cases hk)
    go_loopw [3,11] (fun ov iv wr=>∃ (k g c:Nat) (Z:List (Ac × Value)),k<=l.length/\iv=.int .i64 k/\ov=.slice (some ⟨g,0,none⟩) k c/\Z.map (·.1)=l.take k/\RowA w.heap.size wr ov Z/\Lvs w.heap.size wr g Z/\Below w.heap.size w wr) (fun _ iv _=>l.length - (intOf iv).toNat)
    case atStart=>exact ⟨0,_,_,[],Nat.zero_le _,rfl,rfl,rfl,hown,Lvs.nil _ _ _,hb1⟩
    case round =>
      obtain ⟨k,g,c,Z,hk,rfl,rfl,hZ,ho,hlv,hb⟩:=hrel
      clear hown hgrow hb1
      have hZl:Z.length=k:=by have:=congrArg List.length hZ;simp at this;omega
      by_cases hlt:k < l.length
      · obtain ⟨lv,hat,hrl⟩:=H4.out k hlt
        obtain ⟨c0,c1,c2,c3,c4⟩:=hat.below hb h3
        have hli:(k:Int) < (l.length:Int):=by omega
        have hbb:b < wr.heap.size:=Nat.lt_of_lt_of_le h3 hb.size
        have hgl:g < wr.heap.size:=ho.lt g rfl
        have hshape:=hrl.shape
        have Hrl:=hide (hrl.below hb (Nat.le_refl _))
        have hls:=Hall.out l[k] (List.getElem_mem _)
        have HZ2:Hid (∀ lv':Value,(Z ++ [(l[k],lv')]).map (·.1)=l.take (k+1)):=hide (fun lv'=>by rw [List.map_append,hZ,List.take_succ_eq_append_getElem hlt];rfl)
        have Ho:=hide ho
        have Hlv:=hide hlv
        clear hat hrl ho hlv hZ
        generalize l[k]=ak at c0 c1 c2 c3 hshape Hrl hls HZ2
        obtain ⟨nm,fr,no,st,ls⟩:=ak
        obtain ⟨av,cv,rfl⟩:=hshape
        simp only at c0 c1 c2 c3 Hrl hls
        obtain ⟨w1,hw1⟩:∃ w1,wr.alloc (.cells #[.string nm,.int .i64 fr,.int .i64 no,.int .i64 st,.slice av ls.length cv] 122)=w1:=⟨_,rfl⟩
        have hA:Below wr.heap.size wr w1:=by rw [<- hw1];exact (Below.refl _ wr).alloc (Nat.le_refl _) _
        have hk1:Blk w1 wr.heap.size 122 [.string nm,.int .i64 fr,.int .i64 no,.int .i64 st,.slice av ls.length cv]:=by rw [<- hw1];exact Blk.new wr _ _
        have HC:=hide (implCopied_any (nm,fr,no,st,ls) (.slice av ls.length cv) w1 (Hrl.out.below hA (Nat.le_refl _)) hls)
        simp only [acV] at HC
        have hlt1:=hk1.lt
        have e0:=hk1.cell 0
        have e1:=hk1.cell 1
        have e2:=hk1.cell 2
        have e3:=hk1.cell 3
        have e4:=hk1.cell 4
        simp only [List.getElem?_cons_zero,List.getElem?_cons_succ] at e0 e1 e2 e3 e4
        go_wp2_with (first
          | (go_at_call 106;refine HC.out.mono ?_;rintro e w2 ⟨lv',rfl,ho2,hb2⟩;obtain ⟨av',cv',rfl⟩:=ho2.rd.shape;have hB2:=hA.trans (hb2.mono hA.size))
          | (at_builtin;refine app_ownA _ rfl _ _ rfl w.heap.size _ _ Z ((nm,fr,no,st,ls),.slice av' ls.length cv') rfl rfl (World.ownsRow.alloc (Ho.out.below hB2 (Nat.le_refl _)) _) (Blk.new' _ _ (acC ((nm,fr,no,st,ls),.slice av' ls.length cv')) _ rfl) rfl (by omega) (by have:=hb.size;have:=hB2.size;simp;omega) ?_;intro v' w4 hrow hgr hnn hloc))
        have hB:Below w.heap.size w (w2.alloc (.cells #[.string nm,.int .i64 fr,.int .i64 no,.int .i64 st,.slice av' ls.length cv'] 122)):=(hb.trans (hB2.mono hb.size)).alloc (by have:=hb.size;have:=hB2.size;omega) _
        obtain ⟨g',c',rfl,hlv'⟩:=rowA_step (Hlv.out.below hB2 (Nat.le_refl _)) (ho2.mono (by have:=hb.size;have:=hA.size;omega)) (fun j hj=>by have:=ho2.ge j hj;have:=hA.size;omega)
          (fun i hi j hj e=>by have:=(Hlv.out.own i hi).lt j hj;have:=ho2.ge j e;have:=hA.size;omega) ((Below.refl _ w2).alloc (Nat.le_refl _) _) hgr hrow hnn hloc
        go_roundw
        case rel =>
          refine ⟨k+1,g',c',_,by omega,by go_num,by simp [hZl],HZ2.out _,hrow,hlv',hB.grown hgr (by have:=hb.size;have:=hB2.size;simp;omega) (fun j hj=>by cases hj;exact Ho.out.ge g rfl)⟩
        case measure=>simp [intOf];omega
      · have e:k=l.length:=by omega
        subst e
        rw [List.take_length] at hZ
        go_wp2
        go_ret
        have:=OwnA.of_row (cap:=c) (g:=g) (Z:=Z) (by rw [hZl];exact ho) hlv
        rw [hZ,hZl] at this
        exact ⟨_,rfl,this,hb⟩
theorem specCopy_any (v:Value) (l:List Ac) (w:World) (hr:RdA w v l) (hl:l.length<=4000000) (hall:∀ a ∈ l,a.2.2.2.2.length<=4000000) :
    Calls Tryz.prog 52 #[v] w fun e w'=>∃ v',e=.returned v'/\OwnA w.heap.size w' v' l/\Below w.heap.size w w':=by
  rcases hr with ⟨a,cap,rfl,rfl,-⟩ | ⟨b,off,cap,h0,rfl,h1,h2,h3,h4⟩
  · go_enter Tryz.func52,Tryz.ntmps52
    have hown:=row_nilA w w.heap.size (Nat.le_refl _)
    have hb1:Below w.heap.size w (w.alloc (.cells #[] 122)):=(Below.refl _ _).alloc (Nat.le_refl _) _
    go_wp2
    refine wp_loop_rounds 1 ?_
    rw [rounds_succ]
    go_wp2
    go_ret
    exact ⟨_,rfl,OwnA.of_row (Z:=[]) hown (Lvs.nil _ _ _),hb1⟩
  · have H4:=hide h4
    have Hall:=hide hall
    clear h4 hall
    go_enter Tryz.func52,Tryz.ntmps52
    have hown:=hide (row_nilA w w.heap.size (Nat.le_refl _))
    have hb1:Hid (Below w.heap.size w (w.alloc (.cells #[] 122))):=hide ((Below.refl _ _).alloc (Nat.le_refl _) _)
    go_wp2
    go_loopw [3,4] (fun ov iv wr=>∃ (k g c:Nat) (Z:List (Ac × Value)),k<=l.length/\iv=.int .i64 k/\ov=.slice (some ⟨g,0,none⟩) k c/\Z.map (·.1)=l.take k/\RowA w.heap.size wr ov Z/\Lvs w.heap.size wr g Z/\Below w.heap.size w wr) (fun _ iv _=>l.length - (intOf iv).toNat)
    case atStart=>exact ⟨0,_,_,[],Nat.zero_le _,rfl,rfl,rfl,hown.out,Lvs.nil _ _ _,hb1.out⟩
    case round =>
      obtain ⟨k,g,c,Z,hk,rfl,rfl,hZ,ho,hlv,hb⟩:=hrel
      clear hown hb1
      have hZl:Z.length=k:=by have:=congrArg List.length hZ;simp at this;omega
      by_cases hlt:k < l.length
      · obtain ⟨lv,hat,hrl⟩:=H4.out k hlt
        obtain ⟨c0,c1,c2,c3,c4⟩:=hat.below hb h3
        have hli:(k:Int) < (l.length:Int):=by omega
        have hbb:b < wr.heap.size:=Nat.lt_of_lt_of_le h3 hb.size
        have hgl:g < wr.heap.size:=ho.lt g rfl
        have hshape:=hrl.shape
        have Hrl:=hide (hrl.below hb (Nat.le_refl _))
        have hls:=Hall.out l[k] (List.getElem_mem _)
        have HZ2:Hid (∀ lv':Value,(Z ++ [(l[k],lv')]).map (·.1)=l.take (k+1)):=hide (fun lv'=>by rw [List.map_append,hZ,List.take_succ_eq_append_getElem hlt];rfl)
        have Ho:=hide ho
        have Hlv:=hide hlv
        clear hat hrl ho hlv hZ
        generalize l[k]=ak at c0 c1 c2 c3 hshape Hrl hls HZ2
        obtain ⟨nm,fr,no,st,ls⟩:=ak
        obtain ⟨av,cv,rfl⟩:=hshape
        simp only at c0 c1 c2 c3 Hrl hls
        obtain ⟨w1,hw1⟩:∃ w1,wr.alloc (.cells #[.string nm,.int .i64 fr,.int .i64 no,.int .i64 st,.slice av ls.length cv] 122)=w1:=⟨_,rfl⟩
        have hA:Below wr.heap.size wr w1:=by rw [<- hw1];exact (Below.refl _ wr).alloc (Nat.le_refl _) _
        have hk1:Blk w1 wr.heap.size 122 [.string nm,.int .i64 fr,.int .i64 no,.int .i64 st,.slice av ls.length cv]:=by rw [<- hw1];exact Blk.new wr _ _
        have hs1:w1.heap.size=wr.heap.size+1:=by rw [<- hw1];simp
        obtain ⟨w2,hw2⟩:∃ w2,w1.alloc (.cells #[] 124)=w2:=⟨_,rfl⟩
        have hA2:Below w1.heap.size w1 w2:=by rw [<- hw2];exact (Below.refl _ w1).alloc (Nat.le_refl _) _
        have hs2:w2.heap.size=wr.heap.size+2:=by rw [<- hw2];simp;omega
        have Ho3:Hid (OwnL (wr.heap.size+1) w2 (.slice (some ⟨wr.heap.size+1,0,none⟩) 0 0) []):=hide (by rw [<- hw2,<- hs1];exact own_nilL w1 _ (Nat.le_refl _))
        have Hr3:Hid (RdL w2 (.slice av ls.length cv) ls):=hide ((Hrl.out.below hA (Nat.le_refl _)).below hA2 (Nat.le_refl _))
        have HK:=hide (hk1.below hA2 (by omega))
        have HA2:Hid (Below wr.heap.size wr w2):=hide (hA.trans (hA2.mono hA.size))
        have e4:=HK.out.cell 4
        simp only [List.getElem?_cons_zero,List.getElem?_cons_succ] at e4
        clear hk1 hA hA2
        go_wp2_with (first
          | (at_builtin;refine app_ownL _ rfl _ _ rfl (wr.heap.size+1) _ _ [] ls rfl rfl Ho3.out Hr3.out (by simp;omega) (by omega) ?_;intro lv' w3 ho4 hb4;rw [List.nil_append] at ho4;obtain ⟨av',cv',rfl⟩:=ho4.rd.shape;have j1:=HK.out.below hb4 (by omega);have d0:=j1.cell 0;have d1:=j1.cell 1;have d2:=j1.cell 2;have d3:=j1.cell 3;have d4:=j1.cell 4;have f4:=j1.frozen 4;simp only [List.getElem?_cons_zero,List.getElem?_cons_succ] at d0 d1 d2 d3 d4;have hl4:=hb4.size;have hB2:=(HA2.out.trans (hb4.mono (by omega))).setCell (p:=⟨wr.heap.size,4,none⟩) (Nat.le_refl _) (.slice av' ls.length cv');have ho2:=row_set ho4 wr.heap.size 4 (.slice av' ls.length cv') (fun k hk=>by have:=ho4.ge k hk;omega))
          | (at_builtin;refine app_ownA _ rfl _ _ rfl w.heap.size _ _ Z ((nm,fr,no,st,ls),.slice av' ls.length cv') rfl rfl (World.ownsRow.alloc (Ho.out.below hB2 (Nat.le_refl _)) _) (Blk.new' _ _ (acC ((nm,fr,no,st,ls),.slice av' ls.length cv')) _ (by simp)) rfl (by omega) (by have:=hb.size;have:=hB2.size;simp at this ⊢;omega) ?_;intro v' w4 hrow hgr hnn hloc))
        have hB:Below w.heap.size w ((w3.setCell ⟨wr.heap.size,4,none⟩ (.slice av' ls.length cv')).alloc (.cells #[.string nm,.int .i64 fr,.int .i64 no,.int .i64 st,.slice av' ls.length cv'] 122)):=(hb.trans (hB2.mono hb.size)).alloc (by have:=hb.size;have:=hB2.size;omega) _
        have ho2:OwnL (wr.heap.size+1) (w3.setCell ⟨wr.heap.size,4,none⟩ (.slice av' ls.length cv')) (.slice av' ls.length cv') ls:=ho2
        obtain ⟨g',c',rfl,hlv'⟩:=rowA_step (q:=((nm,fr,no,st,ls),.slice av' ls.length cv')) (Hlv.out.below hB2 (Nat.le_refl _)) (OwnL.mono ho2 (by have:=hb.size;omega)) (fun j hj=>by have:=OwnL.ge ho2 j hj;omega)
          (fun i hi j hj e=>by have:=(Hlv.out.own i hi).lt j hj;have:=OwnL.ge ho2 j e;omega) ((Below.refl _ _).alloc (Nat.le_refl _) _) hgr hrow hnn hloc
        go_roundw
        case rel =>
          refine ⟨k+1,g',c',_,by omega,by go_num,by simp [hZl],HZ2.out _,hrow,hlv',hB.grown hgr (by have:=hb.size;have:=hB2.size;simp;omega) (fun j hj=>by cases hj;exact Ho.out.ge g rfl)⟩
        case measure=>simp [intOf];omega
      · have e:k=l.length:=by omega
        subst e
        rw [List.take_length] at hZ
        go_wp2
        go_ret
        have:=OwnA.of_row (cap:=c) (g:=g) (Z:=Z) (by rw [hZl];exact ho) hlv
        rw [hZ,hZl] at this
        exact ⟨_,rfl,this,hb⟩
theorem atF_get (s:ByteArray):∀ (l:List Ac) (n:Nat) (a:Ac),getA s l=some a->∃ (k:Nat) (h:k < l.length),atF s l n=((n+k:Nat):Int)/\l[k]=a/\a.1=s/\∀ j (hj:j < k),(l[j]'(by omega)).1 ≠ s
  | [],n,a,h=>by simp [getA] at h
  | x :: t,n,a,h=>by
    unfold getA at h
    split at h
    · rename_i he
      simp at h
      subst h
      exact ⟨0,by simp,by unfold atF;rw [if_pos he];simp,rfl,he,fun j hj=>by omega⟩
    · rename_i he
      obtain ⟨k,hk,h1,h2,h3,h4⟩:=atF_get s t (n+1) a h
      refine ⟨k+1,by simp;omega,by unfold atF;rw [if_neg he,h1];omega,by simpa using h2,h3,fun j hj=>?_⟩
      cases j with
      | zero=>exact he
      | succ j=>simpa using h4 j (by omega)
theorem at_get {s:ByteArray} {l:List Ac} {a:Ac} (h:getA s l=some a):∃ (k:Nat) (h:k < l.length),atA l s=(k:Int)/\l[k]=a/\a.1=s/\∀ j (hj:j < k),(l[j]'(by omega)).1 ≠ s:=by
  obtain ⟨k,hk,h1,r⟩:=atF_get s l 0 a h
  exact ⟨k,hk,by unfold atA;rw [h1];omega,r⟩
theorem at_not {s:ByteArray} {l:List Ac} (h:getA s l=none):atA l s=-1:=atF_none s l 0 (fun j hj=>getA_none h _ (List.getElem_mem _))
theorem getA_has {s:ByteArray}:∀ {l:List Ac},(∃ x ∈ l,x.1=s)->∃ a,getA s l=some a
  | [],h=>by simp at h
  | x :: t,h=>by
    unfold getA
    split
    · exact ⟨_,rfl⟩
    · rename_i he
      obtain ⟨y,hy,e⟩:=h
      rcases List.mem_cons.1 hy with rfl | hy
      · exact absurd e he
      · exact getA_has ⟨y,hy,e⟩
theorem with_has (l:List Ac) (s:ByteArray):∃ a,getA s (withA l s)=some a:=by
  unfold withA
  split
  · exact getA_has ⟨newAc s,by simp,rfl⟩
  · rename_i h
    cases hg:getA s l with
    | none=>exact absurd hg h
    | some a=>exact ⟨a,rfl⟩
theorem upA_set (s:ByteArray) (n:Int):∀ (l:List Ac) (k:Nat) (h:k < l.length),l[k].1=s->(∀ j (hj:j < k),(l[j]'(by omega)).1 ≠ s)->upA s n l=l.set k (l[k].1,wrap64 (l[k].2.1+n),l[k].2.2)
  | [],k,h,_,_=>by simp at h
  | x :: t,0,h,he,_=>by
    unfold upA
    rw [if_pos (by simpa using he)]
    rfl
  | x :: t,k+1,h,he,hn=>by
    unfold upA
    rw [if_neg (by simpa using hn 0 (by omega)),upA_set s n t k (by simpa using h) (by simpa using he) (fun j hj=>by simpa using hn (j+1) (by omega))]
    rfl
theorem upA_len (s:ByteArray) (n:Int):∀ l:List Ac,(upA s n l).length=l.length
  | []=>rfl
  | x :: t=>by
    unfold upA
    split
    · rfl
    · simp [upA_len s n t]
theorem withA_len (l:List Ac) (s:ByteArray):(withA l s).length<=l.length+1:=by
  unfold withA
  split
  · simp;omega
  · omega
def tlZ (q:Ac × Value):Value × List (Int × Int):=(q.2,q.1.2.2.2.2)
structure LvQ (base:Nat) (w:World) (g:Nat) (T:List (Value × List (Int × Int))):Prop where
  own:∀ t ∈ T,OwnL base w t.1 t.2
  far:∀ t ∈ T,∀ k,t.1.ownBlock=some k->k ≠ g
  apart:T.Pairwise (fun a b=>∀ k,a.1.ownBlock=some k->b.1.ownBlock ≠ some k)
theorem Lvs.heap {base:Nat} {w:World} {g:Nat} {Z:List (Ac × Value)} (h:Lvs base w g Z):LvQ base w g (Z.map tlZ):=by
  refine ⟨fun t ht=>?_,fun t ht=>?_,?_⟩
  · obtain ⟨q,hq,rfl⟩:=List.mem_map.1 ht
    obtain ⟨i,hi,rfl⟩:=List.mem_iff_getElem.1 hq
    exact h.own i hi
  · obtain ⟨q,hq,rfl⟩:=List.mem_map.1 ht
    obtain ⟨i,hi,rfl⟩:=List.mem_iff_getElem.1 hq
    exact h.far i hi
  · rw [List.pairwise_map]
    exact List.pairwise_iff_getElem.2 fun i j hi hj hij=>h.apart i j hi hj (by omega)
theorem LvQ.lvs {base:Nat} {w:World} {g:Nat} {Z:List (Ac × Value)} (h:LvQ base w g (Z.map tlZ)):Lvs base w g Z:=by
  have hp:=List.pairwise_iff_getElem.1 (List.pairwise_map.1 h.apart)
  refine ⟨fun i hi=>h.own _ (List.mem_map_of_mem (List.getElem_mem hi)),fun i hi=>h.far _ (List.mem_map_of_mem (List.getElem_mem hi)),fun i j hi hj hij k hk=>?_⟩
  by_cases hlt:i < j
  · exact hp i j hi hj hlt k hk
  · exact fun e=>hp j i hj hi (by omega) k e hk
theorem LvQ.perm {base:Nat} {w:World} {g:Nat} {T T':List (Value × List (Int × Int))} (h:LvQ base w g T) (hp:T.Perm T'):LvQ base w g T' :=
  ⟨fun t ht=>h.own t (hp.mem_iff.2 ht),fun t ht=>h.far t (hp.mem_iff.2 ht),(hp.pairwise_iff (fun {a b} hab k hk e=>hab k e hk)).1 h.apart⟩
theorem LvQ.cons_nil {base:Nat} {w:World} {g:Nat} {T:List (Value × List (Int × Int))} (h:LvQ base w g T):LvQ base w g ((.slice none 0 0,[]) :: T):=by
  refine ⟨fun t ht=>?_,fun t ht=>?_,List.pairwise_cons.2 ⟨fun t _ k hk=>by simp [Value.ownBlock] at hk,h.apart⟩⟩
  · rcases List.mem_cons.1 ht with rfl | ht
    · exact own_noneL _ _
    · exact h.own t ht
  · rcases List.mem_cons.1 ht with rfl | ht
    · intro k hk;simp [Value.ownBlock] at hk
    · exact h.far t ht
theorem Lvs.mid {base:Nat} {w:World} {g:Nat} {Z:List (Ac × Value)} (h:Lvs base w g Z) (q:Ac × Value) (hq:tlZ q=(.slice none 0 0,[])) (k:Nat):Lvs base w g (Z.take k ++ q :: Z.drop k):=by
  refine LvQ.lvs ?_
  have e:(Z.take k ++ q :: Z.drop k).map tlZ=(Z.take k).map tlZ ++ (.slice none 0 0,[]) :: (Z.drop k).map tlZ:=by rw [List.map_append,List.map_cons,hq]
  rw [e]
  refine (LvQ.cons_nil h.heap).perm ?_
  refine (List.Perm.trans ?_ List.perm_middle.symm)
  rw [<- List.map_append,List.take_append_drop]
theorem Lvs.same {base:Nat} {w:World} {g:Nat} {Z Z':List (Ac × Value)} (h:Lvs base w g Z) (e:Z'.map tlZ=Z.map tlZ):Lvs base w g Z':=LvQ.lvs (by rw [e];exact h.heap)
def midC (Z:List (Ac × Value)) (k:Nat) (x:List Value):List (List Value):=(Z.take k).map acC ++ x :: (Z.drop k).map acC
theorem midC_len (Z:List (Ac × Value)) (k:Nat) (x:List Value) (h:k<=Z.length):(midC Z k x).length=Z.length+1:=by simp [midC];omega
theorem midC_sz (Z:List (Ac × Value)) (k:Nat) (x:List Value) (hx:x.length=5):∀ y ∈ midC Z k x,y.length=5:=by
  intro y hy
  rcases List.mem_append.1 hy with h | h
  · exact acM_sz _ y h
  · rcases List.mem_cons.1 h with rfl | h
    · exact hx
    · exact acM_sz _ y h
theorem midC_set (Z:List (Ac × Value)) (k:Nat) (x y:List Value) (h:k<=Z.length):(midC Z k x).set k y=midC Z k y:=by
  unfold midC
  have e:((Z.take k).map acC).length=k:=by simp;omega
  rw [List.set_append_right _ _ (by omega),e,Nat.sub_self]
  rfl
theorem midC_at (Z:List (Ac × Value)) (k:Nat) (x:List Value) (h:k<=Z.length):(midC Z k x)[k]'(by rw [midC_len _ _ _ h];omega)=x:=by
  unfold midC
  rw [List.getElem_append_right (by simp;omega)]
  simp [show k - min k Z.length=0 from by omega]
theorem midC_prev (Z:List (Ac × Value)) (k:Nat) (x:List Value) (h:k+1<=Z.length):(midC Z (k+1) x)[k]'(by rw [midC_len _ _ _ h];omega)=acC (Z[k]'(by omega)):=by
  unfold midC
  rw [List.getElem_append_left (by simp;omega)]
  simp
theorem midC_down (Z:List (Ac × Value)) (k:Nat) (h:k < Z.length):midC Z (k+1) (acC Z[k])=midC Z k (acC Z[k]):=by
  unfold midC
  rw [List.take_succ_eq_append_getElem h,List.drop_eq_getElem_cons h,List.map_append,List.map_cons,List.append_assoc]
  rfl
theorem midC_end (Z:List (Ac × Value)) (q:Ac × Value):midC Z Z.length (acC q)=(Z ++ [q]).map acC:=by simp [midC]
theorem midC_put (Z:List (Ac × Value)) (k:Nat) (q:Ac × Value):midC Z k (acC q)=(Z.take k ++ q :: Z.drop k).map acC:=by simp [midC]
theorem RowA.shapeN {base:Nat} {w:World} {v:Value} {Z:List (Ac × Value)} (h:RowA base w v Z) (hn:v ≠ .slice none 0 0) (n:Nat) (hZ:Z.length=n):∃ g cap,v=.slice (some ⟨g,0,none⟩) n cap:=by
  obtain ⟨g,cap,e⟩:=h.shape hn
  exact ⟨g,cap,by rw [e,hZ]⟩
theorem plA_here {l:List Ac} {s:ByteArray} {k:Nat} (hk:k<=l.length) (h:k=0\/∃ h:k - 1 < l.length,¬ Lt s l[k - 1].1):plA l s k=k:=by
  cases k with
  | zero=>rfl
  | succ j =>
    rcases h with h | ⟨h1,h2⟩
    · omega
    · unfold plA
      have:l.getD j ac0=l[j]:=by rw [List.getD_eq_getElem?_getD,List.getElem?_eq_getElem (show j < l.length by omega)];rfl
      rw [this]
      exact if_neg h2
theorem plA_next {l:List Ac} {s:ByteArray} {k:Nat} (hk:k - 1 < l.length) (h0:0 < k) (h:Lt s l[k - 1].1):plA l s k=plA l s (k - 1):=by
  cases k with
  | zero=>omega
  | succ j =>
    show plA l s (j+1)=plA l s j
    have:l.getD j ac0=l[j]'(by omega):=by rw [List.getD_eq_getElem?_getD,List.getElem?_eq_getElem (show j < l.length by omega)];rfl
    rw [plA,this]
    exact if_pos h
theorem specWith_any (v:Value) (l:List Ac) (s:ByteArray) (w:World) (hr:RdA w v l) (hl:l.length<=4000000) (hall:∀ a ∈ l,a.2.2.2.2.length<=4000000) :
    Calls Tryz.prog 122 #[v,.string s] w fun e w'=>∃ v',e=.returned v'/\OwnA w.heap.size w' v' (withA l s)/\Below w.heap.size w w':=by
  have Hr:=hide hr
  have HC:=hide (specCopy_any v l w hr hl hall)
  have HA:=hide (fun w h=>specAcctAt_any v l s w h hl)
  clear hr hall
  go_enter Tryz.func122,Tryz.ntmps122
  go_wp2_with fail
  refine HC.out.mono ?_
  rintro e w1 ⟨v1,rfl,ho1,hb1⟩
  have HA1:=hide (HA.out w1 (Hr.out.below hb1 (Nat.le_refl _)))
  have Ho1:=hide ho1
  clear HA ho1 HC Hr
  cases hg:getA s l with
  | some a =>
    obtain ⟨k,hk,hat,-,-,-⟩:=at_get hg
    have Hw:Hid (withA l s=l):=hide (by unfold withA;rw [hg];exact if_neg (by simp))
    rw [hat] at HA1
    have hk0:(0:Int)<=(k:Int):=by omega
    clear hat hg
    go_wp2_with fail
    refine HA1.out.mono ?_
    rintro e w2 ⟨rfl,hb2⟩
    go_wp2
    go_ret
    exact ⟨v1,rfl,by rw [Hw.out];exact Ho1.out.below hb2 (Nat.le_refl _),hb1.trans (hb2.mono hb1.size)⟩
  | none =>
    have Hw:Hid (withA l s=l.take (plA l s l.length) ++ newAc s :: l.drop (plA l s l.length)):=hide (by unfold withA;rw [hg];exact if_pos rfl)
    rw [at_not hg] at HA1
    clear hg
    go_wp2_with fail
    refine HA1.out.mono ?_
    rintro e w2 ⟨rfl,hb2⟩
    have ho2:=Ho1.out.below hb2 (Nat.le_refl _)
    have hB2:Below w.heap.size w w2:=hb1.trans (hb2.mono hb1.size)
    obtain ⟨g,cap,Z,hZ,rfl,hrow,hlv⟩:=ho2
    have hZl:Z.length=l.length:=by rw [<- hZ];simp
    have HZ:=hide hZ
    have Hrow:Hid (RowA w.heap.size w2 (.slice (some ⟨g,0,none⟩) l.length cap) Z):=hide (by unfold RowA;rw [hZl];exact hrow)
    have Hlv:=hide hlv
    have hwg:w.heap.size<=g:=Hrow.out.ge g rfl
    have hs2:=hB2.size
    clear hZ hrow hlv Ho1 HA1 hb1 hb2
    go_wp2_with (at_builtin;refine app_ownA _ rfl _ _ rfl w.heap.size (.slice (some ⟨g,0,none⟩) l.length cap) _ Z ((ByteArray.empty,0,0,0,[]),.slice none 0 0) rfl rfl (World.ownsRow.alloc Hrow.out _) (Blk.new' _ _ (acC ((ByteArray.empty,0,0,0,[]),.slice none 0 0)) _ (by simp)) rfl (by omega) (by simp;omega) ?_;intro v3 w3 hrow3 hgr3 hnn3 hloc3;obtain ⟨g',c',rfl⟩:=hrow3.shapeN hnn3 (l.length+1) (by simp [hZl]))
    have hB3:Below w.heap.size w w3:=(hB2.alloc hs2 _).grown hgr3 (by simp;omega) (fun j hj=>by cases hj;exact hwg)
    have hlv3:Lvs w.heap.size w3 g' Z:=(Hlv.out.below ((Below.refl _ w2).alloc (Nat.le_refl _) _) (Nat.le_refl _)).move hgr3 (by
      rcases hloc3 with h | h
      · exact .inl (by simpa [Value.ownBlock] using h)
      · exact .inr (by simp [Value.ownBlock] at h ⊢;omega))
    have hr3:w3.ownsRow w.heap.size 122 5 (.slice (some ⟨g',0,none⟩) (l.length+1) c') (l.length+1) (midC Z l.length [.string { data:=#[] },.int .i64 0,.int .i64 0,.int .i64 0,.slice none 0 0]).flatten:=by
      have e:midC Z l.length [.string { data:=#[] },.int .i64 0,.int .i64 0,.int .i64 0,.slice none 0 0]=(Z ++ [(((ByteArray.empty,0,0,0,[]):Ac),Value.slice none 0 0)]).map acC:=by rw [<- hZl];exact midC_end Z ((ByteArray.empty,0,0,0,[]),.slice none 0 0)
      rw [e]
      have:=hrow3
      unfold RowA at this
      rwa [show (Z ++ [(((ByteArray.empty,0,0,0,[]):Ac),Value.slice none 0 0)]).length=l.length+1 from by simp [hZl]] at this
    clear hrow3 hgr3 hnn3 hloc3 Hrow Hlv
    go_loopw [6] (fun iv wr=>∃ (k:Nat) (x0 x1 x2 x3 x4:Value),k<=l.length/\iv=.int .i64 k/\plA l s l.length=plA l s k/\wr.ownsRow w.heap.size 122 5 (.slice (some ⟨g',0,none⟩) (l.length+1) c') (l.length+1) (midC Z k [x0,x1,x2,x3,x4]).flatten/\Lvs w.heap.size wr g' Z/\Below w.heap.size w wr) (fun iv _=>(intOf iv).toNat)
    case atStart=>exact ⟨l.length,_,_,_,_,_,Nat.le_refl _,by go_num,rfl,hr3,hlv3,hB3⟩
    case round =>
      obtain ⟨k,x0,x1,x2,x3,x4,hk,rfl,hpl,ho,hlv,hb⟩:=hrel
      clear hr3 hlv3 hB3
      have Hpl:=hide hpl
      have Hlv:=hide hlv
      have hgw:w.heap.size<=g':=(World.ownsRow.lt ho g' rfl).1
      have hkL:(k:Int) < ((l.length+1:Nat):Int):=by omega
      have hkN:k < l.length+1:=by omega
      have Hset:Hid (∀ y0 y1 y2 y3 y4:Value,((((((midC Z k [x0,x1,x2,x3,x4]).flatten.set (k * 5) y0).set (k * 5+1) y1).set (k * 5+2) y2).set (k * 5+3) y3).set (k * 5+4) y4)=(midC Z k [y0,y1,y2,y3,y4]).flatten):=hide (fun y0 y1 y2 y3 y4=>by
        rw [flat_put5 _ k _ _ _ _ _ (by rw [midC_len Z k _ (by omega)];omega) (midC_sz Z k _ rfl),midC_set Z k _ _ (by omega)])
      have Hat:Hid (∀ j,j < 5->(midC Z k [x0,x1,x2,x3,x4]).flatten[k * 5+j]?=[x0,x1,x2,x3,x4][j]?):=hide (fun j hj=>by
        rw [flat_get 5 _ k j (by rw [midC_len Z k _ (by omega)];omega) (midC_sz Z k _ rfl) hj,midC_at Z k _ (by omega)])
      have q0:=ho.cellAt (k * 5) (by omega)
      have q1:=ho.cellAt (k * 5+1) (by omega)
      have q2:=ho.cellAt (k * 5+2) (by omega)
      have q3:=ho.cellAt (k * 5+3) (by omega)
      have q4:=ho.cellAt (k * 5+4) (by omega)
      have f0:=ho.frozenAt (k * 5)
      have f1:=ho.frozenAt (k * 5+1)
      have f2:=ho.frozenAt (k * 5+2)
      have f3:=ho.frozenAt (k * 5+3)
      have f4:=ho.frozenAt (k * 5+4)
      rw [<- Nat.add_zero (k * 5),Hat.out 0 (by omega)] at q0
      rw [Nat.add_zero] at q0
      rw [Hat.out 1 (by omega)] at q1
      rw [Hat.out 2 (by omega)] at q2
      rw [Hat.out 3 (by omega)] at q3
      rw [Hat.out 4 (by omega)] at q4
      simp only [List.getElem?_cons_zero,List.getElem?_cons_succ] at q0 q1 q2 q3 q4
      have Hend:Hid (plA l s k=k->∀ wz:World,wz.ownsRow w.heap.size 122 5 (.slice (some ⟨g',0,none⟩) (l.length+1) c') (l.length+1) (midC Z k (acC (newAc s,.slice none 0 0))).flatten->Lvs w.heap.size wz g' Z->OwnA w.heap.size wz (.slice (some ⟨g',0,none⟩) (l.length+1) c') (withA l s)):=hide (fun hp wz hz hlz=>by
        rw [Hw.out,Hpl.out,hp]
        rw [midC_put] at hz
        have hm:(Z.take k ++ (newAc s,Value.slice none 0 0) :: Z.drop k).map (·.1)=l.take k ++ newAc s :: l.drop k:=by rw [List.map_append,List.map_cons,List.map_take,List.map_drop,HZ.out]
        have hlen:(l.take k ++ newAc s :: l.drop k).length=l.length+1:=by simp;omega
        exact ⟨g',c',_,hm,by rw [hlen],by rw [hlen];exact hz,hlz.mid _ rfl k⟩)
      have Ho:=hide ho
      clear ho hlv hpl
      by_cases hk0:0 < k
      · have hj:k - 1 < l.length:=by omega
        have hpos:(0:Int) < (k:Int):=by omega
        have hix:((k:Int) - 1).toNat=k - 1:=by omega
        have hix1:(0:Int)<=(k:Int) - 1:=by omega
        have hix2:(k:Int) - 1 < ((l.length+1:Nat):Int):=by omega
        have hZk:(Z[k - 1]'(by omega)).1=l[k - 1]:=by have:=HZ.out;subst this;simp
        have Hpv:Hid (∀ j,j < 5->(midC Z k [x0,x1,x2,x3,x4]).flatten[(k - 1) * 5+j]?=(acC (Z[k - 1]'(by omega)))[j]?):=hide (fun j hj=>by
          rw [flat_get 5 _ (k - 1) j (by rw [midC_len Z k _ (by omega)];omega) (midC_sz Z k _ rfl) hj]
          obtain ⟨m,rfl⟩:∃ m,k=m+1:=⟨k - 1,by omega⟩
          simp only [Nat.add_sub_cancel]
          rw [midC_prev Z m _ (by omega)])
        have c0:=Ho.out.cellAt ((k - 1) * 5) (by omega)
        have c1:=Ho.out.cellAt ((k - 1) * 5+1) (by omega)
        have c2:=Ho.out.cellAt ((k - 1) * 5+2) (by omega)
        have c3:=Ho.out.cellAt ((k - 1) * 5+3) (by omega)
        have c4:=Ho.out.cellAt ((k - 1) * 5+4) (by omega)
        rw [<- Nat.add_zero ((k - 1) * 5),Hpv.out 0 (by omega)] at c0
        rw [Nat.add_zero] at c0
        rw [Hpv.out 1 (by omega)] at c1
        rw [Hpv.out 2 (by omega)] at c2
        rw [Hpv.out 3 (by omega)] at c3
        rw [Hpv.out 4 (by omega)] at c4
        have Hdn:Hid (∀ wz:World,wz.ownsRow w.heap.size 122 5 (.slice (some ⟨g',0,none⟩) (l.length+1) c') (l.length+1) (midC Z k (acC (Z[k - 1]'(by omega)))).flatten->wz.ownsRow w.heap.size 122 5 (.slice (some ⟨g',0,none⟩) (l.length+1) c') (l.length+1) (midC Z (k - 1) (acC (Z[k - 1]'(by omega)))).flatten):=hide (fun wz h=>by
          obtain ⟨m,rfl⟩:∃ m,k=m+1:=⟨k - 1,by omega⟩
          simp only [Nat.add_sub_cancel] at h ⊢
          rw [<- midC_down Z m (by omega)];exact h)
        have Hnx:Hid (Lt s l[k - 1].1->plA l s k=plA l s (k - 1)):=hide (plA_next hj hk0)
        have Hst:Hid (¬ Lt s l[k - 1].1->plA l s k=k):=hide (fun h=>plA_here hk (.inr ⟨hj,h⟩))
        have hshape:∃ a' n' c'',(Z[k - 1]'(by omega)).2=.slice a' n' c'':=by
          obtain ⟨a',c'',e⟩:=(Hlv.out.own (k - 1) (by omega)).rd.shape
          exact ⟨a',_,c'',e⟩
        have hcs:acC (Z[k - 1]'(by omega))=[.string l[k - 1].1,.int .i64 l[k - 1].2.1,.int .i64 l[k - 1].2.2.1,.int .i64 l[k - 1].2.2.2.1,(Z[k - 1]'(by omega)).2]:=by unfold acC;rw [hZk]
        rw [hcs] at c0 c1 c2 c3 c4 Hdn
        simp only [List.getElem?_cons_zero,List.getElem?_cons_succ] at c0 c1 c2 c3 c4
        clear hcs hZk Hpv
        generalize (Z[k - 1]'(by omega)).2=lw at c4 hshape Hdn
        generalize l[k - 1]=ak at c0 c1 c2 c3 Hdn Hnx Hst
        obtain ⟨nm,fr,no,st,ls⟩:=ak
        obtain ⟨a',n',c'',rfl⟩:=hshape
        simp only at c0 c1 c2 c3 Hdn Hnx Hst
        by_cases hlt:Lt s nm
        · have Hp2:=hide (Hnx.out hlt)
          have b1:Op.bytesLess nm.toList s.toList=false:=lt_false (lt_as hlt)
          have b2:(nm.toList == s.toList)=false:=bytes_ne (fun e=>by rw [e] at hlt;exact lt_no _ hlt)
          clear hlt Hnx Hst Hend
          go_wp2
          go_roundw
          case rel =>
            refine ⟨k - 1,.string nm,.int .i64 fr,.int .i64 no,.int .i64 st,.slice a' n' c'',by omega,by go_num,Hpl.out.trans Hp2.out,?_,((((Hlv.out.set _ _).set _ _).set _ _).set _ _).set _ _,?_⟩
            · have s1:=(Ho.out.stored (k * 5) (.string nm)).1
              have s2:=(s1.stored (k * 5+1) (.int .i64 fr)).1
              have s3:=(s2.stored (k * 5+2) (.int .i64 no)).1
              have s4:=(s3.stored (k * 5+3) (.int .i64 st)).1
              have s5:=(s4.stored (k * 5+4) (.slice a' n' c'')).1
              rw [Hset.out] at s5
              exact Hdn.out _ s5
            · exact ((((hb.setCell (p:=⟨g',k * 5,none⟩) hgw _).setCell (p:=⟨g',k * 5+1,none⟩) hgw _).setCell (p:=⟨g',k * 5+2,none⟩) hgw _).setCell (p:=⟨g',k * 5+3,none⟩) hgw _).setCell (p:=⟨g',k * 5+4,none⟩) hgw _
          case measure=>simp [intOf];omega
        · have Hp2:=hide (Hst.out hlt)
          by_cases he:nm=s
          · subst he
            have b1:Op.bytesLess nm.toList nm.toList=false:=lt_false (lt_no _)
            clear hlt Hnx Hst Hdn
            go_wp2
            go_ret
            have s1:=(Ho.out.stored (k * 5) (.string nm)).1
            have s2:=(s1.stored (k * 5+1) (.int .i64 0)).1
            have s3:=(s2.stored (k * 5+2) (.int .i64 0)).1
            have s4:=(s3.stored (k * 5+3) (.int .i64 0)).1
            have s5:=(s4.stored (k * 5+4) (.slice none 0 0)).1
            rw [Hset.out] at s5
            exact ⟨_,rfl,Hend.out Hp2.out _ s5 (((((Hlv.out.set _ _).set _ _).set _ _).set _ _).set _ _),((((hb.setCell (p:=⟨g',k * 5,none⟩) hgw _).setCell (p:=⟨g',k * 5+1,none⟩) hgw _).setCell (p:=⟨g',k * 5+2,none⟩) hgw _).setCell (p:=⟨g',k * 5+3,none⟩) hgw _).setCell (p:=⟨g',k * 5+4,none⟩) hgw _⟩
          · have b1:Op.bytesLess nm.toList s.toList=true:=lt_or hlt (fun e=>he e.symm)
            clear hlt he Hnx Hst Hdn
            go_wp2
            go_ret
            have s1:=(Ho.out.stored (k * 5) (.string s)).1
            have s2:=(s1.stored (k * 5+1) (.int .i64 0)).1
            have s3:=(s2.stored (k * 5+2) (.int .i64 0)).1
            have s4:=(s3.stored (k * 5+3) (.int .i64 0)).1
            have s5:=(s4.stored (k * 5+4) (.slice none 0 0)).1
            rw [Hset.out] at s5
            exact ⟨_,rfl,Hend.out Hp2.out _ s5 (((((Hlv.out.set _ _).set _ _).set _ _).set _ _).set _ _),((((hb.setCell (p:=⟨g',k * 5,none⟩) hgw _).setCell (p:=⟨g',k * 5+1,none⟩) hgw _).setCell (p:=⟨g',k * 5+2,none⟩) hgw _).setCell (p:=⟨g',k * 5+3,none⟩) hgw _).setCell (p:=⟨g',k * 5+4,none⟩) hgw _⟩
      · have hneg:¬ (0:Int) < (k:Int):=by omega
        have Hp2:Hid (plA l s k=k):=hide (plA_here hk (.inl (by omega)))
        go_wp2
        go_ret
        have s1:=(Ho.out.stored (k * 5) (.string s)).1
        have s2:=(s1.stored (k * 5+1) (.int .i64 0)).1
        have s3:=(s2.stored (k * 5+2) (.int .i64 0)).1
        have s4:=(s3.stored (k * 5+3) (.int .i64 0)).1
        have s5:=(s4.stored (k * 5+4) (.slice none 0 0)).1
        rw [Hset.out] at s5
        exact ⟨_,rfl,Hend.out Hp2.out _ s5 (((((Hlv.out.set _ _).set _ _).set _ _).set _ _).set _ _),((((hb.setCell (p:=⟨g',k * 5,none⟩) hgw _).setCell (p:=⟨g',k * 5+1,none⟩) hgw _).setCell (p:=⟨g',k * 5+2,none⟩) hgw _).setCell (p:=⟨g',k * 5+3,none⟩) hgw _).setCell (p:=⟨g',k * 5+4,none⟩) hgw _⟩
theorem crA_no {l:List Ac} {s:ByteArray} {n:Int} (h:(acsB l && nmB s && inB n 0 1000000)=false):crA l s n=(l,false):=by unfold crA;rw [h];rfl
theorem crA_bad {l:List Ac} {s:ByteArray} {n:Int} (h:(acsB l && nmB s && inB n 0 1000000)=true) (h':acsB (insA (aftA l s n) l)=false):crA l s n=(l,false):=by unfold crA;rw [h,h'];rfl
theorem crA_yes {l:List Ac} {s:ByteArray} {n:Int} (h:(acsB l && nmB s && inB n 0 1000000)=true) (h':acsB (insA (aftA l s n) l)=true):crA l s n=(insA (aftA l s n) l,true):=by unfold crA;rw [h,h'];rfl
theorem set_tl (Z:List (Ac × Value)) (k:Nat) (q:Ac × Value) (hk:k < Z.length) (h:tlZ q=tlZ Z[k]):(Z.set k q).map tlZ=Z.map tlZ:=by
  apply List.ext_getElem (by simp)
  intro i h1 h2
  simp only [List.getElem_map,List.getElem_set]
  by_cases e:k=i
  · subst e;simp [h]
  · simp [e]
theorem OwnA.mono {base base':Nat} {w:World} {v:Value} {l:List Ac} (h:OwnA base w v l) (hB:base'<=base):OwnA base' w v l:=by
  obtain ⟨g,cap,Z,h1,h2,h3,h4⟩:=h
  refine ⟨g,cap,Z,h1,h2,⟨h3.1,?_⟩,h4.mono hB⟩
  rcases h3.2 with h' | ⟨g',cap',cur,hv,hbb,r⟩
  · exact .inl h'
  · exact .inr ⟨g',cap',cur,hv,by omega,r⟩
theorem fst_at {Z:List (Ac × Value)} {L:List Ac} {k:Nat} (hZ:Z.map (·.1)=L) (hk:k < L.length):(Z[k]'(by rw [<- hZ] at hk;simpa using hk)).1=L[k]:=by subst hZ;simp
theorem up_row {base:Nat} {w:World} {g cap:Nat} {Z:List (Ac × Value)} {L:List Ac} {s:ByteArray} {n:Int} {k:Nat} (hZ:Z.map (·.1)=L) (hk:k < L.length) (he:L[k].1=s) (hn:∀ j (hj:j < k),(L[j]'(by omega)).1 ≠ s)
    (hrow:w.ownsRow base 122 5 (.slice (some ⟨g,0,none⟩) L.length cap) L.length (Z.map acC).flatten) (hlv:Lvs base w g Z) :
    OwnA base (w.setCell ⟨g,k * 5+1,none⟩ (.int .i64 (wrap64 (L[k].2.1+n)))) (.slice (some ⟨g,0,none⟩) L.length cap) (upA s n L):=by
  have hZl:Z.length=L.length:=by rw [<- hZ];simp
  have hZk:(Z[k]'(by omega)).1=L[k]:=by subst hZ;simp
  have hst:=(hrow.stored (k * 5+1) (.int .i64 (wrap64 (L[k].2.1+n)))).1
  have e:(Z.map acC).flatten.set (k * 5+1) (.int .i64 (wrap64 (L[k].2.1+n)))=((Z.set k ((L[k].1,wrap64 (L[k].2.1+n),L[k].2.2),(Z[k]'(by omega)).2)).map acC).flatten:=by
    rw [flat_set 5 _ (Z.map acC) k 1 (by simp;omega) (acM_sz Z) (by omega),List.map_set]
    congr 2
    simp [acC,hZk]
  rw [e] at hst
  have hup:=upA_set s n L k hk he hn
  have hm:(Z.set k ((L[k].1,wrap64 (L[k].2.1+n),L[k].2.2),(Z[k]'(by omega)).2)).map (·.1)=upA s n L:=by rw [hup,List.map_set,hZ]
  refine ⟨g,cap,_,hm,by rw [upA_len],by rw [upA_len];exact hst,((hlv.set _ _).same ?_)⟩
  exact set_tl Z k _ (by omega) (by unfold tlZ;simp [hZk])
end Go.Proofs.YthehfkafcdociaaGreatDoor
