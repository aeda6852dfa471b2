/- Drawn accounts that may be wrong, and what is drawn for Credit. -/
import Derived.Test.YtohachldbpejpaaGreatDoorZoAcCopy
set_option maxRecDepth 20000
set_option maxHeartbeats 2000000
namespace Go.Proofs.YtohachldbpejpaaGreatDoor
open Go.RowKit
set_option linter.unusedVariables false
theorem atF_get (s:ByteArray):∀ (l:List Ac) (n:Nat) (a:Ac),getA s l=some a->∃ (k:Nat) (h:k < l.length),atF s l n=((n+k:Nat):Int)/\l[k]=a/\a.1=s/\∀ j (hj:j < k),(l[j]'(by omega)).1 ≠ s
  | [],n,a,h=>by simp [getA] at h
  | x :: t,n,a,h=>by
    unfold getA at h
    split at h
    · rename_i he
      simp at h
      subst h
      exact ⟨0,by simp,by unfold atF;rw [if_pos he];simp,rfl,he,fun j hj=>by omega⟩
    · rename_i he
      obtain ⟨k,hk,h1,h2,h3,h4⟩:=atF_get s t (n+1) a h
      refine ⟨k+1,by simp;omega,by unfold atF;rw [if_neg he,h1];omega,by simpa using h2,h3,fun j hj=>?_⟩
      cases j with
      | zero=>exact he
      | succ j=>simpa using h4 j (by omega)
theorem at_get {s:ByteArray} {l:List Ac} {a:Ac} (h:getA s l=some a):∃ (k:Nat) (h:k < l.length),atA l s=(k:Int)/\l[k]=a/\a.1=s/\∀ j (hj:j < k),(l[j]'(by omega)).1 ≠ s:=by
  obtain ⟨k,hk,h1,r⟩:=atF_get s l 0 a h
  exact ⟨k,hk,by unfold atA;rw [h1];omega,r⟩
theorem at_not {s:ByteArray} {l:List Ac} (h:getA s l=none):atA l s=-1:=atF_none s l 0 (fun j hj=>getA_none h _ (List.getElem_mem _))
theorem getA_has {s:ByteArray}:∀ {l:List Ac},(∃ x ∈ l,x.1=s)->∃ a,getA s l=some a
  | [],h=>by simp at h
  | x :: t,h=>by
    unfold getA
    split
    · exact ⟨_,rfl⟩
    · rename_i he
      obtain ⟨y,hy,e⟩:=h
      rcases List.mem_cons.1 hy with rfl | hy
      · exact absurd e he
      · exact getA_has ⟨y,hy,e⟩
theorem with_has (l:List Ac) (s:ByteArray):∃ a,getA s (withA l s)=some a:=by
  unfold withA
  split
  · exact getA_has ⟨newAc s,by simp,rfl⟩
  · rename_i h
    cases hg:getA s l with
    | none=>exact absurd hg h
    | some a=>exact ⟨a,rfl⟩
theorem upA_set (s:ByteArray) (n:Int):∀ (l:List Ac) (k:Nat) (h:k < l.length),l[k].1=s->(∀ j (hj:j < k),(l[j]'(by omega)).1 ≠ s)->upA s n l=l.set k (l[k].1,wrap64 (l[k].2.1+n),l[k].2.2)
  | [],k,h,_,_=>by simp at h
  | x :: t,0,h,he,_=>by
    unfold upA
    rw [if_pos (by simpa using he)]
    rfl
  | x :: t,k+1,h,he,hn=>by
    unfold upA
    rw [if_neg (by simpa using hn 0 (by omega)),upA_set s n t k (by simpa using h) (by simpa using he) (fun j hj=>by simpa using hn (j+1) (by omega))]
    rfl
theorem upA_len (s:ByteArray) (n:Int):∀ l:List Ac,(upA s n l).length=l.length
  | []=>rfl
  | x :: t=>by
    unfold upA
    split
    · rfl
    · simp [upA_len s n t]
theorem withA_len (l:List Ac) (s:ByteArray):(withA l s).length<=l.length+1:=by
  unfold withA
  split
  · simp;omega
  · omega
def tlZ (q:Ac × Value):Value × List (Int × Int):=(q.2,q.1.2.2.2.2)
structure LvQ (base:Nat) (w:World) (g:Nat) (T:List (Value × List (Int × Int))):Prop where
  own:∀ t ∈ T,OwnL base w t.1 t.2
  far:∀ t ∈ T,∀ k,t.1.ownBlock=some k->k ≠ g
  apart:T.Pairwise (fun a b=>∀ k,a.1.ownBlock=some k->b.1.ownBlock ≠ some k)
theorem Lvs.heap {base:Nat} {w:World} {g:Nat} {Z:List (Ac × Value)} (h:Lvs base w g Z):LvQ base w g (Z.map tlZ):=by
  refine ⟨fun t ht=>?_,fun t ht=>?_,?_⟩
  · obtain ⟨q,hq,rfl⟩:=List.mem_map.1 ht
    obtain ⟨i,hi,rfl⟩:=List.mem_iff_getElem.1 hq
    exact h.own i hi
  · obtain ⟨q,hq,rfl⟩:=List.mem_map.1 ht
    obtain ⟨i,hi,rfl⟩:=List.mem_iff_getElem.1 hq
    exact h.far i hi
  · rw [List.pairwise_map]
    exact List.pairwise_iff_getElem.2 fun i j hi hj hij=>h.apart i j hi hj (by omega)
theorem LvQ.lvs {base:Nat} {w:World} {g:Nat} {Z:List (Ac × Value)} (h:LvQ base w g (Z.map tlZ)):Lvs base w g Z:=by
  have hp:=List.pairwise_iff_getElem.1 (List.pairwise_map.1 h.apart)
  refine ⟨fun i hi=>h.own _ (List.mem_map_of_mem (List.getElem_mem hi)),fun i hi=>h.far _ (List.mem_map_of_mem (List.getElem_mem hi)),fun i j hi hj hij k hk=>?_⟩
  by_cases hlt:i < j
  · exact hp i j hi hj hlt k hk
  · exact fun e=>hp j i hj hi (by omega) k e hk
theorem LvQ.perm {base:Nat} {w:World} {g:Nat} {T T':List (Value × List (Int × Int))} (h:LvQ base w g T) (hp:T.Perm T'):LvQ base w g T' :=
  ⟨fun t ht=>h.own t (hp.mem_iff.2 ht),fun t ht=>h.far t (hp.mem_iff.2 ht),(hp.pairwise_iff (fun {a b} hab k hk e=>hab k e hk)).1 h.apart⟩
theorem LvQ.cons_nil {base:Nat} {w:World} {g:Nat} {T:List (Value × List (Int × Int))} (h:LvQ base w g T):LvQ base w g ((.slice none 0 0,[]) :: T):=by
  refine ⟨fun t ht=>?_,fun t ht=>?_,List.pairwise_cons.2 ⟨fun t _ k hk=>by simp [Value.ownBlock] at hk,h.apart⟩⟩
  · rcases List.mem_cons.1 ht with rfl | ht
    · exact own_noneL _ _
    · exact h.own t ht
  · rcases List.mem_cons.1 ht with rfl | ht
    · intro k hk;simp [Value.ownBlock] at hk
    · exact h.far t ht
theorem Lvs.mid {base:Nat} {w:World} {g:Nat} {Z:List (Ac × Value)} (h:Lvs base w g Z) (q:Ac × Value) (hq:tlZ q=(.slice none 0 0,[])) (k:Nat):Lvs base w g (Z.take k ++ q :: Z.drop k):=by
  refine LvQ.lvs ?_
  have e:(Z.take k ++ q :: Z.drop k).map tlZ=(Z.take k).map tlZ ++ (.slice none 0 0,[]) :: (Z.drop k).map tlZ:=by rw [List.map_append,List.map_cons,hq]
  rw [e]
  refine (LvQ.cons_nil h.heap).perm ?_
  refine (List.Perm.trans ?_ List.perm_middle.symm)
  rw [<- List.map_append,List.take_append_drop]
theorem Lvs.same {base:Nat} {w:World} {g:Nat} {Z Z':List (Ac × Value)} (h:Lvs base w g Z) (e:Z'.map tlZ=Z.map tlZ):Lvs base w g Z':=LvQ.lvs (by rw [e];exact h.heap)
def midC (Z:List (Ac × Value)) (k:Nat) (x:List Value):List (List Value):=(Z.take k).map acC ++ x :: (Z.drop k).map acC
theorem midC_len (Z:List (Ac × Value)) (k:Nat) (x:List Value) (h:k<=Z.length):(midC Z k x).length=Z.length+1:=by simp [midC];omega
theorem midC_sz (Z:List (Ac × Value)) (k:Nat) (x:List Value) (hx:x.length=5):∀ y ∈ midC Z k x,y.length=5:=by
  intro y hy
  rcases List.mem_append.1 hy with h | h
  · exact acM_sz _ y h
  · rcases List.mem_cons.1 h with rfl | h
    · exact hx
    · exact acM_sz _ y h
theorem midC_set (Z:List (Ac × Value)) (k:Nat) (x y:List Value) (h:k<=Z.length):(midC Z k x).set k y=midC Z k y:=by
  unfold midC
  have e:((Z.take k).map acC).length=k:=by simp;omega
  rw [List.set_append_right _ _ (by omega),e,Nat.sub_self]
  rfl
theorem midC_at (Z:List (Ac × Value)) (k:Nat) (x:List Value) (h:k<=Z.length):(midC Z k x)[k]'(by rw [midC_len _ _ _ h];omega)=x:=by
  unfold midC
  rw [List.getElem_append_right (by simp;omega)]
  simp [show k - min k Z.length=0 from by omega]
theorem midC_prev (Z:List (Ac × Value)) (k:Nat) (x:List Value) (h:k+1<=Z.length):(midC Z (k+1) x)[k]'(by rw [midC_len _ _ _ h];omega)=acC (Z[k]'(by omega)):=by
  unfold midC
  rw [List.getElem_append_left (by simp;omega)]
  simp
theorem midC_down (Z:List (Ac × Value)) (k:Nat) (h:k < Z.length):midC Z (k+1) (acC Z[k])=midC Z k (acC Z[k]):=by
  unfold midC
  rw [List.take_succ_eq_append_getElem h,List.drop_eq_getElem_cons h,List.map_append,List.map_cons,List.append_assoc]
  rfl
theorem midC_end (Z:List (Ac × Value)) (q:Ac × Value):midC Z Z.length (acC q)=(Z ++ [q]).map acC:=by simp [midC]
theorem midC_put (Z:List (Ac × Value)) (k:Nat) (q:Ac × Value):midC Z k (acC q)=(Z.take k ++ q :: Z.drop k).map acC:=by simp [midC]
theorem RowA.shapeN {base:Nat} {w:World} {v:Value} {Z:List (Ac × Value)} (h:RowA base w v Z) (hn:v ≠ .slice none 0 0) (n:Nat) (hZ:Z.length=n):∃ g cap,v=.slice (some ⟨g,0,none⟩) n cap:=by
  obtain ⟨g,cap,e⟩:=h.shape hn
  exact ⟨g,cap,by rw [e,hZ]⟩
theorem plA_here {l:List Ac} {s:ByteArray} {k:Nat} (hk:k<=l.length) (h:k=0\/∃ h:k - 1 < l.length,¬ Lt s l[k - 1].1):plA l s k=k:=by
  cases k with
  | zero=>rfl
  | succ j =>
    rcases h with h | ⟨h1,h2⟩
    · omega
    · unfold plA
      have:l.getD j ac0=l[j]:=by rw [List.getD_eq_getElem?_getD,List.getElem?_eq_getElem (show j < l.length by omega)];rfl
      rw [this]
      exact if_neg h2
theorem plA_next {l:List Ac} {s:ByteArray} {k:Nat} (hk:k - 1 < l.length) (h0:0 < k) (h:Lt s l[k - 1].1):plA l s k=plA l s (k - 1):=by
  cases k with
  | zero=>omega
  | succ j =>
    show plA l s (j+1)=plA l s j
    have:l.getD j ac0=l[j]'(by omega):=by rw [List.getD_eq_getElem?_getD,List.getElem?_eq_getElem (show j < l.length by omega)];rfl
    rw [plA,this]
    exact if_pos h
theorem specWith_any (v:Value) (l:List Ac) (s:ByteArray) (w:World) (hr:RdA w v l) (hl:l.length<=4000000) (hall:∀ a ∈ l,a.2.2.2.2.length<=4000000) :
    Calls Tryz.prog 201 #[v,.string s] w fun e w'=>∃ v',e=.returned v'/\OwnA w.heap.size w' v' (withA l s)/\Below w.heap.size w w':=by
  have Hr:=hide hr
  have HC:=hide (specCopy_any v l w hr hl hall)
  have HA:=hide (fun w h=>specAcctAt_any v l s w h hl)
  clear hr hall
  go_enter Tryz.func201,Tryz.ntmps201
  go_wp2_with fail
  refine HC.out.mono ?_
  rintro e w1 ⟨v1,rfl,ho1,hb1⟩
  have HA1:=hide (HA.out w1 (Hr.out.below hb1 (Nat.le_refl _)))
  have Ho1:=hide ho1
  clear HA ho1 HC Hr
  cases hg:getA s l with
  | some a =>
    obtain ⟨k,hk,hat,-,-,-⟩:=at_get hg
    have Hw:Hid (withA l s=l):=hide (by unfold withA;rw [hg];exact if_neg (by simp))
    rw [hat] at HA1
    have hk0:(0:Int)<=(k:Int):=by omega
    clear hat hg
    go_wp2_with fail
    refine HA1.out.mono ?_
    rintro e w2 ⟨rfl,hb2⟩
    go_wp2
    go_ret
    exact ⟨v1,rfl,by rw [Hw.out];exact Ho1.out.below hb2 (Nat.le_refl _),hb1.trans (hb2.mono hb1.size)⟩
  | none =>
    have Hw:Hid (withA l s=l.take (plA l s l.length) ++ newAc s :: l.drop (plA l s l.length)):=hide (by unfold withA;rw [hg];exact if_pos rfl)
    rw [at_not hg] at HA1
    clear hg
    go_wp2_with fail
    refine HA1.out.mono ?_
    rintro e w2 ⟨rfl,hb2⟩
    have ho2:=Ho1.out.below hb2 (Nat.le_refl _)
    have hB2:Below w.heap.size w w2:=hb1.trans (hb2.mono hb1.size)
    obtain ⟨g,cap,Z,hZ,rfl,hrow,hlv⟩:=ho2
    have hZl:Z.length=l.length:=by rw [<- hZ];simp
    have HZ:=hide hZ
    have Hrow:Hid (RowA w.heap.size w2 (.slice (some ⟨g,0,none⟩) l.length cap) Z):=hide (by unfold RowA;rw [hZl];exact hrow)
    have Hlv:=hide hlv
    have hwg:w.heap.size<=g:=Hrow.out.ge g rfl
    have hs2:=hB2.size
    clear hZ hrow hlv Ho1 HA1 hb1 hb2
    go_wp2_with (at_builtin;refine app_ownA _ rfl _ _ rfl w.heap.size (.slice (some ⟨g,0,none⟩) l.length cap) _ Z ((ByteArray.empty,0,0,0,[]),.slice none 0 0) rfl rfl (World.ownsRow.alloc Hrow.out _) (Blk.new' _ _ (acC ((ByteArray.empty,0,0,0,[]),.slice none 0 0)) _ (by simp)) rfl (by omega) (by simp;omega) ?_;intro v3 w3 hrow3 hgr3 hnn3 hloc3;obtain ⟨g',c',rfl⟩:=hrow3.shapeN hnn3 (l.length+1) (by simp [hZl]))
    have hB3:Below w.heap.size w w3:=(hB2.alloc hs2 _).grown hgr3 (by simp;omega) (fun j hj=>by cases hj;exact hwg)
    have hlv3:Lvs w.heap.size w3 g' Z:=(Hlv.out.below ((Below.refl _ w2).alloc (Nat.le_refl _) _) (Nat.le_refl _)).move hgr3 (by
      rcases hloc3 with h | h
      · exact .inl (by simpa [Value.ownBlock] using h)
      · exact .inr (by simp [Value.ownBlock] at h ⊢;omega))
    have hr3:w3.ownsRow w.heap.size 105 5 (.slice (some ⟨g',0,none⟩) (l.length+1) c') (l.length+1) (midC Z l.length [.string { data:=#[] },.int .i64 0,.int .i64 0,.int .i64 0,.slice none 0 0]).flatten:=by
      have e:midC Z l.length [.string { data:=#[] },.int .i64 0,.int .i64 0,.int .i64 0,.slice none 0 0]=(Z ++ [(((ByteArray.empty,0,0,0,[]):Ac),Value.slice none 0 0)]).map acC:=by rw [<- hZl];exact midC_end Z ((ByteArray.empty,0,0,0,[]),.slice none 0 0)
      rw [e]
      have:=hrow3
      unfold RowA at this
      rwa [show (Z ++ [(((ByteArray.empty,0,0,0,[]):Ac),Value.slice none 0 0)]).length=l.length+1 from by simp [hZl]] at this
    clear hrow3 hgr3 hnn3 hloc3 Hrow Hlv
    go_loopw [6] (fun iv wr=>∃ (k:Nat) (x0 x1 x2 x3 x4:Value),k<=l.length/\iv=.int .i64 k/\plA l s l.length=plA l s k/\wr.ownsRow w.heap.size 105 5 (.slice (some ⟨g',0,none⟩) (l.length+1) c') (l.length+1) (midC Z k [x0,x1,x2,x3,x4]).flatten/\Lvs w.heap.size wr g' Z/\Below w.heap.size w wr) (fun iv _=>(intOf iv).toNat)
    case atStart=>exact ⟨l.length,_,_,_,_,_,Nat.le_refl _,by go_num,rfl,hr3,hlv3,hB3⟩
    case round =>
      obtain ⟨k,x0,x1,x2,x3,x4,hk,rfl,hpl,ho,hlv,hb⟩:=hrel
      clear hr3 hlv3 hB3
      have Hpl:=hide hpl
      have Hlv:=hide hlv
      have hgw:w.heap.size<=g':=(World.ownsRow.lt ho g' rfl).1
      have hkL:(k:Int) < ((l.length+1:Nat):Int):=by omega
      have hkN:k < l.length+1:=by omega
      have Hset:Hid (∀ y0 y1 y2 y3 y4:Value,((((((midC Z k [x0,x1,x2,x3,x4]).flatten.set (k * 5) y0).set (k * 5+1) y1).set (k * 5+2) y2).set (k * 5+3) y3).set (k * 5+4) y4)=(midC Z k [y0,y1,y2,y3,y4]).flatten):=hide (fun y0 y1 y2 y3 y4=>by
        rw [flat_put5 _ k _ _ _ _ _ (by rw [midC_len Z k _ (by omega)];omega) (midC_sz Z k _ rfl),midC_set Z k _ _ (by omega)])
      have Hat:Hid (∀ j,j < 5->(midC Z k [x0,x1,x2,x3,x4]).flatten[k * 5+j]?=[x0,x1,x2,x3,x4][j]?):=hide (fun j hj=>by
        rw [flat_get 5 _ k j (by rw [midC_len Z k _ (by omega)];omega) (midC_sz Z k _ rfl) hj,midC_at Z k _ (by omega)])
      have q0:=ho.cellAt (k * 5) (by omega)
      have q1:=ho.cellAt (k * 5+1) (by omega)
      have q2:=ho.cellAt (k * 5+2) (by omega)
      have q3:=ho.cellAt (k * 5+3) (by omega)
      have q4:=ho.cellAt (k * 5+4) (by omega)
      have f0:=ho.frozenAt (k * 5)
      have f1:=ho.frozenAt (k * 5+1)
      have f2:=ho.frozenAt (k * 5+2)
      have f3:=ho.frozenAt (k * 5+3)
      have f4:=ho.frozenAt (k * 5+4)
      rw [<- Nat.add_zero (k * 5),Hat.out 0 (by omega)] at q0
      rw [Nat.add_zero] at q0
      rw [Hat.out 1 (by omega)] at q1
      rw [Hat.out 2 (by omega)] at q2
      rw [Hat.out 3 (by omega)] at q3
      rw [Hat.out 4 (by omega)] at q4
      simp only [List.getElem?_cons_zero,List.getElem?_cons_succ] at q0 q1 q2 q3 q4
      have Hend:Hid (plA l s k=k->∀ wz:World,wz.ownsRow w.heap.size 105 5 (.slice (some ⟨g',0,none⟩) (l.length+1) c') (l.length+1) (midC Z k (acC (newAc s,.slice none 0 0))).flatten->Lvs w.heap.size wz g' Z->OwnA w.heap.size wz (.slice (some ⟨g',0,none⟩) (l.length+1) c') (withA l s)):=hide (fun hp wz hz hlz=>by
        rw [Hw.out,Hpl.out,hp]
        rw [midC_put] at hz
        have hm:(Z.take k ++ (newAc s,Value.slice none 0 0) :: Z.drop k).map (·.1)=l.take k ++ newAc s :: l.drop k:=by rw [List.map_append,List.map_cons,List.map_take,List.map_drop,HZ.out]
        have hlen:(l.take k ++ newAc s :: l.drop k).length=l.length+1:=by simp;omega
        exact ⟨g',c',_,hm,by rw [hlen],by rw [hlen];exact hz,hlz.mid _ rfl k⟩)
      have Ho:=hide ho
      clear ho hlv hpl
      by_cases hk0:0 < k
      · have hj:k - 1 < l.length:=by omega
        have hpos:(0:Int) < (k:Int):=by omega
        have hix:((k:Int) - 1).toNat=k - 1:=by omega
        have hix1:(0:Int)<=(k:Int) - 1:=by omega
        have hix2:(k:Int) - 1 < ((l.length+1:Nat):Int):=by omega
        have hZk:(Z[k - 1]'(by omega)).1=l[k - 1]:=by have:=HZ.out;subst this;simp
        have Hpv:Hid (∀ j,j < 5->(midC Z k [x0,x1,x2,x3,x4]).flatten[(k - 1) * 5+j]?=(acC (Z[k - 1]'(by omega)))[j]?):=hide (fun j hj=>by
          rw [flat_get 5 _ (k - 1) j (by rw [midC_len Z k _ (by omega)];omega) (midC_sz Z k _ rfl) hj]
          obtain ⟨m,rfl⟩:∃ m,k=m+1:=⟨k - 1,by omega⟩
          simp only [Nat.add_sub_cancel]
          rw [midC_prev Z m _ (by omega)])
        have c0:=Ho.out.cellAt ((k - 1) * 5) (by omega)
        have c1:=Ho.out.cellAt ((k - 1) * 5+1) (by omega)
        have c2:=Ho.out.cellAt ((k - 1) * 5+2) (by omega)
        have c3:=Ho.out.cellAt ((k - 1) * 5+3) (by omega)
        have c4:=Ho.out.cellAt ((k - 1) * 5+4) (by omega)
        rw [<- Nat.add_zero ((k - 1) * 5),Hpv.out 0 (by omega)] at c0
        rw [Nat.add_zero] at c0
        rw [Hpv.out 1 (by omega)] at c1
        rw [Hpv.out 2 (by omega)] at c2
        rw [Hpv.out 3 (by omega)] at c3
        rw [Hpv.out 4 (by omega)] at c4
        have Hdn:Hid (∀ wz:World,wz.ownsRow w.heap.size 105 5 (.slice (some ⟨g',0,none⟩) (l.length+1) c') (l.length+1) (midC Z k (acC (Z[k - 1]'(by omega)))).flatten->wz.ownsRow w.heap.size 105 5 (.slice (some ⟨g',0,none⟩) (l.length+1) c') (l.length+1) (midC Z (k - 1) (acC (Z[k - 1]'(by omega)))).flatten):=hide (fun wz h=>by
          obtain ⟨m,rfl⟩:∃ m,k=m+1:=⟨k - 1,by omega⟩
          simp only [Nat.add_sub_cancel] at h ⊢
          rw [<- midC_down Z m (by omega)];exact h)
        have Hnx:Hid (Lt s l[k - 1].1->plA l s k=plA l s (k - 1)):=hide (plA_next hj hk0)
        have Hst:Hid (¬ Lt s l[k - 1].1->plA l s k=k):=hide (fun h=>plA_here hk (.inr ⟨hj,h⟩))
        have hshape:∃ a' n' c'',(Z[k - 1]'(by omega)).2=.slice a' n' c'':=by
          obtain ⟨a',c'',e⟩:=(Hlv.out.own (k - 1) (by omega)).rd.shape
          exact ⟨a',_,c'',e⟩
        have hcs:acC (Z[k - 1]'(by omega))=[.string l[k - 1].1,.int .i64 l[k - 1].2.1,.int .i64 l[k - 1].2.2.1,.int .i64 l[k - 1].2.2.2.1,(Z[k - 1]'(by omega)).2]:=by unfold acC;rw [hZk]
        rw [hcs] at c0 c1 c2 c3 c4 Hdn
        simp only [List.getElem?_cons_zero,List.getElem?_cons_succ] at c0 c1 c2 c3 c4
        clear hcs hZk Hpv
        generalize (Z[k - 1]'(by omega)).2=lw at c4 hshape Hdn
        generalize l[k - 1]=ak at c0 c1 c2 c3 Hdn Hnx Hst
        obtain ⟨nm,fr,no,st,ls⟩:=ak
        obtain ⟨a',n',c'',rfl⟩:=hshape
        simp only at c0 c1 c2 c3 Hdn Hnx Hst
        by_cases hlt:Lt s nm
        · have Hp2:=hide (Hnx.out hlt)
          have b1:Op.bytesLess nm.toList s.toList=false:=lt_false (lt_as hlt)
          have b2:(nm.toList == s.toList)=false:=bytes_ne (fun e=>by rw [e] at hlt;exact lt_no _ hlt)
          clear hlt Hnx Hst Hend
          go_wp2
          go_roundw
          case rel =>
            refine ⟨k - 1,.string nm,.int .i64 fr,.int .i64 no,.int .i64 st,.slice a' n' c'',by omega,by go_num,Hpl.out.trans Hp2.out,?_,((((Hlv.out.set _ _).set _ _).set _ _).set _ _).set _ _,?_⟩
            · have s1:=(Ho.out.stored (k * 5) (.string nm)).1
              have s2:=(s1.stored (k * 5+1) (.int .i64 fr)).1
              have s3:=(s2.stored (k * 5+2) (.int .i64 no)).1
              have s4:=(s3.stored (k * 5+3) (.int .i64 st)).1
              have s5:=(s4.stored (k * 5+4) (.slice a' n' c'')).1
              rw [Hset.out] at s5
              exact Hdn.out _ s5
            · exact ((((hb.setCell (p:=⟨g',k * 5,none⟩) hgw _).setCell (p:=⟨g',k * 5+1,none⟩) hgw _).setCell (p:=⟨g',k * 5+2,none⟩) hgw _).setCell (p:=⟨g',k * 5+3,none⟩) hgw _).setCell (p:=⟨g',k * 5+4,none⟩) hgw _
          case measure=>simp [intOf];omega
        · have Hp2:=hide (Hst.out hlt)
          by_cases he:nm=s
          · subst he
            have b1:Op.bytesLess nm.toList nm.toList=false:=lt_false (lt_no _)
            clear hlt Hnx Hst Hdn
            go_wp2
            go_ret
            have s1:=(Ho.out.stored (k * 5) (.string nm)).1
            have s2:=(s1.stored (k * 5+1) (.int .i64 0)).1
            have s3:=(s2.stored (k * 5+2) (.int .i64 0)).1
            have s4:=(s3.stored (k * 5+3) (.int .i64 0)).1
            have s5:=(s4.stored (k * 5+4) (.slice none 0 0)).1
            rw [Hset.out] at s5
            exact ⟨_,rfl,Hend.out Hp2.out _ s5 (((((Hlv.out.set _ _).set _ _).set _ _).set _ _).set _ _),((((hb.setCell (p:=⟨g',k * 5,none⟩) hgw _).setCell (p:=⟨g',k * 5+1,none⟩) hgw _).setCell (p:=⟨g',k * 5+2,none⟩) hgw _).setCell (p:=⟨g',k * 5+3,none⟩) hgw _).setCell (p:=⟨g',k * 5+4,none⟩) hgw _⟩
          · have b1:Op.bytesLess nm.toList s.toList=true:=lt_or hlt (fun e=>he e.symm)
            clear hlt he Hnx Hst Hdn
            go_wp2
            go_ret
            have s1:=(Ho.out.stored (k * 5) (.string s)).1
            have s2:=(s1.stored (k * 5+1) (.int .i64 0)).1
            have s3:=(s2.stored (k * 5+2) (.int .i64 0)).1
            have s4:=(s3.stored (k * 5+3) (.int .i64 0)).1
            have s5:=(s4.stored (k * 5+4) (.slice none 0 0)).1
            rw [Hset.out] at s5
            exact ⟨_,rfl,Hend.out Hp2.out _ s5 (((((Hlv.out.set _ _).set _ _).set _ _).set _ _).set _ _),((((hb.setCell (p:=⟨g',k * 5,none⟩) hgw _).setCell (p:=⟨g',k * 5+1,none⟩) hgw _).setCell (p:=⟨g',k * 5+2,none⟩) hgw _).setCell (p:=⟨g',k * 5+3,none⟩) hgw _).setCell (p:=⟨g',k * 5+4,none⟩) hgw _⟩
      · have hneg:¬ (0:Int) < (k:Int):=by omega
        have Hp2:Hid (plA l s k=k):=hide (plA_here hk (.inl (by omega)))
        go_wp2
        go_ret
        have s1:=(Ho.out.stored (k * 5) (.string s)).1
        have s2:=(s1.stored (k * 5+1) (.int .i64 0)).1
        have s3:=(s2.stored (k * 5+2) (.int .i64 0)).1
        have s4:=(s3.stored (k * 5+3) (.int .i64 0)).1
        have s5:=(s4.stored (k * 5+4) (.slice none 0 0)).1
        rw [Hset.out] at s5
        exact ⟨_,rfl,Hend.out Hp2.out _ s5 (((((Hlv.out.set _ _).set _ _).set _ _).set _ _).set _ _),((((hb.setCell (p:=⟨g',k * 5,none⟩) hgw _).setCell (p:=⟨g',k * 5+1,none⟩) hgw _).setCell (p:=⟨g',k * 5+2,none⟩) hgw _).setCell (p:=⟨g',k * 5+3,none⟩) hgw _).setCell (p:=⟨g',k * 5+4,none⟩) hgw _⟩
theorem RowA.notg {base:Nat} {w w':World} {v:Value} {Z:List (Ac × Value)} {g:Nat} (h:RowA base w v Z) (hg:w.grownBy w' (some g)) (hb:g < base):RowA base w' v Z :=
  World.ownsRow.kept h hg (.inr fun e=>by have:=h.ge g e;omega)
theorem Lvs.notg {base:Nat} {w w':World} {b:Nat} {Z:List (Ac × Value)} {g:Nat} (h:Lvs base w b Z) (hg:w.grownBy w' (some g)) (hb:g < base):Lvs base w' b Z :=
  ⟨fun i hi=>(h.own i hi).notg hg hb,h.far,h.apart⟩
def Small (l:List Ac):Prop:=l.length<=100/\∀ a ∈ l,a.1.size<=9/\a.2.2.2.2.length<=4
theorem rd_row {base:Nat} {w:World} {g cap:Nat} {Z:List (Ac × Value)} (ho:RowA base w (.slice (some ⟨g,0,none⟩) Z.length cap) Z) (hl:∀ q ∈ Z,RdL w q.2 q.1.2.2.2.2):RdA w (.slice (some ⟨g,0,none⟩) Z.length cap) (Z.map (·.1)):=by
  by_cases hn:Z=[]
  · subst hn;exact .inl ⟨_,_,rfl,rfl,fun h=>by cases h⟩
  · rcases ho.2 with ⟨hv,_⟩ | ⟨g',cap',cur,hv,hb,hg,hnc,hcm,hcs,ht⟩
    · cases hv
    · simp only [Value.slice.injEq,Option.some.injEq,Addr.mk.injEq,and_true,true_and] at hv
      obtain ⟨rfl,rfl⟩:=hv
      refine .inr ⟨g,0,cap,by simpa using hn,by simp,by simpa using hnc,hcm,(Array.getElem?_eq_some_iff.1 hg).1,fun i hi=>?_⟩
      have hi':i < Z.length:=by simpa using hi
      have e:(Z.map (·.1))[i]=Z[i].1:=by simp
      refine ⟨Z[i].2,?_,by rw [e];exact hl _ (List.getElem_mem hi')⟩
      have cell:∀ j,j < 5->w.cell? ⟨g,0+i * 5+j,none⟩=(acC Z[i])[j]?:=fun j hj=>by
        rw [Nat.zero_add,World.ownsRow.cellAt ho (i * 5+j) (by omega),flat_get 5 (Z.map acC) i j (by simpa using hi') (acM_sz Z) hj]
        simp
      rw [e]
      exact ⟨by have:=cell 0 (by omega);simpa [acC] using this,by have:=cell 1 (by omega);simpa [acC] using this,by have:=cell 2 (by omega);simpa [acC] using this,by have:=cell 3 (by omega);simpa [acC] using this,by have:=cell 4 (by omega);simpa [acC] using this⟩
def DrA (base:Nat) (w:World) (v:Value) (Z:List (Ac × Value)):Prop:=(∃ G cap,v=.slice (some ⟨G,0,none⟩) Z.length cap)/\RowA base w v Z/\∀ q ∈ Z,OwnL base w q.2 q.1.2.2.2.2
theorem DrA.of {base:Nat} {w:World} {G cap:Nat} {Z:List (Ac × Value)} (h:RowA base w (.slice (some ⟨G,0,none⟩) Z.length cap) Z) (hl:Lvs base w G Z):DrA base w (.slice (some ⟨G,0,none⟩) Z.length cap) Z :=
  ⟨⟨G,cap,rfl⟩,h,fun q hq=>by
    obtain ⟨i,hi,rfl⟩:=List.mem_iff_getElem.1 hq
    exact hl.own i hi⟩
theorem DrA.notg {base:Nat} {w w':World} {v:Value} {Z:List (Ac × Value)} {g:Nat} (h:DrA base w v Z) (hg:w.grownBy w' (some g)) (hb:g < base):DrA base w' v Z :=
  ⟨h.1,h.2.1.notg hg hb,fun q hq=>(h.2.2 q hq).notg hg hb⟩
theorem DrA.below {B base:Nat} {w w':World} {v:Value} {Z:List (Ac × Value)} (h:DrA base w v Z) (hb:Below B w w') (hB:w.heap.size<=B):DrA base w' v Z :=
  ⟨h.1,h.2.1.below hb hB,fun q hq=>(h.2.2 q hq).below hb hB⟩
theorem DrA.rd {base:Nat} {w:World} {v:Value} {Z:List (Ac × Value)} (h:DrA base w v Z):RdA w v (Z.map (·.1)):=by
  obtain ⟨⟨G,cap,rfl⟩,h1,h2⟩:=h
  exact rd_row h1 (fun q hq=>(h2 q hq).rd)
def SmallZ (Z:List (Ac × Value)):Prop:=Z.length<=6/\∀ q ∈ Z,q.1.1.size<=9/\q.1.2.2.2.2.length<=4
def Drawn (w0 w:World) (g:Nat) (cv:Value) (code:List UInt8) (e:Ending) (w':World):Prop:=∃ (v:Value) (Z:List (Ac × Value)),e=.returned v/\DrA w.heap.size w' v Z/\SmallZ Z/\Cur w0 w' g cv code/\w.grownBy w' (some g)
end Go.Proofs.YtohachldbpejpaaGreatDoor
