/- A ledger by value. -/
import Derived.Test.YthidkbhiikdokaaGreatZwMarkStr
import Derived.Deep.RegionWith
set_option maxRecDepth 20000
set_option maxHeartbeats 2000000
namespace Go.Proofs.YthidkbhiikdokaaGreat
open Go.RowKit
set_option linter.unusedVariables false
structure Btw (lo hi:Nat) (w w':World):Prop where
  os:w'.os=w.os
  tape:w'.tape=w.tape
  output:w'.output=w.output
  size:w.heap.size<=w'.heap.size
  block:∀ k,k < w.heap.size->(k < lo\/hi<=k)->w'.heap[k]?=w.heap[k]?
theorem Btw.refl (lo hi:Nat) (w:World):Btw lo hi w w:=⟨rfl,rfl,rfl,Nat.le_refl _,fun _ _ _=>rfl⟩
theorem Btw.trans {lo hi:Nat} {a b c:World} (h:Btw lo hi a b) (k:Btw lo hi b c):Btw lo hi a c :=
  ⟨k.os.trans h.os,k.tape.trans h.tape,k.output.trans h.output,Nat.le_trans h.size k.size,fun i hi' ho=>(k.block i (Nat.lt_of_lt_of_le hi' h.size) ho).trans (h.block i hi' ho)⟩
theorem Btw.of_below {lo hi:Nat} {w w':World} (h:Below w.heap.size w w'):Btw lo hi w w':=⟨h.os,h.tape,h.output,h.size,fun k hk _=>h.block k hk⟩
theorem Btw.of_grown {lo hi:Nat} {w w':World} {row:Option Nat} (h:w.grownBy w' row) (hr:∀ k,row=some k->lo<=k/\k < hi):Btw lo hi w w' :=
  ⟨h.os,h.tape,h.output,h.size,fun k hk ho=>h.block k hk (fun e=>by have:=hr k e.symm;omega)⟩
theorem row_btw {lo hi base:Nat} {w w':World} {e:TypeId} {size:Nat} {v:Value} {n:Nat} {xs:List Value} (h:w.ownsRow base e size v n xs) (hb:Btw lo hi w w') (hn:∀ k,v.ownBlock=some k->k < lo\/hi<=k):w'.ownsRow base e size v n xs:=by
  refine ⟨h.1,?_⟩
  rcases h.2 with h' | ⟨g,cap,cur,hv,hbb,hg,r⟩
  · exact .inl h'
  · refine .inr ⟨g,cap,cur,hv,hbb,?_,r⟩
    have hlt:g < w.heap.size:=(Array.getElem?_eq_some_iff.1 hg).1
    rw [hb.block g hlt (hn g (by rw [hv];rfl))]
    exact hg
def OwnX (base hi:Nat) (w:World) (v:Value) (l:List Ac):Prop :=
  ∃ (g cap:Nat) (Z:List (Ac × Value)),Z.map (·.1)=l/\v=.slice (some ⟨g,0,none⟩) l.length cap/\w.ownsRow base 53 5 v l.length (Z.map acC).flatten/\Lvs base w g Z/\g < hi/\∀ q ∈ Z,∀ k,q.2.ownBlock=some k->k < hi
theorem OwnA.ox {base:Nat} {w:World} {v:Value} {l:List Ac} (h:OwnA base w v l):OwnX base w.heap.size w v l:=by
  obtain ⟨g,cap,Z,h1,rfl,h3,h4⟩:=h
  exact ⟨g,cap,Z,h1,rfl,h3,h4,(World.ownsRow.lt h3 g rfl).2,fun q hq k hk=>by
    obtain ⟨i,hi,rfl⟩:=List.mem_iff_getElem.1 hq
    exact (h4.own i hi).lt k hk⟩
theorem OwnX.own {base hi:Nat} {w:World} {v:Value} {l:List Ac} (h:OwnX base hi w v l):OwnA base w v l:=by
  obtain ⟨g,cap,Z,h1,h2,h3,h4,_⟩:=h
  exact ⟨g,cap,Z,h1,h2,h3,h4⟩
theorem OwnX.rd {base hi:Nat} {w:World} {v:Value} {l:List Ac} (h:OwnX base hi w v l):RdA w v l:=h.own.rd
theorem OwnX.below {B base hi:Nat} {w w':World} {v:Value} {l:List Ac} (h:OwnX base hi w v l) (hb:Below B w w') (hB:w.heap.size<=B):OwnX base hi w' v l:=by
  obtain ⟨g,cap,Z,h1,h2,h3,h4,h5,h6⟩:=h
  exact ⟨g,cap,Z,h1,h2,row_below h3 hb hB,h4.below hb hB,h5,h6⟩
theorem OwnX.btw {lo hi' base hi:Nat} {w w':World} {v:Value} {l:List Ac} (h:OwnX base hi w v l) (hb:Btw lo hi' w w') (hd:hi<=lo\/hi'<=base):OwnX base hi w' v l:=by
  obtain ⟨g,cap,Z,h1,rfl,h3,h4,h5,h6⟩:=h
  have hg:=(World.ownsRow.lt h3 g rfl).1
  refine ⟨g,cap,Z,h1,rfl,row_btw h3 hb (fun k hk=>by have:g=k:=(by simpa [Value.ownBlock] using hk);subst this;omega),⟨fun i hi=>row_btw (h4.own i hi) hb (fun k hk=>?_),h4.far,h4.apart⟩,h5,h6⟩
  have:=(h4.own i hi).ge k hk
  have:=h6 _ (List.getElem_mem hi) k hk
  omega
def mkL (k n:Nat):List (Int × Int):=(List.range n).map (fun i=>(((k+2 * i:Nat):Int),((k+2 * i+1:Nat):Int)))
theorem mkL_len (k n:Nat):(mkL k n).length=n:=by simp [mkL]
theorem mkL_at (k n j:Nat) (h:j < (mkL k n).length):(mkL k n)[j]=(((k+2 * j:Nat):Int),((k+2 * j+1:Nat):Int)):=by simp [mkL]
def mkA (k:Nat) (a:Ac):Ac:=(mtx k,((k+1:Nat):Int),((k+2:Nat):Int),((k+3:Nat):Int),mkL (k+4) a.2.2.2.2.length)
def nx (k:Nat) (a:Ac):Nat:=k+4+2 * a.2.2.2.2.length
def mkAs:Nat->List Ac->List Ac
  | _,[]=>[]
  | k,a :: t=>mkA k a :: mkAs (nx k a) t
def nxs:Nat->List Ac->Nat
  | k,[]=>k
  | k,a :: t=>nxs (nx k a) t
def mkZ:Nat->List (Ac × Value)->List (Ac × Value)
  | _,[]=>[]
  | k,q :: t=>(mkA k q.1,q.2) :: mkZ (nx k q.1) t
theorem mkZ_fst:∀ (k:Nat) (Z:List (Ac × Value)),(mkZ k Z).map (·.1)=mkAs k (Z.map (·.1))
  | _,[]=>rfl
  | k,q :: t=>by simp [mkZ,mkAs,mkZ_fst]
theorem mkZ_snd:∀ (k:Nat) (Z:List (Ac × Value)),(mkZ k Z).map (·.2)=Z.map (·.2)
  | _,[]=>rfl
  | k,q :: t=>by simp [mkZ,mkZ_snd]
theorem mkZ_len:∀ (k:Nat) (Z:List (Ac × Value)),(mkZ k Z).length=Z.length
  | _,[]=>rfl
  | k,q :: t=>by simp [mkZ,mkZ_len]
theorem mkAs_len:∀ (k:Nat) (l:List Ac),(mkAs k l).length=l.length
  | _,[]=>rfl
  | k,q :: t=>by simp [mkAs,mkAs_len]
theorem mkZ_snoc:∀ (k:Nat) (A:List (Ac × Value)) (q:Ac × Value),mkZ k (A ++ [q])=mkZ k A ++ [(mkA (nxs k (A.map (·.1))) q.1,q.2)]
  | _,[],_=>rfl
  | k,x :: A,q=>by simp [mkZ,nxs,mkZ_snoc]
theorem nxs_snoc:∀ (k:Nat) (A:List Ac) (a:Ac),nxs k (A ++ [a])=nx (nxs k A) a
  | _,[],_=>rfl
  | k,x :: A,q=>by simp [nxs,nxs_snoc]
theorem mkAs_app:∀ (k:Nat) (A B:List Ac),mkAs k (A ++ B)=mkAs k A ++ mkAs (nxs k A) B
  | _,[],_=>rfl
  | k,x :: A,B=>by simp [mkAs,nxs,mkAs_app]
theorem nxs_app:∀ (k:Nat) (A B:List Ac),nxs k (A ++ B)=nxs (nxs k A) B
  | _,[],_=>rfl
  | k,x :: A,B=>by simp [nxs,nxs_app]
theorem nxs_ge:∀ (k:Nat) (l:List Ac),k<=nxs k l
  | _,[]=>Nat.le_refl _
  | k,x :: t=>by have:=nxs_ge (nx k x) t;unfold nx at this;simp only [nxs,nx];omega
theorem nxs_take (k:Nat) (l:List Ac) (j:Nat):nxs k (l.take j)<=nxs k l:=by
  have:=nxs_app k (l.take j) (l.drop j)
  rw [List.take_append_drop] at this
  rw [this]
  exact nxs_ge _ _
theorem nxs_next (k:Nat) (l:List Ac) (j:Nat) (h:j < l.length):nxs k (l.take (j+1))=nx (nxs k (l.take j)) l[j]:=by rw [List.take_succ_eq_append_getElem h,nxs_snoc]
theorem mkAs_at (k:Nat) (l:List Ac) (j:Nat) (h:j < l.length):(mkAs k l)[j]'(by rw [mkAs_len];exact h)=mkA (nxs k (l.take j)) l[j]:=by
  have e:l=l.take j ++ l[j] :: l.drop (j+1):=by rw [<- List.drop_eq_getElem_cons h,List.take_append_drop]
  have e2:mkAs k l=mkAs k (l.take j) ++ mkA (nxs k (l.take j)) l[j] :: mkAs (nx (nxs k (l.take j)) l[j]) (l.drop (j+1)):=by
    conv=>lhs;rw [e]
    rw [mkAs_app]
    rfl
  have hlen:(mkAs k (l.take j)).length=j:=by rw [mkAs_len];simp;omega
  simp only [e2]
  rw [List.getElem_append_right (by omega)]
  simp [hlen]
def mkP (k:Nat) (Z:List (Ac × Value)) (j:Nat):List (Ac × Value):=mkZ k (Z.take j) ++ Z.drop j
theorem mkP_zero (k:Nat) (Z:List (Ac × Value)):mkP k Z 0=Z:=by simp [mkP,mkZ]
theorem mkP_all (k:Nat) (Z:List (Ac × Value)):mkP k Z Z.length=mkZ k Z:=by simp [mkP]
theorem mkP_len (k:Nat) (Z:List (Ac × Value)) (j:Nat) (h:j<=Z.length):(mkP k Z j).length=Z.length:=by simp [mkP,mkZ_len];omega
theorem mkP_at (k:Nat) (Z:List (Ac × Value)) (j:Nat) (h:j < Z.length):(mkP k Z j)[j]'(by rw [mkP_len _ _ _ (by omega)];exact h)=Z[j]:=by
  unfold mkP
  rw [List.getElem_append_right (by rw [mkZ_len];simp;omega)]
  simp [mkZ_len,show j - min j Z.length=0 from by omega]
theorem mkP_next (k:Nat) (Z:List (Ac × Value)) (j:Nat) (h:j < Z.length):(mkP k Z j).set j (mkA (nxs k ((Z.map (·.1)).take j)) Z[j].1,Z[j].2)=mkP k Z (j+1):=by
  have hlen:(mkZ k (Z.take j)).length=j:=by rw [mkZ_len];simp;omega
  unfold mkP
  rw [List.drop_eq_getElem_cons h,List.set_append_right _ _ (by omega),hlen,Nat.sub_self,List.set_cons_zero,List.take_succ_eq_append_getElem h,mkZ_snoc,List.map_take,List.append_assoc]
  rfl
theorem gen_setL {α β:Type} (M l:List α) (f:α->β) (j:Nat) (hM:M.length=l.length) (hj:j < M.length):((M.take j ++ l.drop j).map f).set j (f M[j])=(M.take (j+1) ++ l.drop (j+1)).map f:=by
  have e1:((M.take j).map f).length=j:=by simp;omega
  rw [List.map_append,List.set_append_right _ _ (by omega),e1,Nat.sub_self,List.drop_eq_getElem_cons (show j < l.length by omega),List.map_cons,List.set_cons_zero,List.take_succ_eq_append_getElem hj,List.map_append,List.map_append,List.append_assoc]
  rfl
theorem markLeaveS_any (v:Value) (l:List (Int × Int)) (k base:Nat) (w:World) (ho:OwnL base w v l) (hl:l.length<=10000000) (hk:k<=100000000) :
    Calls Tryz.prog 65 #[v,.int .i64 (k:Int)] w fun e w'=>e=.returned (.int .i64 ((k+2 * l.length:Nat):Int))/\OwnL base w' v (mkL k l.length)/\w.grownBy w' v.ownBlock:=by
  have hML:=mkL_len k l.length
  have hMA:=mkL_at k l.length
  generalize hMd:mkL k l.length=M at hML hMA
  clear hMd
  rcases ho.2 with ⟨rfl,hn⟩ | ⟨g,cap,cur,rfl,_,_,_,hcm,_,_⟩
  · have e:l=[]:=List.length_eq_zero_iff.1 hn
    subst e
    have e2:M=[]:=List.length_eq_zero_iff.1 hML
    subst e2
    have Ho:=hide ho
    clear ho
    go_enter Tryz.func65,Tryz.ntmps65
    go_wp2
    refine wp_loop_rounds 1 ?_
    rw [rounds_succ]
    go_wp2
    go_ret
    exact ⟨rfl,Ho.out,World.grownBy.refl _ _⟩
  · have Ho:=hide ho
    have HML:=hide hML
    have HMA:=hide hMA
    have hMl:l.length<=M.length:=by omega
    have hMg:M.length<=l.length:=by omega
    clear ho hML hMA
    go_enter Tryz.func65,Tryz.ntmps65
    go_wp2
    go_loopw [1,5] (fun kv iv wr=>∃ j:Nat,j<=l.length/\iv=.int .i64 (j:Int)/\kv=.int .i64 ((k+2 * j:Nat):Int)/\wr.ownsRow base 135 2 (.slice (some ⟨g,0,none⟩) l.length cap) l.length ((M.take j ++ l.drop j).map lvC).flatten/\w.grownBy wr (some g))
      (fun _ iv _=>l.length - (intOf iv).toNat)
    case atStart=>exact ⟨0,Nat.zero_le _,rfl,rfl,by simpa [OwnL] using Ho.out,World.grownBy.refl _ _⟩
    case round =>
      obtain ⟨j,hj,rfl,rfl,hown,hgr⟩:=hrel
      by_cases hlt:j < l.length
      · have hjM:j < M.length:=by omega
        obtain ⟨K,hK⟩:∃ K:Nat,k+2 * j=K:=⟨_,rfl⟩
        have hK2:K<=200000000:=by omega
        have eM:lvC M[j]=[.int .i64 ((K:Nat):Int),.int .i64 ((K+1:Nat):Int)]:=by rw [HMA.out j hjM,hK];rfl
        have hsz:=lvM_sz (M.take j ++ l.drop j)
        have hlen:((M.take j ++ l.drop j).map lvC).length=l.length:=by simp;omega
        obtain ⟨u0,hu0⟩:∃ u,((M.take j ++ l.drop j).map lvC).flatten[j * 2]?=some u:=⟨_,List.getElem?_eq_getElem (by rw [flat_len 2 _ hsz];omega)⟩
        obtain ⟨u1,hu1⟩:∃ u,((M.take j ++ l.drop j).map lvC).flatten[j * 2+1]?=some u:=⟨_,List.getElem?_eq_getElem (by rw [flat_len 2 _ hsz];omega)⟩
        have d0:=hown.cellAt (j * 2) (by omega)
        have d1:=hown.cellAt (j * 2+1) (by omega)
        have f0:=hown.frozenAt (j * 2)
        have f1:=hown.frozenAt (j * 2+1)
        rw [hu0] at d0
        rw [hu1] at d1
        have hst:=hown.stored (j * 2) (.int .i64 ((K:Nat):Int))
        have hst2:=hst.1.stored (j * 2+1) (.int .i64 ((K+1:Nat):Int))
        rw [flat_put2 _ j _ _ (by rw [hlen];exact hlt) hsz,<- eM,gen_setL M l lvC j HML.out hjM] at hst2
        have Hst:=hide hst2.1
        have Hgr2:=hide (grownS_trans (grownS_trans hgr hst.2) hst2.2)
        have hli:(j:Int) < (l.length:Int):=by omega
        rw [hK]
        have HK:=hide hK
        clear hK hst hst2 hown hgr eM hu0 hu1
        go_wp2
        go_roundw
        case rel=>exact ⟨j+1,by omega,by go_num,by rw [show k+2 * (j+1)=K+2 from by have:=HK.out;omega];go_num,Hst.out,Hgr2.out⟩
        case measure=>simp [intOf];omega
      · have e:M.take j ++ l.drop j=M:=by rw [List.take_of_length_le (by omega),List.drop_of_length_le (by omega),List.append_nil]
        rw [e] at hown
        have ho':OwnL base wr (.slice (some ⟨g,0,none⟩) l.length cap) M:=by
          unfold OwnL
          rw [HML.out]
          exact hown
        have e2:j=l.length:=by omega
        have Ho':=hide ho'
        have Hgr:=hide hgr
        clear ho' hgr hown e
        subst e2
        go_wp2
        go_ret
        exact ⟨rfl,Ho'.out,Hgr.out⟩
theorem flat_put4 {α:Type} (L:List (List α)) (i:Nat) (a b c d a0 b0 c0 d0 e:α) (hi:i < L.length) (h:∀ x ∈ L,x.length=5) (hx:L[i]=[a0,b0,c0,d0,e]):(((L.flatten.set (i * 5) a).set (i * 5+1) b).set (i * 5+2) c).set (i * 5+3) d=(L.set i [a,b,c,d,e]).flatten:=by
  have h5:=flat_put5 L i a b c d e hi h
  rw [<- h5]
  have hself:∀ (X:List α) (m:Nat) (u:α),X[m]?=some u->X.set m u=X:=fun X m u hu=>by
    obtain ⟨h1,rfl⟩:=List.getElem?_eq_some_iff.1 hu
    simp
  symm
  apply hself
  rw [List.getElem?_set_ne (by omega),List.getElem?_set_ne (by omega),List.getElem?_set_ne (by omega),List.getElem?_set_ne (by omega),flat_get 5 L i 4 hi h (by omega),hx]
  rfl
theorem Lvs.mark {base:Nat} {w w':World} {g:Nat} {P:List (Ac × Value)} (h:Lvs base w g P) {j:Nat} (hj:j < P.length) (q:Ac × Value) (hq:q.2=P[j].2) (ho:OwnL base w' P[j].2 q.1.2.2.2.2) (hg:w.grownBy w' P[j].2.ownBlock):Lvs base w' g (P.set j q):=by
  have hat:∀ i (hi:i < (P.set j q).length),(P.set j q)[i].2=(P[i]'(by simpa using hi)).2:=fun i hi=>by
    rw [List.getElem_set]
    split
    · rename_i e;subst e;exact hq
    · rfl
  refine ⟨fun i hi=>?_,fun i hi=>?_,fun i i' hi hi' hne=>?_⟩
  · by_cases e:i=j
    · subst e
      have e2:(P.set i q)[i]=q:=by simp
      rw [e2,hq];exact ho
    · have e2:(P.set j q)[i]=P[i]'(by simpa using hi):=by rw [List.getElem_set_ne (by omega)]
      rw [e2]
      refine (h.own i (by simpa using hi)).kept hg ?_
      cases hb:(P[i]'(by simpa using hi)).2.ownBlock with
      | none=>exact .inl rfl
      | some k=>exact .inr (fun e'=>h.apart i j (by simpa using hi) hj e k hb e'.symm)
  · rw [hat i hi];exact h.far i (by simpa using hi)
  · rw [hat i hi,hat i' hi'];exact h.apart i i' (by simpa using hi) (by simpa using hi') hne
theorem Btw.set {lo hi:Nat} {w w':World} (h:Btw lo hi w w') {g:Nat} (h1:lo<=g) (h2:g < hi) (j:Nat) (u:Value):Btw lo hi w (w'.setCell ⟨g,j,none⟩ u) :=
  h.trans (Btw.of_grown (grown_set w' g j u) (fun k e=>by cases e;exact ⟨h1,h2⟩))
theorem markAcctS_any (v:Value) (l:List Ac) (k base hi:Nat) (w:World) (ho:OwnX base hi w v l) (hl:l.length<=10000000) (hlv:∀ a ∈ l,a.2.2.2.2.length<=10000000) (hk:nxs k l<=90000000) (hk0:0 < k) :
    Calls Tryz.prog 34 #[v,.int .i64 (k:Int)] w fun e w'=>e=.returned (.int .i64 ((nxs k l:Nat):Int))/\OwnX base hi w' v (mkAs k l)/\Btw base hi w w':=by
  obtain ⟨g,cap,Z,hZ,rfl,hrow,hLv,hghi,hZhi⟩:=ho
  have hZl:Z.length=l.length:=by rw [<- hZ];simp
  have hgb:base<=g:=(World.ownsRow.lt hrow g rfl).1
  have Hrow:=hide hrow
  have HLv:=hide hLv
  have HZ:=hide hZ
  have HZhi:=hide hZhi
  have Hlv:=hide hlv
  clear hrow hLv hZ hZhi hlv
  go_enter Tryz.func34,Tryz.ntmps34
  go_wp2
  go_loopw [1,5] (fun kv iv wr=>∃ j:Nat,j<=l.length/\iv=.int .i64 (j:Int)/\kv=.int .i64 ((nxs k (l.take j):Nat):Int)/\wr.ownsRow base 53 5 (.slice (some ⟨g,0,none⟩) l.length cap) l.length ((mkP k Z j).map acC).flatten/\Lvs base wr g (mkP k Z j)/\Btw base hi w wr)
    (fun _ iv _=>l.length - (intOf iv).toNat)
  case atStart=>exact ⟨0,Nat.zero_le _,rfl,rfl,by rw [mkP_zero];exact Hrow.out,by rw [mkP_zero];exact HLv.out,Btw.refl _ _ _⟩
  case round =>
    obtain ⟨j,hj,rfl,rfl,hown,hLv,hbt⟩:=hrel
    clear Hrow HLv
    by_cases hlt:j < l.length
    · have hjZ:j < Z.length:=by omega
      have hli:(j:Int) < (l.length:Int):=by omega
      have hZj:Z[j].1=l[j]:=fst_at HZ.out hlt
      have hPl:=mkP_len k Z j (by omega)
      have hPat:=mkP_at k Z j hjZ
      have Hnx:=hide (nxs_next k l j hlt)
      have hKb:=nxs_take k l (j+1)
      have Hpn:=hide (mkP_next k Z j hjZ)
      rw [HZ.out] at Hpn
      have hKg:=nxs_ge k (l.take j)
      have hlj:=Hlv.out l[j] (List.getElem_mem _)
      have hLj:=hLv.own j (by omega)
      have hgeJ:=hLj.ge
      have hfarJ:=hLv.far j (by omega)
      rw [hPat] at hLj hgeJ hfarJ
      rw [hZj] at hLj Hpn
      have hhiJ:=HZhi.out Z[j] (List.getElem_mem _)
      have Hq:Hid (∀ w',OwnL base w' Z[j].2 (mkL (nxs k (l.take j)+4) l[j].2.2.2.2.length)->∀ w,Lvs base w g (mkP k Z j)->w.grownBy w' Z[j].2.ownBlock->Lvs base w' g (mkP k Z (j+1))):=hide (fun w' h1 w0 h2 h3=>by
        rw [<- Hpn.out]
        exact h2.mark (by omega) _ (by rw [hPat]) (by rw [hPat];exact h1) (by rw [hPat];exact h3))
      have Hc:Hid (∀ i,i < 5->((mkP k Z j).map acC).flatten[j * 5+i]?=(acC Z[j])[i]?):=hide (fun i hi=>by
        rw [flat_get 5 _ j i (by simp;omega) (acM_sz _) hi]
        simp [hPat])
      have hacz:acC Z[j]=[.string l[j].1,.int .i64 l[j].2.1,.int .i64 l[j].2.2.1,.int .i64 l[j].2.2.2.1,Z[j].2]:=by unfold acC;rw [hZj]
      have Hput:Hid (∀ K:Nat,K=nxs k (l.take j)->((((((mkP k Z j).map acC).flatten.set (j * 5) (.string (mtx K))).set (j * 5+1) (.int .i64 ((K+1:Nat):Int))).set (j * 5+2) (.int .i64 ((K+2:Nat):Int))).set (j * 5+3) (.int .i64 ((K+3:Nat):Int)))=((mkP k Z (j+1)).map acC).flatten):=hide (fun K hK=>by
        rw [flat_put4 _ j _ _ _ _ (.string l[j].1) (.int .i64 l[j].2.1) (.int .i64 l[j].2.2.1) (.int .i64 l[j].2.2.2.1) Z[j].2 (by simp;omega) (acM_sz _) (by simp [hPat,hacz]),<- Hpn.out,List.map_set,hK]
        rfl)
      rw [hacz] at Hc
      obtain ⟨a',c',hsh⟩:=hLj.rd.shape
      have Hown:=hide hown
      have HLv:=hide hLv
      have HLj:=hide hLj
      have HgeJ:=hide hgeJ
      have HfarJ:=hide hfarJ
      have HhiJ:=hide hhiJ
      have Hbt:=hide hbt
      clear hown hLv hLj hgeJ hfarJ hhiJ hbt hPat hPl hacz hZj Hpn
      generalize Z[j].2=lw at *
      subst hsh
      have hnxe:nxs k (l.take (j+1))=nxs k (l.take j)+4+2 * l[j].2.2.2.2.length:=Hnx.out
      have Hnx2:=hide hnxe
      obtain ⟨K,hK⟩:∃ K,nxs k (l.take j)=K:=⟨_,rfl⟩
      rw [hK] at Hq Hnx2 hnxe hKg ⊢
      have Hput:=hide (Hput.out K hK.symm)
      have hK0:0 < K:=by omega
      have hK2:K<=90000000:=by omega
      have hKn:K+4<=100000000:=by omega
      have Hm:=hide (fun w=>markText_any K w hK0 (by omega))
      clear hnxe hKb Hnx hK
      generalize l[j]=ak at *
      obtain ⟨nm,fr,no,st,ls⟩:=ak
      simp only at Hc HLj Hq Hnx2 hlj
      go_wp2_with fail
      refine (Hm.out _).mono ?_
      rintro e w1 ⟨rfl,hb1⟩
      have ho1:=row_below Hown.out hb1 (Nat.le_refl _)
      have q0:=ho1.cellAt (j * 5) (by omega)
      have q1:=ho1.cellAt (j * 5+1) (by omega)
      have q2:=ho1.cellAt (j * 5+2) (by omega)
      have q3:=ho1.cellAt (j * 5+3) (by omega)
      have q4:=ho1.cellAt (j * 5+4) (by omega)
      have f0:=ho1.frozenAt (j * 5)
      have f1:=ho1.frozenAt (j * 5+1)
      have f2:=ho1.frozenAt (j * 5+2)
      have f3:=ho1.frozenAt (j * 5+3)
      rw [<- Nat.add_zero (j * 5),Hc.out 0 (by omega)] at q0
      rw [Nat.add_zero] at q0
      rw [Hc.out 1 (by omega)] at q1
      rw [Hc.out 2 (by omega)] at q2
      rw [Hc.out 3 (by omega)] at q3
      rw [Hc.out 4 (by omega)] at q4
      simp only [List.getElem?_cons_zero,List.getElem?_cons_succ] at q0 q1 q2 q3 q4
      have s1:=(ho1.stored (j * 5) (.string (mtx K))).1
      have s2:=(s1.stored (j * 5+1) (.int .i64 ((K+1:Nat):Int))).1
      have s3:=(s2.stored (j * 5+2) (.int .i64 ((K+2:Nat):Int))).1
      have s4:=(s3.stored (j * 5+3) (.int .i64 ((K+3:Nat):Int))).1
      rw [Hput.out] at s4
      have HS4:=hide s4
      have HLv1:=hide ((((HLv.out.below hb1 (Nat.le_refl _)).set (j * 5) (.string (mtx K))).set (j * 5+1) (.int .i64 ((K+1:Nat):Int))).set (j * 5+2) (.int .i64 ((K+2:Nat):Int)) |>.set (j * 5+3) (.int .i64 ((K+3:Nat):Int)))
      have HLj1:=hide (row_set (row_set (row_set (row_set (HLj.out.below hb1 (Nat.le_refl _)) g (j * 5) (.string (mtx K)) HfarJ.out) g (j * 5+1) (.int .i64 ((K+1:Nat):Int)) HfarJ.out) g (j * 5+2) (.int .i64 ((K+2:Nat):Int)) HfarJ.out) g (j * 5+3) (.int .i64 ((K+3:Nat):Int)) HfarJ.out)
      have Hbt1:=hide (((((Hbt.out.trans (Btw.of_below hb1)).set hgb hghi (j * 5) (.string (mtx K))).set hgb hghi (j * 5+1) (.int .i64 ((K+1:Nat):Int))).set hgb hghi (j * 5+2) (.int .i64 ((K+2:Nat):Int))).set hgb hghi (j * 5+3) (.int .i64 ((K+3:Nat):Int)))
      clear s1 s2 s3 s4 ho1 hb1 Hc
      go_wp2_with (go_at_call 65;refine (markLeaveS_any _ ls (K+4) base _ HLj1.out hlj hKn).mono ?_;rintro e w2 ⟨rfl,ho2,hg2⟩)
      go_roundw
      case rel =>
        refine ⟨j+1,by omega,by go_num,by rw [Hnx2.out];go_num,World.ownsRow.kept HS4.out hg2 ?_,Hq.out _ ho2 _ HLv1.out hg2,Hbt1.out.trans (Btw.of_grown hg2 (fun k hk=>⟨HgeJ.out k hk,HhiJ.out k hk⟩))⟩
        refine .inr (fun e=>HfarJ.out g e.symm rfl)
      case measure=>simp [intOf];omega
    · have e:j=l.length:=by omega
      subst e
      rw [List.take_length]
      have e2:mkP k Z l.length=mkZ k Z:=by rw [<- hZl];exact mkP_all k Z
      rw [e2] at hown hLv
      have hm:(mkZ k Z).map (·.1)=mkAs k l:=by rw [mkZ_fst,HZ.out]
      have hml:=mkAs_len k l
      have Hend:Hid (OwnX base hi wr (.slice (some ⟨g,0,none⟩) l.length cap) (mkAs k l)):=hide ⟨g,cap,mkZ k Z,hm,by rw [hml],by rw [hml];exact hown,hLv,hghi,fun q hq n hn=>by
        have:q.2 ∈ (mkZ k Z).map (·.2):=List.mem_map_of_mem hq
        rw [mkZ_snd] at this
        obtain ⟨q',hq',e'⟩:=List.mem_map.1 this
        exact HZhi.out q' hq' n (by rw [e'];exact hn)⟩
      have Hbt:=hide hbt
      clear hown hLv hbt
      go_wp2
      go_ret
      exact ⟨rfl,Hend.out,Hbt.out⟩
theorem heldLeaveS_any (v:Value) (k n:Nat) (w:World) (hr:RdL w v (mkL k n)) (hl:n<=10000000) (hk:k<=100000000) :
    Calls Tryz.prog 99 #[v,.int .i64 (k:Int)] w fun e w'=>e=.returned (.int .i64 ((k+2 * n:Nat):Int))/\Below w.heap.size w w':=by
  have hML:=mkL_len k n
  have hMA:=mkL_at k n
  generalize hMd:mkL k n=M at hML hMA hr
  clear hMd
  rcases hr with ⟨a,cap,rfl,rfl,-⟩ | ⟨b,off,cap,h0,rfl,h1,h2,h3,h4⟩
  · simp at hML
    subst hML
    clear hMA
    go_enter Tryz.func99,Tryz.ntmps99
    go_wp2
    refine wp_loop_rounds 1 ?_
    rw [rounds_succ]
    go_wp2
    go_ret
    exact ⟨rfl,Below.refl _ _⟩
  · have HMA:=hide hMA
    have hMl:n<=M.length:=by omega
    have hMg:M.length<=n:=by omega
    have H4:=hide h4
    clear hML hMA h4
    go_enter Tryz.func99,Tryz.ntmps99
    go_wp2
    go_loopw [1,5] (fun kv iv wr=>∃ j:Nat,j<=n/\iv=.int .i64 (j:Int)/\kv=.int .i64 ((k+2 * j:Nat):Int)/\Below w.heap.size w wr) (fun _ iv _=>n - (intOf iv).toNat)
    case atStart=>exact ⟨0,Nat.zero_le _,rfl,rfl,Below.refl _ _⟩
    case round =>
      obtain ⟨j,hj,rfl,rfl,hb⟩:=hrel
      by_cases hlt:j < n
      · have hjM:j < M.length:=by omega
        have hc0:wr.cell? ⟨b,off+j * 2,none⟩=some (.int .i64 M[j].1):=(hb.cell (p:=⟨b,off+j * 2,none⟩) h3).trans (H4.out j hjM).1
        have hc1:wr.cell? ⟨b,off+j * 2+1,none⟩=some (.int .i64 M[j].2):=(hb.cell (p:=⟨b,off+j * 2+1,none⟩) h3).trans (H4.out j hjM).2
        obtain ⟨K,hK⟩:∃ K:Nat,k+2 * j=K:=⟨_,rfl⟩
        have hK2:K<=200000000:=by omega
        rw [HMA.out j hjM,hK] at hc0 hc1
        simp only at hc0 hc1
        rw [hK]
        have HK:=hide hK
        have hli:(j:Int) < (M.length:Int):=by omega
        have Hb:=hide hb
        clear hK hb
        go_wp2
        go_roundw
        case rel=>exact ⟨j+1,by omega,by go_num,by rw [show k+2 * (j+1)=K+2 from by have:=HK.out;omega];go_num,Hb.out⟩
        case measure=>simp [intOf];omega
      · have e:j=n:=by omega
        have He:=hide e
        clear e
        go_wp2
        go_ret
        exact ⟨ret_int (by rw [<- He.out]),hb⟩
theorem heldAcctS_any (v:Value) (l:List Ac) (k:Nat) (w:World) (hr:RdA w v (mkAs k l)) (hl:l.length<=10000000) (hlv:∀ a ∈ l,a.2.2.2.2.length<=10000000) (hk:nxs k l<=90000000) (hk0:0 < k) :
    Calls Tryz.prog 72 #[v,.int .i64 (k:Int)] w fun e w'=>e=.returned (.int .i64 ((nxs k l:Nat):Int))/\Below w.heap.size w w':=by
  have hML:=mkAs_len k l
  have hMA:∀ j (h:j < l.length) (h':j < (mkAs k l).length),(mkAs k l)[j]=mkA (nxs k (l.take j)) l[j]:=fun j h _=>mkAs_at k l j h
  generalize hMd:mkAs k l=M at hML hMA hr
  clear hMd
  rcases hr with ⟨a,cap,rfl,rfl,-⟩ | ⟨b,off,cap,h0,rfl,h1,h2,h3,h4⟩
  · have e:l=[]:=List.length_eq_zero_iff.1 (by simpa using hML.symm)
    subst e
    clear hMA
    go_enter Tryz.func72,Tryz.ntmps72
    go_wp2
    refine wp_loop_rounds 1 ?_
    rw [rounds_succ]
    go_wp2
    go_ret
    exact ⟨rfl,Below.refl _ _⟩
  · have HMA:=hide hMA
    have hMl:l.length<=M.length:=by omega
    have hMg:M.length<=l.length:=by omega
    have H4:=hide h4
    have Hlv:=hide hlv
    clear hML hMA h4 hlv
    go_enter Tryz.func72,Tryz.ntmps72
    go_wp2
    go_loopw [1,5] (fun kv iv wr=>∃ j:Nat,j<=l.length/\iv=.int .i64 (j:Int)/\kv=.int .i64 ((nxs k (l.take j):Nat):Int)/\Below w.heap.size w wr) (fun _ iv _=>l.length - (intOf iv).toNat)
    case atStart=>exact ⟨0,Nat.zero_le _,rfl,rfl,Below.refl _ _⟩
    case round =>
      obtain ⟨j,hj,rfl,rfl,hb⟩:=hrel
      by_cases hlt:j < l.length
      · have hjM:j < M.length:=by omega
        obtain ⟨lw,hat,hrl⟩:=H4.out j hjM
        have hat:=hat.below hb h3
        have hM:=HMA.out j hlt hjM
        rw [hM] at hat hrl
        have hlj:=Hlv.out l[j] (List.getElem_mem _)
        have hKb:=nxs_take k l (j+1)
        have hnxe:nxs k (l.take (j+1))=nxs k (l.take j)+4+2 * l[j].2.2.2.2.length:=nxs_next k l j hlt
        have hKg:=nxs_ge k (l.take j)
        obtain ⟨K,hK⟩:∃ K,nxs k (l.take j)=K:=⟨_,rfl⟩
        rw [hK] at hat hrl hnxe hKg ⊢
        have Hnx:=hide hnxe
        obtain ⟨c0,c1,c2,c3,c4⟩:=hat
        have hrl2:RdL wr lw (mkL (K+4) l[j].2.2.2.2.length):=RdL.below hrl hb (Nat.le_refl _)
        have hK0:0 < K:=by omega
        have hK2:K<=90000000:=by omega
        have Hm:=hide (fun w=>markText_any K w hK0 (by omega))
        have hshape:=hrl2.shape
        rw [mkL_len] at hshape
        have Hrl:=hide hrl2
        have hsz:=hb.size
        have hbw:b < wr.heap.size:=by omega
        have hli:(j:Int) < (M.length:Int):=by omega
        have Hb:=hide hb
        clear hM hrl hrl2 hb hK hKb hnxe
        generalize l[j].2.2.2.2.length=nl at *
        have HL:=hide (fun (W:World) (h:RdL W lw (mkL (K+4) nl))=>heldLeaveS_any lw (K+4) nl W h hlj (by omega))
        obtain ⟨a',c',rfl⟩:=hshape
        simp only [mkA] at c0 c1 c2 c3
        go_wp2_with fail
        go_region_with (go_at_call 35;refine (Hm.out _).mono ?_;rintro e w2 ⟨rfl,hb2⟩;have d0:=(hb2.cell (p:=⟨b,off+j * 5,none⟩) (by exact hbw)).trans (by exact c0);have d1:=(hb2.cell (p:=⟨b,off+j * 5+1,none⟩) (by exact hbw)).trans (by exact c1);have d2:=(hb2.cell (p:=⟨b,off+j * 5+2,none⟩) (by exact hbw)).trans (by exact c2);have d3:=(hb2.cell (p:=⟨b,off+j * 5+3,none⟩) (by exact hbw)).trans (by exact c3);have d4:=(hb2.cell (p:=⟨b,off+j * 5+4,none⟩) (by exact hbw)).trans (by exact c4))
        all_goals
          rename Below _ _ _=>hb2
          have HL2:=hide (HL.out _ ((Hrl.out.below ((Below.refl wr.heap.size wr).drew) (Nat.le_refl _)).below hb2 (Nat.le_refl _)))
          go_wp2_with (go_at_call 99;refine HL2.out.mono ?_;rintro e w3 ⟨rfl,hb3⟩)
          go_roundw
          case rel=>exact ⟨j+1,by omega,by go_num,by rw [Hnx.out];go_num,(Hb.out.drew.trans (hb2.mono hsz)).trans (hb3.mono (Nat.le_trans hsz hb2.size))⟩
          case measure=>simp [intOf];omega
      · have e:j=l.length:=by omega
        subst e
        rw [List.take_length]
        go_wp2
        go_ret
        exact ⟨rfl,hb⟩
def lgV (e:Int) (v:Value):Value:=.agg #[.int .i64 e,v]
theorem OwnA.older {base:Nat} {w:World} {v:Value} {l:List Ac} (h:OwnA base w v l) {g:Nat} (hg:g < base) (j:Nat) (u:Value):OwnA base (w.setCell ⟨g,j,none⟩ u) v l :=
  (h.ox.btw (Btw.of_grown (lo:=0) (hi:=base) (grown_set w g j u) (fun k hk=>⟨Nat.zero_le _,by cases hk;exact hg⟩)) (.inr (Nat.le_refl _))).own
theorem toLedger_any (e:Int) (v:Value) (l:List Ac) (w:World) (hr:RdA w v l) (hl:l.length<=4000000) (hall:∀ a ∈ l,a.2.2.2.2.length<=4000000) :
    Calls Tryz.prog 7 #[lgV e v] w fun en w'=>∃ v',en=.returned (lgV e v')/\OwnA w.heap.size w' v' l/\Below w.heap.size w w':=by
  obtain ⟨av,cv,rfl⟩:=hr.shape
  have Hr:=hide hr
  clear hr
  simp only [lgV] at *
  go_enter Tryz.func7,Tryz.ntmps7
  go_wp2_with fail
  obtain ⟨w3,hw3⟩:∃ w3,((w.alloc (.cells #[.int .i64 e,.slice av l.length cv] 24)).alloc (.cells #[.int .i64 0,.slice none 0 0] 30)).alloc (.cells #[.int .i64 e,.slice none 0 0] 30)=w3:=⟨_,rfl⟩
  rw [hw3]
  have hb3:Below w.heap.size w w3:=by rw [<- hw3];exact (((Below.refl _ w).alloc (Nat.le_refl _) _).alloc (by simp) _).alloc (by simp;omega) _
  have hs3:w3.heap.size=w.heap.size+3:=by rw [<- hw3];simp
  have kO:Blk w3 (w.heap.size+1+1) 30 [.int .i64 e,.slice none 0 0]:=by
    rw [<- hw3]
    have h:=Blk.new ((w.alloc (.cells #[.int .i64 e,.slice av l.length cv] 24)).alloc (.cells #[.int .i64 0,.slice none 0 0] 30)) 30 [.int .i64 e,.slice none 0 0]
    simp only [World.size_alloc] at h
    exact h
  have kR:Blk w3 (w.heap.size+1) 30 [.int .i64 0,.slice none 0 0]:=by
    rw [<- hw3]
    have h:=Blk.new (w.alloc (.cells #[.int .i64 e,.slice av l.length cv] 24)) 30 [.int .i64 0,.slice none 0 0]
    simp only [World.size_alloc] at h
    exact h.below ((Below.refl (w.heap.size+2) _).alloc (by simp) _) (by omega)
  refine (toAcctS_any _ l _ (Hr.out.below hb3 (Nat.le_refl _)) hl hall).mono ?_
  rintro en w4 ⟨v4,rfl,ho4,hb4⟩
  have kO4:=kO.below hb4 (by omega)
  have kR4:=kR.below hb4 (by omega)
  have c0:=kO4.cell 0
  have c1:=kO4.cell 1
  have g1:=kO4.frozen 1
  have r0:=kR4.cell 0
  have r1:=kR4.cell 1
  have q0:=kR4.frozen 0
  have q1:=kR4.frozen 1
  simp only [List.getElem?_cons_zero,List.getElem?_cons_succ] at c0 c1 r0 r1
  obtain ⟨a4,cv4,rfl⟩:=ho4.rd.shape
  have Ho:=hide ho4
  have Hb:=hide (hb3.trans (hb4.mono hb3.size))
  clear ho4 hb4 kO kR kO4 kR4 hw3 hb3
  go_wp2
  refine bodyPost_ret (v:=.agg #[.int .i64 e,.slice a4 l.length cv4]) (by simp [results,Tryz.f7,go_sem,r0,r1]) rfl ?_
  refine ⟨_,rfl,?_,?_⟩
  · exact (((Ho.out.older (by omega) _ _).older (by omega) _ _).older (by omega) _ _).mono (by omega)
  · exact ((Hb.out.setCell (p:=⟨w.heap.size+1+1,1,none⟩) (show w.heap.size<=w.heap.size+1+1 by omega) _).setCell (p:=⟨w.heap.size+1,0,none⟩) (show w.heap.size<=w.heap.size+1 by omega) _).setCell (p:=⟨w.heap.size+1,1,none⟩) (show w.heap.size<=w.heap.size+1 by omega) _
open Classical in
theorem eqLedger_any (e1 e2:Int) (v1 v2:Value) (l1 l2:List Ac) (w:World) (hr1:RdA w v1 l1) (hr2:RdA w v2 l2) (hl1:l1.length<=4000000) (hl2:l2.length<=4000000) (ha1:∀ a ∈ l1,a.2.2.2.2.length<=4000000) (ha2:∀ a ∈ l2,a.2.2.2.2.length<=4000000) :
    Calls Tryz.prog 11 #[lgV e1 v1,lgV e2 v2] w fun e w'=>e=.returned (.bool (decide (e1=e2) && decide (l1=l2)))/\Below w.heap.size w w':=by
  obtain ⟨a1,cv1,rfl⟩:=hr1.shape
  obtain ⟨a2,cv2,rfl⟩:=hr2.shape
  simp only [lgV] at *
  have hb3:Below w.heap.size w ((w.alloc (.cells #[.int .i64 e1,.slice a1 l1.length cv1] 30)).alloc (.cells #[.int .i64 e2,.slice a2 l2.length cv2] 30)):=((Below.refl _ w).alloc (Nat.le_refl _) _).alloc (by simp) _
  have HE:=hide (eqAcctS_any _ _ l1 l2 _ (hr1.below hb3 (Nat.le_refl _)) (hr2.below hb3 (Nat.le_refl _)) hl1 hl2 ha1 ha2)
  have Hb3:=hide hb3
  clear hb3 hr1 hr2
  generalize decide (l1=l2)=D at HE ⊢
  by_cases h1:e1=e2
  · rw [decide_eq_true h1,Bool.true_and]
    subst h1
    go_enter Tryz.func11,Tryz.ntmps11
    go_wp2_with fail
    refine HE.out.mono ?_
    rintro e w3 ⟨rfl,hb3⟩
    have HB:=hide (Hb3.out.trans (hb3.mono Hb3.out.size))
    clear hb3 Hb3 HE
    cases D
    · go_wp2
      go_ret
      exact ⟨rfl,HB.out⟩
    · go_wp2
      go_ret
      exact ⟨rfl,HB.out⟩
  · rw [decide_eq_false h1,Bool.false_and]
    have hq:(e1 != e2)=true:=by rw [bne_iff_ne];exact h1
    clear h1 HE
    go_enter Tryz.func11,Tryz.ntmps11
    go_wp2
    go_ret
    exact ⟨rfl,Hb3.out⟩
theorem szLedger_any (e:Int) (v:Value) (l:List Ac) (m:Nat) (w:World) (hr:RdA w v l) (hm:m<=100000000) (hl:l.length<=9223372036854775807) (hs:∀ a ∈ l,a.1.size<=9223372036854775807/\a.2.2.2.2.length<=9223372036854775807) :
    Calls Tryz.prog 4 #[lgV e v,.int .i64 (m:Int)] w fun en w'=>∃ r:Int,en=.returned (.int .i64 r)/\(0<=r->l.length+totA l<=m/\r<=(m:Int))/\Below w.heap.size w w':=by
  obtain ⟨a1,cv1,rfl⟩:=hr.shape
  simp only [lgV] at *
  have hb3:Below w.heap.size w (w.alloc (.cells #[.int .i64 e,.slice a1 l.length cv1] 24)):=(Below.refl _ w).alloc (Nat.le_refl _) _
  have HE:=hide (szAcctS_any _ l m _ (hr.below hb3 (Nat.le_refl _)) hm hl hs)
  have Hb3:=hide hb3
  clear hb3 hr
  go_enter Tryz.func4,Tryz.ntmps4
  go_wp2_with fail
  refine HE.out.mono ?_
  rintro en w3 ⟨r,rfl,hr3,hb3⟩
  have HB:=hide (Hb3.out.trans (hb3.mono Hb3.out.size))
  have HR:=hide hr3
  clear hb3 Hb3 HE hr3
  by_cases h:r < 0
  · go_wp2
    go_ret
    exact ⟨-1,rfl,by omega,HB.out⟩
  · go_wp2
    go_ret
    exact ⟨r,rfl,HR.out,HB.out⟩
theorem markLedger_any (e:Int) (v:Value) (l:List Ac) (k base hi:Nat) (w:World) (ho:OwnX base hi w v l) (hl:l.length<=10000000) (hlv:∀ a ∈ l,a.2.2.2.2.length<=10000000) (hk:nxs k l<=90000000) (hk0:0 < k) :
    Calls Tryz.prog 13 #[lgV e v,.int .i64 (k:Int)] w fun en w'=>en=.returned (.int .i64 ((nxs k l:Nat):Int))/\OwnX base hi w' v (mkAs k l)/\Btw base hi w w':=by
  obtain ⟨a1,cv1,rfl⟩:=ho.rd.shape
  simp only [lgV] at *
  have hb3:Below w.heap.size w (w.alloc (.cells #[.int .i64 e,.slice a1 l.length cv1] 30)):=(Below.refl _ w).alloc (Nat.le_refl _) _
  have HE:=hide (markAcctS_any _ l k base hi _ (ho.below hb3 (Nat.le_refl _)) hl hlv hk hk0)
  have Hb3:=hide hb3
  clear hb3 ho
  go_enter Tryz.func13,Tryz.ntmps13
  go_wp2_with fail
  refine HE.out.mono ?_
  rintro en w3 ⟨rfl,ho3,hb3⟩
  have Ho:=hide ho3
  have HB:=hide ((Btw.of_below (lo:=base) (hi:=hi) Hb3.out).trans hb3)
  clear ho3 hb3 HE Hb3
  go_wp2
  go_ret
  exact ⟨rfl,Ho.out,HB.out⟩
theorem heldLedger_any (e:Int) (v:Value) (l:List Ac) (k:Nat) (w:World) (hr:RdA w v (mkAs k l)) (hl:l.length<=10000000) (hlv:∀ a ∈ l,a.2.2.2.2.length<=10000000) (hk:nxs k l<=90000000) (hk0:0 < k) :
    Calls Tryz.prog 40 #[lgV e v,.int .i64 (k:Int)] w fun en w'=>en=.returned (.int .i64 ((nxs k l:Nat):Int))/\Below w.heap.size w w':=by
  obtain ⟨a1,cv1,hv⟩:=hr.shape
  have hb3:Below w.heap.size w (w.alloc (.cells #[.int .i64 e,v] 30)):=(Below.refl _ w).alloc (Nat.le_refl _) _
  have HE:=hide (heldAcctS_any _ l k _ (hr.below hb3 (Nat.le_refl _)) hl hlv hk hk0)
  have Hb3:=hide hb3
  subst hv
  simp only [lgV] at *
  clear hb3 hr
  have hnn:¬ ((nxs k l:Nat):Int) < 0:=by omega
  go_enter Tryz.func40,Tryz.ntmps40
  go_wp2_with fail
  refine HE.out.mono ?_
  rintro en w3 ⟨rfl,hb3⟩
  have HB:=hide (Hb3.out.trans (hb3.mono Hb3.out.size))
  clear hb3 Hb3 HE
  go_wp2
  go_ret
  exact ⟨rfl,HB.out⟩
end Go.Proofs.YthidkbhiikdokaaGreat
