/- Blocks. -/
import Derived.Test.YthehfkafcdociaaGreatDoorZyAcCrSpec
import Derived.Test.YthehfkafcdociaaGreatDoorZyMarkStr
import Derived.Deep.RegionLaw
set_option maxRecDepth 20000
set_option maxHeartbeats 2000000
namespace Go.Proofs.YthehfkafcdociaaGreatDoor
open Go.RowKit
set_option linter.unusedVariables false
structure Btw (lo hi:Nat) (w w':World):Prop where
  os:w'.os=w.os
  tape:w'.tape=w.tape
  output:w'.output=w.output
  size:w.heap.size<=w'.heap.size
  block:∀ k,k < w.heap.size->(k < lo\/hi<=k)->w'.heap[k]?=w.heap[k]?
theorem Btw.refl (lo hi:Nat) (w:World):Btw lo hi w w:=⟨rfl,rfl,rfl,Nat.le_refl _,fun _ _ _=>rfl⟩
theorem Btw.trans {lo hi:Nat} {a b c:World} (h:Btw lo hi a b) (k:Btw lo hi b c):Btw lo hi a c :=
  ⟨k.os.trans h.os,k.tape.trans h.tape,k.output.trans h.output,Nat.le_trans h.size k.size,fun i hi' ho=>(k.block i (Nat.lt_of_lt_of_le hi' h.size) ho).trans (h.block i hi' ho)⟩
theorem Btw.of_below {lo hi:Nat} {w w':World} (h:Below w.heap.size w w'):Btw lo hi w w':=⟨h.os,h.tape,h.output,h.size,fun k hk _=>h.block k hk⟩
theorem Btw.of_grown {lo hi:Nat} {w w':World} {row:Option Nat} (h:w.grownBy w' row) (hr:∀ k,row=some k->lo<=k/\k < hi):Btw lo hi w w' :=
  ⟨h.os,h.tape,h.output,h.size,fun k hk ho=>h.block k hk (fun e=>by have:=hr k e.symm;omega)⟩
theorem row_btw {lo hi base:Nat} {w w':World} {e:TypeId} {size:Nat} {v:Value} {n:Nat} {xs:List Value} (h:w.ownsRow base e size v n xs) (hb:Btw lo hi w w') (hn:∀ k,v.ownBlock=some k->k < lo\/hi<=k):w'.ownsRow base e size v n xs:=by
  refine ⟨h.1,?_⟩
  rcases h.2 with h' | ⟨g,cap,cur,hv,hbb,hg,r⟩
  · exact .inl h'
  · refine .inr ⟨g,cap,cur,hv,hbb,?_,r⟩
    have hlt:g < w.heap.size:=(Array.getElem?_eq_some_iff.1 hg).1
    rw [hb.block g hlt (hn g (by rw [hv];rfl))]
    exact hg
def OwnX (base hi:Nat) (w:World) (v:Value) (l:List Ac):Prop :=
  ∃ (g cap:Nat) (Z:List (Ac × Value)),Z.map (·.1)=l/\v=.slice (some ⟨g,0,none⟩) l.length cap/\w.ownsRow base 122 5 v l.length (Z.map acC).flatten/\Lvs base w g Z/\g < hi/\∀ q ∈ Z,∀ k,q.2.ownBlock=some k->k < hi
theorem OwnA.ox {base:Nat} {w:World} {v:Value} {l:List Ac} (h:OwnA base w v l):OwnX base w.heap.size w v l:=by
  obtain ⟨g,cap,Z,h1,rfl,h3,h4⟩:=h
  exact ⟨g,cap,Z,h1,rfl,h3,h4,(World.ownsRow.lt h3 g rfl).2,fun q hq k hk=>by
    obtain ⟨i,hi,rfl⟩:=List.mem_iff_getElem.1 hq
    exact (h4.own i hi).lt k hk⟩
theorem OwnX.own {base hi:Nat} {w:World} {v:Value} {l:List Ac} (h:OwnX base hi w v l):OwnA base w v l:=by
  obtain ⟨g,cap,Z,h1,h2,h3,h4,_⟩:=h
  exact ⟨g,cap,Z,h1,h2,h3,h4⟩
theorem OwnX.rd {base hi:Nat} {w:World} {v:Value} {l:List Ac} (h:OwnX base hi w v l):RdA w v l:=h.own.rd
theorem OwnX.below {B base hi:Nat} {w w':World} {v:Value} {l:List Ac} (h:OwnX base hi w v l) (hb:Below B w w') (hB:w.heap.size<=B):OwnX base hi w' v l:=by
  obtain ⟨g,cap,Z,h1,h2,h3,h4,h5,h6⟩:=h
  exact ⟨g,cap,Z,h1,h2,row_below h3 hb hB,h4.below hb hB,h5,h6⟩
theorem OwnX.btw {lo hi' base hi:Nat} {w w':World} {v:Value} {l:List Ac} (h:OwnX base hi w v l) (hb:Btw lo hi' w w') (hd:hi<=lo\/hi'<=base):OwnX base hi w' v l:=by
  obtain ⟨g,cap,Z,h1,rfl,h3,h4,h5,h6⟩:=h
  have hg:=(World.ownsRow.lt h3 g rfl).1
  refine ⟨g,cap,Z,h1,rfl,row_btw h3 hb (fun k hk=>by have:g=k:=(by simpa [Value.ownBlock] using hk);subst this;omega),⟨fun i hi=>row_btw (h4.own i hi) hb (fun k hk=>?_),h4.far,h4.apart⟩,h5,h6⟩
  have:=(h4.own i hi).ge k hk
  have:=h6 _ (List.getElem_mem hi) k hk
  omega
def mkL (k n:Nat):List (Int × Int):=(List.range n).map (fun i=>(((k+2 * i:Nat):Int),((k+2 * i+1:Nat):Int)))
theorem mkL_len (k n:Nat):(mkL k n).length=n:=by simp [mkL]
theorem mkL_at (k n j:Nat) (h:j < (mkL k n).length):(mkL k n)[j]=(((k+2 * j:Nat):Int),((k+2 * j+1:Nat):Int)):=by simp [mkL]
def mkA (k:Nat) (a:Ac):Ac:=(mtx k,((k+1:Nat):Int),((k+2:Nat):Int),((k+3:Nat):Int),mkL (k+4) a.2.2.2.2.length)
def nx (k:Nat) (a:Ac):Nat:=k+4+2 * a.2.2.2.2.length
def mkAs:Nat->List Ac->List Ac
  | _,[]=>[]
  | k,a :: t=>mkA k a :: mkAs (nx k a) t
def nxs:Nat->List Ac->Nat
  | k,[]=>k
  | k,a :: t=>nxs (nx k a) t
def mkZ:Nat->List (Ac × Value)->List (Ac × Value)
  | _,[]=>[]
  | k,q :: t=>(mkA k q.1,q.2) :: mkZ (nx k q.1) t
theorem mkZ_fst:∀ (k:Nat) (Z:List (Ac × Value)),(mkZ k Z).map (·.1)=mkAs k (Z.map (·.1))
  | _,[]=>rfl
  | k,q :: t=>by simp [mkZ,mkAs,mkZ_fst]
theorem mkZ_snd:∀ (k:Nat) (Z:List (Ac × Value)),(mkZ k Z).map (·.2)=Z.map (·.2)
  | _,[]=>rfl
  | k,q :: t=>by simp [mkZ,mkZ_snd]
theorem mkZ_len:∀ (k:Nat) (Z:List (Ac × Value)),(mkZ k Z).length=Z.length
  | _,[]=>rfl
  | k,q :: t=>by simp [mkZ,mkZ_len]
theorem mkAs_len:∀ (k:Nat) (l:List Ac),(mkAs k l).length=l.length
  | _,[]=>rfl
  | k,q :: t=>by simp [mkAs,mkAs_len]
theorem mkZ_snoc:∀ (k:Nat) (A:List (Ac × Value)) (q:Ac × Value),mkZ k (A ++ [q])=mkZ k A ++ [(mkA (nxs k (A.map (·.1))) q.1,q.2)]
  | _,[],_=>rfl
  | k,x :: A,q=>by simp [mkZ,nxs,mkZ_snoc]
theorem nxs_snoc:∀ (k:Nat) (A:List Ac) (a:Ac),nxs k (A ++ [a])=nx (nxs k A) a
  | _,[],_=>rfl
  | k,x :: A,q=>by simp [nxs,nxs_snoc]
theorem mkAs_app:∀ (k:Nat) (A B:List Ac),mkAs k (A ++ B)=mkAs k A ++ mkAs (nxs k A) B
  | _,[],_=>rfl
  | k,x :: A,B=>by simp [mkAs,nxs,mkAs_app]
theorem nxs_app:∀ (k:Nat) (A B:List Ac),nxs k (A ++ B)=nxs (nxs k A) B
  | _,[],_=>rfl
  | k,x :: A,B=>by simp [nxs,nxs_app]
theorem nxs_ge:∀ (k:Nat) (l:List Ac),k<=nxs k l
  | _,[]=>Nat.le_refl _
  | k,x :: t=>by have:=nxs_ge (nx k x) t;unfold nx at this;simp only [nxs,nx];omega
theorem nxs_take (k:Nat) (l:List Ac) (j:Nat):nxs k (l.take j)<=nxs k l:=by
  have:=nxs_app k (l.take j) (l.drop j)
  rw [List.take_append_drop] at this
  rw [this]
  exact nxs_ge _ _
theorem nxs_next (k:Nat) (l:List Ac) (j:Nat) (h:j < l.length):nxs k (l.take (j+1))=nx (nxs k (l.take j)) l[j]:=by rw [List.take_succ_eq_append_getElem h,nxs_snoc]
theorem mkAs_at (k:Nat) (l:List Ac) (j:Nat) (h:j < l.length):(mkAs k l)[j]'(by rw [mkAs_len];exact h)=mkA (nxs k (l.take j)) l[j]:=by
  have e:l=l.take j ++ l[j] :: l.drop (j+1):=by rw [<- List.drop_eq_getElem_cons h,List.take_append_drop]
  have e2:mkAs k l=mkAs k (l.take j) ++ mkA (nxs k (l.take j)) l[j] :: mkAs (nx (nxs k (l.take j)) l[j]) (l.drop (j+1)):=by
    conv=>lhs;rw [e]
    rw [mkAs_app]
    rfl
  have hlen:(mkAs k (l.take j)).length=j:=by rw [mkAs_len];simp;omega
  simp only [e2]
  rw [List.getElem_append_right (by omega)]
  simp [hlen]
def mkP (k:Nat) (Z:List (Ac × Value)) (j:Nat):List (Ac × Value):=mkZ k (Z.take j) ++ Z.drop j
theorem mkP_zero (k:Nat) (Z:List (Ac × Value)):mkP k Z 0=Z:=by simp [mkP,mkZ]
theorem mkP_all (k:Nat) (Z:List (Ac × Value)):mkP k Z Z.length=mkZ k Z:=by simp [mkP]
theorem mkP_len (k:Nat) (Z:List (Ac × Value)) (j:Nat) (h:j<=Z.length):(mkP k Z j).length=Z.length:=by simp [mkP,mkZ_len];omega
theorem mkP_at (k:Nat) (Z:List (Ac × Value)) (j:Nat) (h:j < Z.length):(mkP k Z j)[j]'(by rw [mkP_len _ _ _ (by omega)];exact h)=Z[j]:=by
  unfold mkP
  rw [List.getElem_append_right (by rw [mkZ_len];simp;omega)]
  simp [mkZ_len,show j - min j Z.length=0 from by omega]
theorem mkP_next (k:Nat) (Z:List (Ac × Value)) (j:Nat) (h:j < Z.length):(mkP k Z j).set j (mkA (nxs k ((Z.map (·.1)).take j)) Z[j].1,Z[j].2)=mkP k Z (j+1):=by
  have hlen:(mkZ k (Z.take j)).length=j:=by rw [mkZ_len];simp;omega
  unfold mkP
  rw [List.drop_eq_getElem_cons h,List.set_append_right _ _ (by omega),hlen,Nat.sub_self,List.set_cons_zero,List.take_succ_eq_append_getElem h,mkZ_snoc,List.map_take,List.append_assoc]
  rfl
theorem gen_setL {α β:Type} (M l:List α) (f:α->β) (j:Nat) (hM:M.length=l.length) (hj:j < M.length):((M.take j ++ l.drop j).map f).set j (f M[j])=(M.take (j+1) ++ l.drop (j+1)).map f:=by
  have e1:((M.take j).map f).length=j:=by simp;omega
  rw [List.map_append,List.set_append_right _ _ (by omega),e1,Nat.sub_self,List.drop_eq_getElem_cons (show j < l.length by omega),List.map_cons,List.set_cons_zero,List.take_succ_eq_append_getElem hj,List.map_append,List.map_append,List.append_assoc]
  rfl
theorem markLeaveS_any (v:Value) (l:List (Int × Int)) (k base:Nat) (w:World) (ho:OwnL base w v l) (hl:l.length<=10000000) (hk:k<=100000000) :
    Calls Tryz.prog 75 #[v,.int .i64 (k:Int)] w fun e w'=>e=.returned (.int .i64 ((k+2 * l.length:Nat):Int))/\OwnL base w' v (mkL k l.length)/\w.grownBy w' v.ownBlock:=by
  have hML:=mkL_len k l.length
  have hMA:=mkL_at k l.length
  generalize hMd:mkL k l.length=M at hML hMA
  clear hMd
  rcases ho.2 with ⟨rfl,hn⟩ | ⟨g,cap,cur,rfl,_,_,_,hcm,_,_⟩
  · have e:l=[]:=List.length_eq_zero_iff.1 hn
    subst e
    have e2:M=[]:=List.length_eq_zero_iff.1 hML
    subst e2
    have Ho:=hide ho
    clear ho
    go_enter Tryz.func75,Tryz.ntmps75
    go_wp2
    refine wp_loop_rounds 1 ?_
    rw [rounds_succ]
    go_wp2
    go_ret
    exact ⟨rfl,Ho.out,World.grownBy.refl _ _⟩
  · have Ho:=hide ho
    have HML:=hide hML
    have HMA:=hide hMA
    have hMl:l.length<=M.length:=by omega
    have hMg:M.length<=l.length:=by omega
    clear ho hML hMA
    go_enter Tryz.func75,Tryz.ntmps75
    go_wp2
    go_loopw [1,5] (fun kv iv wr=>∃ j:Nat,j<=l.length/\iv=.int .i64 (j:Int)/\kv=.int .i64 ((k+2 * j:Nat):Int)/\wr.ownsRow base 124 2 (.slice (some ⟨g,0,none⟩) l.length cap) l.length ((M.take j ++ l.drop j).map lvC).flatten/\w.grownBy wr (some g))
      (fun _ iv _=>l.length - (intOf iv).toNat)
    case atStart=>exact ⟨0,Nat.zero_le _,rfl,rfl,by simpa [OwnL] using Ho.out,World.grownBy.refl _ _⟩
    case round =>
      obtain ⟨j,hj,rfl,rfl,hown,hgr⟩:=hrel
      by_cases hlt:j < l.length
      · have hjM:j < M.length:=by omega
        obtain ⟨K,hK⟩:∃ K:Nat,k+2 * j=K:=⟨_,rfl⟩
        have hK2:K<=200000000:=by omega
        have eM:lvC M[j]=[.int .i64 ((K:Nat):Int),.int .i64 ((K+1:Nat):Int)]:=by rw [HMA.out j hjM,hK];rfl
        have hsz:=lvM_sz (M.take j ++ l.drop j)
        have hlen:((M.take j ++ l.drop j).map lvC).length=l.length:=by simp;omega
        obtain ⟨u0,hu0⟩:∃ u,((M.take j ++ l.drop j).map lvC).flatten[j * 2]?=some u:=⟨_,List.getElem?_eq_getElem (by rw [flat_len 2 _ hsz];omega)⟩
        obtain ⟨u1,hu1⟩:∃ u,((M.take j ++ l.drop j).map lvC).flatten[j * 2+1]?=some u:=⟨_,List.getElem?_eq_getElem (by rw [flat_len 2 _ hsz];omega)⟩
        have d0:=hown.cellAt (j * 2) (by omega)
        have d1:=hown.cellAt (j * 2+1) (by omega)
        have f0:=hown.frozenAt (j * 2)
        have f1:=hown.frozenAt (j * 2+1)
        rw [hu0] at d0
        rw [hu1] at d1
        have hst:=hown.stored (j * 2) (.int .i64 ((K:Nat):Int))
        have hst2:=hst.1.stored (j * 2+1) (.int .i64 ((K+1:Nat):Int))
        rw [flat_put2 _ j _ _ (by rw [hlen];exact hlt) hsz,<- eM,gen_setL M l lvC j HML.out hjM] at hst2
        have Hst:=hide hst2.1
        have Hgr2:=hide (grownS_trans (grownS_trans hgr hst.2) hst2.2)
        have hli:(j:Int) < (l.length:Int):=by omega
        rw [hK]
        have HK:=hide hK
        clear hK hst hst2 hown hgr eM hu0 hu1
        go_wp2
        go_roundw
        case rel=>exact ⟨j+1,by omega,by go_num,by rw [show k+2 * (j+1)=K+2 from by have:=HK.out;omega];go_num,Hst.out,Hgr2.out⟩
        case measure=>simp [intOf];omega
      · have e:M.take j ++ l.drop j=M:=by rw [List.take_of_length_le (by omega),List.drop_of_length_le (by omega),List.append_nil]
        rw [e] at hown
        have ho':OwnL base wr (.slice (some ⟨g,0,none⟩) l.length cap) M:=by
          unfold OwnL
          rw [HML.out]
          exact hown
        have e2:j=l.length:=by omega
        have Ho':=hide ho'
        have Hgr:=hide hgr
        clear ho' hgr hown e
        subst e2
        go_wp2
        go_ret
        exact ⟨rfl,Ho'.out,Hgr.out⟩
structure TxAt (w:World) (b o:Nat) (t:Tx5):Prop where
  c0:w.cell? ⟨b,o,none⟩=some (.int .i64 t.1)
  c1:w.cell? ⟨b,o+1,none⟩=some (.string t.2.1)
  c2:w.cell? ⟨b,o+2,none⟩=some (.string t.2.2.1)
  c3:w.cell? ⟨b,o+3,none⟩=some (.int .i64 t.2.2.2.1)
  c4:w.cell? ⟨b,o+4,none⟩=some (.int .i64 t.2.2.2.2)
theorem TxAt.below {w w':World} {B b o:Nat} {t:Tx5} (h:TxAt w b o t) (hb:Below B w w') (hB:b < B):TxAt w' b o t :=
  ⟨(hb.cell (p:=⟨b,o,none⟩) hB).trans h.c0,(hb.cell (p:=⟨b,o+1,none⟩) hB).trans h.c1,(hb.cell (p:=⟨b,o+2,none⟩) hB).trans h.c2,(hb.cell (p:=⟨b,o+3,none⟩) hB).trans h.c3,(hb.cell (p:=⟨b,o+4,none⟩) hB).trans h.c4⟩
def RdT (w:World) (v:Value) (l:List Tx5):Prop :=
  (∃ a cap,v=.slice a 0 cap/\l=[]/\(a=none->cap=0)) \/
  ∃ b off cap,l ≠ []/\v=.slice (some ⟨b,off,none⟩) l.length cap/\l.length<=cap/\cap<=maxLen/\b < w.heap.size/\∀ i (h:i < l.length),TxAt w b (off+i * 5) l[i]
theorem RdT.shape {w:World} {v:Value} {l:List Tx5} (h:RdT w v l):∃ a cap,v=.slice a l.length cap:=by
  rcases h with ⟨a,cap,rfl,rfl,-⟩ | ⟨b,off,cap,h0,rfl,_⟩
  · exact ⟨a,cap,rfl⟩
  · exact ⟨_,cap,rfl⟩
theorem RdT.below {B:Nat} {w w':World} {v:Value} {l:List Tx5} (h:RdT w v l) (hb:Below B w w') (hB:w.heap.size<=B):RdT w' v l:=by
  rcases h with h | ⟨b,off,cap,h0,hv,h1,h2,h3,h4⟩
  · exact .inl h
  · exact .inr ⟨b,off,cap,h0,hv,h1,h2,by have:=hb.size;omega,fun i hi=>(h4 i hi).below hb (by omega)⟩
def txC (t:Tx5):List Value:=[.int .i64 t.1,.string t.2.1,.string t.2.2.1,.int .i64 t.2.2.2.1,.int .i64 t.2.2.2.2]
def txZ:List Value:=[.int .i64 0,.string { data:=#[] },.string { data:=#[] },.int .i64 0,.int .i64 0]
theorem txM_sz (l:List Tx5):∀ x ∈ l.map txC,x.length=5:=fun x hx=>by obtain ⟨p,_,rfl⟩:=List.mem_map.1 hx;rfl
theorem txP_sz (l:List Tx5) (k:Nat):∀ x ∈ part txC txZ l k,x.length=5:=part_sz 5 _ _ _ _ (fun _=>rfl) rfl
def OwnT (base:Nat) (w:World) (v:Value) (l:List Tx5):Prop:=w.ownsRow base 117 5 v l.length (l.map txC).flatten
theorem OwnT.rd {base:Nat} {w:World} {v:Value} {l:List Tx5} (h:OwnT base w v l):RdT w v l:=by
  rcases h.2 with ⟨rfl,hn⟩ | ⟨g,cap,cur,rfl,hb,hg,hnc,hcm,hcs,ht⟩
  · have:l=[]:=List.length_eq_zero_iff.1 hn
    subst this
    exact .inl ⟨_,_,rfl,rfl,fun _=>rfl⟩
  · by_cases hn:l=[]
    · subst hn;exact .inl ⟨_,_,rfl,rfl,fun h=>by cases h⟩
    · refine .inr ⟨g,0,cap,hn,rfl,hnc,hcm,(Array.getElem?_eq_some_iff.1 hg).1,fun i hi=>?_⟩
      have cell:∀ j,j < 5->w.cell? ⟨g,0+i * 5+j,none⟩=(txC l[i])[j]?:=fun j hj=>by
        rw [Nat.zero_add,World.ownsRow.cellAt h (i * 5+j) (by omega),flat_get 5 (l.map txC) i j (by simpa using hi) (txM_sz l) hj]
        simp
      exact ⟨by have:=cell 0 (by omega);simpa [txC] using this,by have:=cell 1 (by omega);simpa [txC] using this,by have:=cell 2 (by omega);simpa [txC] using this,by have:=cell 3 (by omega);simpa [txC] using this,by have:=cell 4 (by omega);simpa [txC] using this⟩
theorem OwnT.below {B base:Nat} {w w':World} {v:Value} {l:List Tx5} (h:OwnT base w v l) (hb:Below B w w') (hB:w.heap.size<=B):OwnT base w' v l:=row_below h hb hB
theorem OwnT.lt {base:Nat} {w:World} {v:Value} {l:List Tx5} (h:OwnT base w v l):∀ k,v.ownBlock=some k->base<=k/\k < w.heap.size:=fun k hk=>World.ownsRow.lt h k hk
theorem Tryz.infoTx:(Tryz.prog.info? 117).map (fun i=>(i.zero,i.size,i.bytes))=some (some (.agg #[.int .i64 0,.string { data:=#[] },.string { data:=#[] },.int .i64 0,.int .i64 0]),5,56):=by kernel_rfl
theorem toTxS_any (v:Value) (l:List Tx5) (w:World) (hr:RdT w v l) (hl:l.length<=4000000) :
    Calls Tryz.prog 98 #[v] w fun e w'=>∃ v',e=.returned v'/\OwnT w.heap.size w' v' l/\Below w.heap.size w w':=by
  obtain ⟨i0,hi,hz0,hz1,hz2⟩:=info_parts Tryz.infoTx
  rcases hr with ⟨a,cap,rfl,rfl,-⟩ | ⟨b,off,cap,h0,rfl,h1,h2,h3,h4⟩
  · go_enter Tryz.func98,Tryz.ntmps98
    go_wp2_with (refine wpList_make_full _ rfl _ _ 66 rfl w.heap.size 117 i0 (.agg #[.int .i64 0,.string { data:=#[] },.string { data:=#[] },.int .i64 0,.int .i64 0]) 5 Tryz.underlying66 hi hz0 hz1 .i64 .i64 _ _ 0 rfl rfl rfl rfl (by omega) (by unfold maxLen;omega) (Nat.le_refl _) ?_;intro w1 hown hgrow)
    have hb1:Below w.heap.size w w1:=(Below.refl _ _).grown hgrow (Nat.le_refl _) (by intro k hk;cases hk)
    refine wp_loop_rounds 1 ?_
    rw [rounds_succ]
    go_wp2
    go_ret
    have ho':OwnT w.heap.size w1 (.slice (some ⟨w.heap.size,0,none⟩) 0 0) []:=by
      have e:=made_flat (Value.agg #[.int .i64 0,.string { data:=#[] },.string { data:=#[] },.int .i64 0,.int .i64 0]).cells 5 0 rfl (by omega)
      rw [e] at hown
      exact hown
    exact ⟨_,rfl,ho',hb1⟩
  · go_enter Tryz.func98,Tryz.ntmps98
    go_wp2_with (refine wpList_make_full _ rfl _ _ 66 rfl w.heap.size 117 i0 (.agg #[.int .i64 0,.string { data:=#[] },.string { data:=#[] },.int .i64 0,.int .i64 0]) 5 Tryz.underlying66 hi hz0 hz1 .i64 .i64 _ _ l.length rfl rfl rfl rfl (by rw [hz2];omega) (by unfold maxLen;omega) (Nat.le_refl _) ?_;intro w1 hown hgrow)
    have hb1:Below w.heap.size w w1:=(Below.refl _ _).grown hgrow (Nat.le_refl _) (by intro k hk;cases hk)
    go_loopw [4] (fun i wr=>∃ k:Nat,k<=l.length/\i=.int .i64 k/\wr.ownsRow w.heap.size 117 5 (.slice (some ⟨w.heap.size,0,none⟩) l.length l.length) l.length (part txC txZ l k).flatten/\Below w.heap.size w wr)
      (fun i _=>l.length - (intOf i).toNat)
    case atStart =>
      refine ⟨0,Nat.zero_le _,rfl,?_,hb1⟩
      rw [part_zero]
      have e:=made_flat (Value.agg #[.int .i64 0,.string { data:=#[] },.string { data:=#[] },.int .i64 0,.int .i64 0]).cells 5 l.length rfl (by omega)
      rw [e] at hown
      exact hown
    case round =>
      obtain ⟨k,hk,rfl,ho,hb⟩:=hrel
      clear hown hgrow hb1
      by_cases hlt:k < l.length
      · obtain ⟨c0,c1,c2,c3,c4⟩:=(h4 k hlt).below hb h3
        have hli:(k:Int) < (l.length:Int):=by omega
        have Hput:=hide (flat_put5 (part txC txZ l k) k (.int .i64 l[k].1) (.string l[k].2.1) (.string l[k].2.2.1) (.int .i64 l[k].2.2.2.1) (.int .i64 l[k].2.2.2.2) (by rw [part_len _ _ _ _ hk];exact hlt) (txP_sz l k))
        have Hnext:=hide (part_next txC txZ l k hlt)
        have Hg:Hid (∀ j,j < 5->(part txC txZ l k).flatten[k * 5+j]?=txZ[j]?):=hide (fun j hj=>by
          rw [flat_get 5 _ k j (by rw [part_len _ _ _ _ hk];exact hlt) (txP_sz l k) hj,part_at _ _ _ _ hlt])
        have Htx:Hid (txC l[k]=[.int .i64 l[k].1,.string l[k].2.1,.string l[k].2.2.1,.int .i64 l[k].2.2.2.1,.int .i64 l[k].2.2.2.2]):=hide rfl
        have hlb:w.heap.size < wr.heap.size:=((World.ownsRow.lt ho w.heap.size rfl)).2
        have HT:=hide (toTx_any l[k] wr)
        clear h4
        generalize l[k]=tk at c0 c1 c2 c3 c4 Hput Htx HT Hnext
        obtain ⟨kd,fr,tO,am,no⟩:=tk
        simp only [txV] at c0 c1 c2 c3 c4 Hput Htx HT
        go_wp2_with (go_at_call 128;refine HT.out.mono ?_;rintro e w2 ⟨rfl,hb2⟩;have ho2:=row_below ho hb2 (Nat.le_refl _);have q0:=ho2.cellAt (k * 5) (by omega);have q1:=ho2.cellAt (k * 5+1) (by omega);have q2:=ho2.cellAt (k * 5+2) (by omega);have q3:=ho2.cellAt (k * 5+3) (by omega);have q4:=ho2.cellAt (k * 5+4) (by omega);have f0:=ho2.frozenAt (k * 5);have f1:=ho2.frozenAt (k * 5+1);have f2:=ho2.frozenAt (k * 5+2);have f3:=ho2.frozenAt (k * 5+3);have f4:=ho2.frozenAt (k * 5+4);rw [<- Nat.add_zero (k * 5),Hg.out 0 (by omega)] at q0;rw [Hg.out 1 (by omega)] at q1;rw [Hg.out 2 (by omega)] at q2;rw [Hg.out 3 (by omega)] at q3;rw [Hg.out 4 (by omega)] at q4;rw [Nat.add_zero] at q0;simp only [txZ,List.getElem?_cons_zero,List.getElem?_cons_succ] at q0 q1 q2 q3 q4)
        go_roundw
        case rel =>
          refine ⟨k+1,by omega,by go_num,?_,(((((hb.trans (hb2.mono hb.size)).setCell (p:=⟨w.heap.size,k * 5,none⟩) (Nat.le_refl _) _).setCell (p:=⟨w.heap.size,k * 5+1,none⟩) (Nat.le_refl _) _).setCell (p:=⟨w.heap.size,k * 5+2,none⟩) (Nat.le_refl _) _).setCell (p:=⟨w.heap.size,k * 5+3,none⟩) (Nat.le_refl _) _).setCell (p:=⟨w.heap.size,k * 5+4,none⟩) (Nat.le_refl _) _⟩
          have s1:=(ho2.stored (k * 5) (.int .i64 kd)).1
          have s2:=(s1.stored (k * 5+1) (.string fr)).1
          have s3:=(s2.stored (k * 5+2) (.string tO)).1
          have s4:=(s3.stored (k * 5+3) (.int .i64 am)).1
          have s5:=(s4.stored (k * 5+4) (.int .i64 no)).1
          rw [Hput.out,<- Htx.out,Hnext.out] at s5
          exact s5
        case measure=>simp [intOf];omega
      · have e:k=l.length:=by omega
        subst e
        rw [part_all] at ho
        go_wp2
        go_ret
        exact ⟨_,rfl,ho,hb⟩
theorem eqTxS_any (v1 v2:Value) (l1 l2:List Tx5) (w:World) (hr1:RdT w v1 l1) (hr2:RdT w v2 l2) (hl1:l1.length<=4000000) (hl2:l2.length<=4000000) (he:l1=l2) :
    Calls Tryz.prog 113 #[v1,v2] w fun e w'=>e=.returned (.bool true)/\Below w.heap.size w w':=by
  subst he
  rcases hr1 with ⟨a,cap,rfl,rfl,-⟩ | ⟨b,off,cap,h0,rfl,h1,h2,h3,h4⟩
  · obtain ⟨a2,cap2,rfl⟩:=hr2.shape
    clear hr2
    go_enter Tryz.func113,Tryz.ntmps113
    go_wp2
    refine wp_loop_rounds 1 ?_
    rw [rounds_succ]
    go_wp2
    go_ret
    exact ⟨rfl,Below.refl _ _⟩
  · rcases hr2 with ⟨a2,cap2,rfl,rfl,-⟩ | ⟨b2,off2,cap2,g0,rfl,g1,g2,g3,g4⟩
    · exact absurd rfl h0
    · have H4:=hide h4
      have G4:=hide g4
      clear h4 g4
      go_enter Tryz.func113,Tryz.ntmps113
      go_wp2
      go_loopw [5] (fun i wr=>∃ k:Nat,k<=l1.length/\i=.int .i64 k/\Below w.heap.size w wr) (fun i _=>l1.length - (intOf i).toNat)
      case atStart=>exact ⟨0,Nat.zero_le _,rfl,Below.refl _ _⟩
      case round =>
        obtain ⟨k,hk,rfl,hs⟩:=hrel
        by_cases hlt:k < l1.length
        · obtain ⟨c0,c1,c2,c3,c4⟩:=(H4.out k hlt).below hs.drew h3
          obtain ⟨d0,d1,d2,d3,d4⟩:=(G4.out k hlt).below hs.drew g3
          have hli:(k:Int) < (l1.length:Int):=by omega
          have HE:=hide (eqTx_any l1[k] l1[k] wr.drew)
          rw [decide_eq_true rfl] at HE
          generalize l1[k]=p at c0 c1 c2 c3 c4 d0 d1 d2 d3 d4 HE
          obtain ⟨kd,fr,tO,am,no⟩:=p
          simp only [txV] at c0 c1 c2 c3 c4 d0 d1 d2 d3 d4 HE
          have hS1:wr.drew.cell? ⟨b,off+k * 5,none⟩=some (.int .i64 kd)/\wr.drew.cell? ⟨b,off+k * 5+1,none⟩=some (.string fr)/\wr.drew.cell? ⟨b,off+k * 5+2,none⟩=some (.string tO)/\wr.drew.cell? ⟨b,off+k * 5+3,none⟩=some (.int .i64 am)/\wr.drew.cell? ⟨b,off+k * 5+4,none⟩=some (.int .i64 no)/\wr.drew.cell? ⟨b2,off2+k * 5,none⟩=some (.int .i64 kd)/\wr.drew.cell? ⟨b2,off2+k * 5+1,none⟩=some (.string fr)/\wr.drew.cell? ⟨b2,off2+k * 5+2,none⟩=some (.string tO)/\wr.drew.cell? ⟨b2,off2+k * 5+3,none⟩=some (.int .i64 am)/\wr.drew.cell? ⟨b2,off2+k * 5+4,none⟩=some (.int .i64 no):=⟨c0,c1,c2,c3,c4,d0,d1,d2,d3,d4⟩
          clear c0 c1 c2 c3 c4 d0 d1 d2 d3 d4
          go_wp2
          go_region_held_law (fun w'=>w'.cell? ⟨b,off+k * 5,none⟩=some (.int .i64 kd)/\w'.cell? ⟨b,off+k * 5+1,none⟩=some (.string fr)/\w'.cell? ⟨b,off+k * 5+2,none⟩=some (.string tO)/\w'.cell? ⟨b,off+k * 5+3,none⟩=some (.int .i64 am)/\w'.cell? ⟨b,off+k * 5+4,none⟩=some (.int .i64 no)/\w'.cell? ⟨b2,off2+k * 5,none⟩=some (.int .i64 kd)/\w'.cell? ⟨b2,off2+k * 5+1,none⟩=some (.string fr)/\w'.cell? ⟨b2,off2+k * 5+2,none⟩=some (.string tO)/\w'.cell? ⟨b2,off2+k * 5+3,none⟩=some (.int .i64 am)/\w'.cell? ⟨b2,off2+k * 5+4,none⟩=some (.int .i64 no)) (first | exact hS1 | exact hS2) ((go_at_call 136;refine HE.out.mono ?_;rintro e w2 ⟨rfl,hb2⟩;have hz:=hs.size;have hS2:w2.cell? ⟨b,off+k * 5,none⟩=some (.int .i64 kd)/\w2.cell? ⟨b,off+k * 5+1,none⟩=some (.string fr)/\w2.cell? ⟨b,off+k * 5+2,none⟩=some (.string tO)/\w2.cell? ⟨b,off+k * 5+3,none⟩=some (.int .i64 am)/\w2.cell? ⟨b,off+k * 5+4,none⟩=some (.int .i64 no)/\w2.cell? ⟨b2,off2+k * 5,none⟩=some (.int .i64 kd)/\w2.cell? ⟨b2,off2+k * 5+1,none⟩=some (.string fr)/\w2.cell? ⟨b2,off2+k * 5+2,none⟩=some (.string tO)/\w2.cell? ⟨b2,off2+k * 5+3,none⟩=some (.int .i64 am)/\w2.cell? ⟨b2,off2+k * 5+4,none⟩=some (.int .i64 no):=⟨(hb2.cell (p:=⟨b,off+k * 5,none⟩) (Nat.lt_of_lt_of_le h3 hz)).trans hS1.1,(hb2.cell (p:=⟨b,off+k * 5+1,none⟩) (Nat.lt_of_lt_of_le h3 hz)).trans hS1.2.1,(hb2.cell (p:=⟨b,off+k * 5+2,none⟩) (Nat.lt_of_lt_of_le h3 hz)).trans hS1.2.2.1,(hb2.cell (p:=⟨b,off+k * 5+3,none⟩) (Nat.lt_of_lt_of_le h3 hz)).trans hS1.2.2.2.1,(hb2.cell (p:=⟨b,off+k * 5+4,none⟩) (Nat.lt_of_lt_of_le h3 hz)).trans hS1.2.2.2.2.1,(hb2.cell (p:=⟨b2,off2+k * 5,none⟩) (Nat.lt_of_lt_of_le g3 hz)).trans hS1.2.2.2.2.2.1,(hb2.cell (p:=⟨b2,off2+k * 5+1,none⟩) (Nat.lt_of_lt_of_le g3 hz)).trans hS1.2.2.2.2.2.2.1,(hb2.cell (p:=⟨b2,off2+k * 5+2,none⟩) (Nat.lt_of_lt_of_le g3 hz)).trans hS1.2.2.2.2.2.2.2.1,(hb2.cell (p:=⟨b2,off2+k * 5+3,none⟩) (Nat.lt_of_lt_of_le g3 hz)).trans hS1.2.2.2.2.2.2.2.2.1,(hb2.cell (p:=⟨b2,off2+k * 5+4,none⟩) (Nat.lt_of_lt_of_le g3 hz)).trans hS1.2.2.2.2.2.2.2.2.2⟩))
          go_wp2
          go_roundw
          case rel=>exact ⟨k+1,by omega,by go_num,hs.drew.trans (hb2.mono hs.size)⟩
          case measure=>simp [intOf];omega
        · go_wp2
          go_ret
          exact ⟨rfl,hs⟩
def wgT (t:Tx5):Nat:=t.2.1.size+t.2.2.1.size
def totT (l:List Tx5):Nat:=(l.map wgT).sum
theorem totT_snoc (l:List Tx5) (k:Nat) (h:k < l.length):totT (l.take (k+1))=totT (l.take k)+wgT l[k]:=by
  unfold totT
  rw [List.take_succ_eq_append_getElem h,List.map_append,List.sum_append]
  simp only [List.map_cons,List.map_nil,List.sum_cons,List.sum_nil,Nat.add_zero]
theorem szT_fit (t:Tx5) (r:Nat) (h:wgT t<=r):szT t (r:Int)=((r - wgT t:Nat):Int):=by
  unfold wgT at h
  unfold szT wgT
  rw [if_neg (by omega),if_neg (by omega)]
  omega
theorem szT_not (t:Tx5) (r:Nat) (h:¬ wgT t<=r):szT t (r:Int)=-1:=by
  unfold wgT at h
  unfold szT
  by_cases h1:(r:Int) - t.2.1.size < 0
  · rw [if_pos h1]
  · rw [if_neg h1,if_pos (by omega)]
end Go.Proofs.YthehfkafcdociaaGreatDoor
namespace Go.Proofs.YthehfkafcdociaaGreatDoor
open Go.RowKit Go.Sort
set_option linter.unusedVariables false
def vl0:Vl:=(ByteArray.empty,0)
def valB (p:Vl):Bool:=nmB p.1 && inB p.2 1 1000000
def vlAt (l:List Vl) (i:Nat):Bool:=valB (l.getD i vl0) && (decide (i=0) || Op.bytesLess (l.getD (i - 1) vl0).1.toList (l.getD i vl0).1.toList)
def setB (l:List Vl):Bool:=(List.range l.length).all (vlAt l) && inB l.length 1 12
end Go.Proofs.YthehfkafcdociaaGreatDoor
namespace Go.Proofs.YthehfkafcdociaaGreatDoor
open Go.RowKit
set_option linter.unusedVariables false
structure Bk where
  id:Int
  ep:Int
  rd:Int
  md:ByteArray
  qr:Int
  qb:Int
  qw:List ByteArray
  tr:Int
  tw:List ByteArray
  th:List Int
  ts:List Tx5
  en:Bool
  nx:List Vl
  rt:ByteArray
structure Bv where
  q:Value
  w:Value
  h:Value
  t:Value
  n:Value
def bkC (b:Bk) (v:Bv):List Value:=[.int .i64 b.id,.int .i64 b.ep,.int .i64 b.rd,.string b.md,.int .i64 b.qr,.int .i64 b.qb,v.q,.int .i64 b.tr,v.w,v.h,v.t,.bool b.en,v.n,.string b.rt]
def bkV (b:Bk) (v:Bv):Value:=.agg #[.int .i64 b.id,.int .i64 b.ep,.int .i64 b.rd,.string b.md,.int .i64 b.qr,.int .i64 b.qb,v.q,.int .i64 b.tr,v.w,v.h,v.t,.bool b.en,v.n,.string b.rt]
structure RdK (w:World) (b:Bk) (v:Bv):Prop where
  q:RdS w v.q b.qw
  p:RdS w v.w b.tw
  h:RdI w v.h b.th
  t:RdT w v.t b.ts
  n:RdV w v.n b.nx
theorem RdK.below {B:Nat} {w w':World} {b:Bk} {v:Bv} (h:RdK w b v) (hb:Below B w w') (hB:w.heap.size<=B):RdK w' b v :=
  ⟨h.q.below hb hB,h.p.below hb hB,h.h.below hb hB,h.t.below hb hB,h.n.below hb hB⟩
structure FewK (b:Bk):Prop where
  q:b.qw.length<=4000000
  w:b.tw.length<=4000000
  h:b.th.length<=4000000
  t:b.ts.length<=4000000
  n:b.nx.length<=4000000
  qs:∀ s ∈ b.qw,s.size<=maxLen
  ws:∀ s ∈ b.tw,s.size<=maxLen
  ts:∀ t ∈ b.ts,t.2.1.size<=maxLen/\t.2.2.1.size<=maxLen
  ns:∀ p ∈ b.nx,p.1.size<=maxLen
  ms:b.md.size<=maxLen
  rs:b.rt.size<=maxLen
def q9B (b:Bk):Bool:=rootB b.qr b.qb b.qw || (inB b.qr 1 (wrap64 (b.rd - 1)) && (inB b.qb 0 (wrap64 (b.id - 1)) && nmsB b.qw))
def t9B (b:Bk):Bool:=noneB b.tr b.tw b.th || (inB b.tr 1 (wrap64 (b.rd - 1)) && (nmsB b.tw && (decide (b.th.length=b.tw.length) && hisB b.tr b.th)))
def e9B (b:Bk):Bool:=if b.en=true then setB b.nx && decide (b.rt.size=32) else decide (b.nx.length=0) && decide (b.rt=⟨#[]⟩)
def blB (b:Bk):Bool:=inB b.id 0 100000 && (inB b.ep 0 900 && (inB b.rd 1 10000 && (nmB b.md && (q9B b && (t9B b && (decide (b.ts.length<=4) && (b.ts.all txB && e9B b)))))))
end Go.Proofs.YthehfkafcdociaaGreatDoor
