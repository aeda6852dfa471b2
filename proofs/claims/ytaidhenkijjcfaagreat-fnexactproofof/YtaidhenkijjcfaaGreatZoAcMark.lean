/- The laws' marks on accounts. -/
import Derived.Test.YtaidhenkijjcfaaGreatZoAcWith
set_option maxRecDepth 20000
set_option maxHeartbeats 400000
namespace Go.Proofs.YtaidhenkijjcfaaGreat
open Go.RowKit
set_option linter.unusedVariables false
theorem OwnA.mono {base base':Nat} {w:World} {v:Value} {l:List Ac} (h:OwnA base w v l) (hB:base'<=base):OwnA base' w v l:=by
  obtain ⟨g,cap,Z,h1,h2,h3,h4⟩:=h
  refine ⟨g,cap,Z,h1,h2,⟨h3.1,?_⟩,h4.mono hB⟩
  rcases h3.2 with h' | ⟨g',cap',cur,hv,hbb,r⟩
  · exact .inl h'
  · exact .inr ⟨g',cap',cur,hv,by omega,r⟩
theorem fst_at {Z:List (Ac × Value)} {L:List Ac} {k:Nat} (hZ:Z.map (·.1)=L) (hk:k < L.length):(Z[k]'(by rw [<- hZ] at hk;simpa using hk)).1=L[k]:=by subst hZ;simp
structure Btw (lo hi:Nat) (w w':World):Prop where
  os:w'.os=w.os
  tape:w'.tape=w.tape
  output:w'.output=w.output
  size:w.heap.size<=w'.heap.size
  block:∀ k,k < w.heap.size->(k < lo\/hi<=k)->w'.heap[k]?=w.heap[k]?
theorem Btw.refl (lo hi:Nat) (w:World):Btw lo hi w w:=⟨rfl,rfl,rfl,Nat.le_refl _,fun _ _ _=>rfl⟩
theorem Btw.trans {lo hi:Nat} {a b c:World} (h:Btw lo hi a b) (k:Btw lo hi b c):Btw lo hi a c :=
  ⟨k.os.trans h.os,k.tape.trans h.tape,k.output.trans h.output,Nat.le_trans h.size k.size,fun i hi' ho=>(k.block i (Nat.lt_of_lt_of_le hi' h.size) ho).trans (h.block i hi' ho)⟩
theorem Btw.of_below {lo hi:Nat} {w w':World} (h:Below w.heap.size w w'):Btw lo hi w w':=⟨h.os,h.tape,h.output,h.size,fun k hk _=>h.block k hk⟩
theorem Btw.of_grown {lo hi:Nat} {w w':World} {row:Option Nat} (h:w.grownBy w' row) (hr:∀ k,row=some k->lo<=k/\k < hi):Btw lo hi w w' :=
  ⟨h.os,h.tape,h.output,h.size,fun k hk ho=>h.block k hk (fun e=>by have:=hr k e.symm;omega)⟩
theorem row_btw {lo hi base:Nat} {w w':World} {e:TypeId} {size:Nat} {v:Value} {n:Nat} {xs:List Value} (h:w.ownsRow base e size v n xs) (hb:Btw lo hi w w') (hn:∀ k,v.ownBlock=some k->k < lo\/hi<=k):w'.ownsRow base e size v n xs:=by
  refine ⟨h.1,?_⟩
  rcases h.2 with h' | ⟨g,cap,cur,hv,hbb,hg,r⟩
  · exact .inl h'
  · refine .inr ⟨g,cap,cur,hv,hbb,?_,r⟩
    have hlt:g < w.heap.size:=(Array.getElem?_eq_some_iff.1 hg).1
    rw [hb.block g hlt (hn g (by rw [hv];rfl))]
    exact hg
def OwnX (base hi:Nat) (w:World) (v:Value) (l:List Ac):Prop :=
  ∃ (g cap:Nat) (Z:List (Ac × Value)),Z.map (·.1)=l/\v=.slice (some ⟨g,0,none⟩) l.length cap/\w.ownsRow base 190 5 v l.length (Z.map acC).flatten/\Lvs base w g Z/\g < hi/\∀ q ∈ Z,∀ k,q.2.ownBlock=some k->k < hi
theorem OwnA.ox {base:Nat} {w:World} {v:Value} {l:List Ac} (h:OwnA base w v l):OwnX base w.heap.size w v l:=by
  obtain ⟨g,cap,Z,h1,rfl,h3,h4⟩:=h
  exact ⟨g,cap,Z,h1,rfl,h3,h4,(World.ownsRow.lt h3 g rfl).2,fun q hq k hk=>by
    obtain ⟨i,hi,rfl⟩:=List.mem_iff_getElem.1 hq
    exact (h4.own i hi).lt k hk⟩
theorem OwnX.own {base hi:Nat} {w:World} {v:Value} {l:List Ac} (h:OwnX base hi w v l):OwnA base w v l:=by
  obtain ⟨g,cap,Z,h1,h2,h3,h4,_⟩:=h
  exact ⟨g,cap,Z,h1,h2,h3,h4⟩
theorem OwnX.rd {base hi:Nat} {w:World} {v:Value} {l:List Ac} (h:OwnX base hi w v l):RdA w v l:=h.own.rd
theorem OwnX.below {B base hi:Nat} {w w':World} {v:Value} {l:List Ac} (h:OwnX base hi w v l) (hb:Below B w w') (hB:w.heap.size<=B):OwnX base hi w' v l:=by
  obtain ⟨g,cap,Z,h1,h2,h3,h4,h5,h6⟩:=h
  exact ⟨g,cap,Z,h1,h2,row_below h3 hb hB,h4.below hb hB,h5,h6⟩
theorem OwnX.btw {lo hi' base hi:Nat} {w w':World} {v:Value} {l:List Ac} (h:OwnX base hi w v l) (hb:Btw lo hi' w w') (hd:hi<=lo\/hi'<=base):OwnX base hi w' v l:=by
  obtain ⟨g,cap,Z,h1,rfl,h3,h4,h5,h6⟩:=h
  have hg:=(World.ownsRow.lt h3 g rfl).1
  refine ⟨g,cap,Z,h1,rfl,row_btw h3 hb (fun k hk=>by have:g=k:=(by simpa [Value.ownBlock] using hk);subst this;omega),⟨fun i hi=>row_btw (h4.own i hi) hb (fun k hk=>?_),h4.far,h4.apart⟩,h5,h6⟩
  have:=(h4.own i hi).ge k hk
  have:=h6 _ (List.getElem_mem hi) k hk
  omega
def mkL (k n:Nat):List (Int × Int):=(List.range n).map (fun i=>(((k+2 * i:Nat):Int),((k+2 * i+1:Nat):Int)))
theorem mkL_len (k n:Nat):(mkL k n).length=n:=by simp [mkL]
theorem mkL_at (k n j:Nat) (h:j < (mkL k n).length):(mkL k n)[j]=(((k+2 * j:Nat):Int),((k+2 * j+1:Nat):Int)):=by simp [mkL]
def mkA (k:Nat) (a:Ac):Ac:=(mtx k,((k+1:Nat):Int),((k+2:Nat):Int),((k+3:Nat):Int),mkL (k+4) a.2.2.2.2.length)
def nx (k:Nat) (a:Ac):Nat:=k+4+2 * a.2.2.2.2.length
def mkAs:Nat->List Ac->List Ac
  | _,[]=>[]
  | k,a :: t=>mkA k a :: mkAs (nx k a) t
def nxs:Nat->List Ac->Nat
  | k,[]=>k
  | k,a :: t=>nxs (nx k a) t
def mkZ:Nat->List (Ac × Value)->List (Ac × Value)
  | _,[]=>[]
  | k,q :: t=>(mkA k q.1,q.2) :: mkZ (nx k q.1) t
theorem mkZ_fst:∀ (k:Nat) (Z:List (Ac × Value)),(mkZ k Z).map (·.1)=mkAs k (Z.map (·.1))
  | _,[]=>rfl
  | k,q :: t=>by simp [mkZ,mkAs,mkZ_fst]
theorem mkZ_snd:∀ (k:Nat) (Z:List (Ac × Value)),(mkZ k Z).map (·.2)=Z.map (·.2)
  | _,[]=>rfl
  | k,q :: t=>by simp [mkZ,mkZ_snd]
theorem mkZ_len:∀ (k:Nat) (Z:List (Ac × Value)),(mkZ k Z).length=Z.length
  | _,[]=>rfl
  | k,q :: t=>by simp [mkZ,mkZ_len]
theorem mkAs_len:∀ (k:Nat) (l:List Ac),(mkAs k l).length=l.length
  | _,[]=>rfl
  | k,q :: t=>by simp [mkAs,mkAs_len]
theorem mkZ_snoc:∀ (k:Nat) (A:List (Ac × Value)) (q:Ac × Value),mkZ k (A ++ [q])=mkZ k A ++ [(mkA (nxs k (A.map (·.1))) q.1,q.2)]
  | _,[],_=>rfl
  | k,x :: A,q=>by simp [mkZ,nxs,mkZ_snoc]
theorem nxs_snoc:∀ (k:Nat) (A:List Ac) (a:Ac),nxs k (A ++ [a])=nx (nxs k A) a
  | _,[],_=>rfl
  | k,x :: A,q=>by simp [nxs,nxs_snoc]
theorem nxs_app:∀ (k:Nat) (A B:List Ac),nxs k (A ++ B)=nxs (nxs k A) B
  | _,[],_=>rfl
  | k,x :: A,B=>by simp [nxs,nxs_app]
theorem nxs_ge:∀ (k:Nat) (l:List Ac),k<=nxs k l
  | _,[]=>Nat.le_refl _
  | k,x :: t=>by have:=nxs_ge (nx k x) t;unfold nx at this;simp only [nxs,nx];omega
theorem nxs_take (k:Nat) (l:List Ac) (j:Nat):nxs k (l.take j)<=nxs k l:=by
  have:=nxs_app k (l.take j) (l.drop j)
  rw [List.take_append_drop] at this
  rw [this]
  exact nxs_ge _ _
theorem nxs_next (k:Nat) (l:List Ac) (j:Nat) (h:j < l.length):nxs k (l.take (j+1))=nx (nxs k (l.take j)) l[j]:=by rw [List.take_succ_eq_append_getElem h,nxs_snoc]
def mkP (k:Nat) (Z:List (Ac × Value)) (j:Nat):List (Ac × Value):=mkZ k (Z.take j) ++ Z.drop j
theorem mkP_zero (k:Nat) (Z:List (Ac × Value)):mkP k Z 0=Z:=by simp [mkP,mkZ]
theorem mkP_all (k:Nat) (Z:List (Ac × Value)):mkP k Z Z.length=mkZ k Z:=by simp [mkP]
theorem mkP_len (k:Nat) (Z:List (Ac × Value)) (j:Nat) (h:j<=Z.length):(mkP k Z j).length=Z.length:=by simp [mkP,mkZ_len];omega
theorem mkP_at (k:Nat) (Z:List (Ac × Value)) (j:Nat) (h:j < Z.length):(mkP k Z j)[j]'(by rw [mkP_len _ _ _ (by omega)];exact h)=Z[j]:=by
  unfold mkP
  rw [List.getElem_append_right (by rw [mkZ_len];simp;omega)]
  simp [mkZ_len,show j - min j Z.length=0 from by omega]
theorem mkP_next (k:Nat) (Z:List (Ac × Value)) (j:Nat) (h:j < Z.length):(mkP k Z j).set j (mkA (nxs k ((Z.map (·.1)).take j)) Z[j].1,Z[j].2)=mkP k Z (j+1):=by
  have hlen:(mkZ k (Z.take j)).length=j:=by rw [mkZ_len];simp;omega
  unfold mkP
  rw [List.drop_eq_getElem_cons h,List.set_append_right _ _ (by omega),hlen,Nat.sub_self,List.set_cons_zero,List.take_succ_eq_append_getElem h,mkZ_snoc,List.map_take,List.append_assoc]
  rfl
theorem gen_setL {α β:Type} (M l:List α) (f:α->β) (j:Nat) (hM:M.length=l.length) (hj:j < M.length):((M.take j ++ l.drop j).map f).set j (f M[j])=(M.take (j+1) ++ l.drop (j+1)).map f:=by
  have e1:((M.take j).map f).length=j:=by simp;omega
  rw [List.map_append,List.set_append_right _ _ (by omega),e1,Nat.sub_self,List.drop_eq_getElem_cons (show j < l.length by omega),List.map_cons,List.set_cons_zero,List.take_succ_eq_append_getElem hj,List.map_append,List.map_append,List.append_assoc]
  rfl
theorem markLeaveS_any (v:Value) (l:List (Int × Int)) (k base:Nat) (w:World) (ho:OwnL base w v l) (hl:l.length<=10000000) (hk:k<=100000000) :
    Calls Tryz.prog 132 #[v,.int .i64 (k:Int)] w fun e w'=>e=.returned (.int .i64 ((k+2 * l.length:Nat):Int))/\OwnL base w' v (mkL k l.length)/\w.grownBy w' v.ownBlock:=by
  have hML:=mkL_len k l.length
  have hMA:=mkL_at k l.length
  generalize hMd:mkL k l.length=M at hML hMA
  clear hMd
  rcases ho.2 with ⟨rfl,hn⟩ | ⟨g,cap,cur,rfl,_,_,_,hcm,_,_⟩
  · have e:l=[]:=List.length_eq_zero_iff.1 hn
    subst e
    have e2:M=[]:=List.length_eq_zero_iff.1 hML
    subst e2
    have Ho:=hide ho
    clear ho
    go_enter Tryz.func132,Tryz.ntmps132
    go_wp2
    refine wp_loop_rounds 1 ?_
    rw [rounds_succ]
    go_wp2
    go_ret
    exact ⟨rfl,Ho.out,World.grownBy.refl _ _⟩
  · have Ho:=hide ho
    have HML:=hide hML
    have HMA:=hide hMA
    have hMl:l.length<=M.length:=by omega
    have hMg:M.length<=l.length:=by omega
    clear ho hML hMA
    go_enter Tryz.func132,Tryz.ntmps132
    go_wp2
    go_loopw [1,5] (fun kv iv wr=>∃ j:Nat,j<=l.length/\iv=.int .i64 (j:Int)/\kv=.int .i64 ((k+2 * j:Nat):Int)/\wr.ownsRow base 206 2 (.slice (some ⟨g,0,none⟩) l.length cap) l.length ((M.take j ++ l.drop j).map lvC).flatten/\w.grownBy wr (some g))
      (fun _ iv _=>l.length - (intOf iv).toNat)
    case atStart=>exact ⟨0,Nat.zero_le _,rfl,rfl,by simpa [OwnL] using Ho.out,World.grownBy.refl _ _⟩
    case round =>
      obtain ⟨j,hj,rfl,rfl,hown,hgr⟩:=hrel
      by_cases hlt:j < l.length
      · have hjM:j < M.length:=by omega
        obtain ⟨K,hK⟩:∃ K:Nat,k+2 * j=K:=⟨_,rfl⟩
        have hK2:K<=200000000:=by omega
        have eM:lvC M[j]=[.int .i64 ((K:Nat):Int),.int .i64 ((K+1:Nat):Int)]:=by rw [HMA.out j hjM,hK];rfl
        have hsz:=lvM_sz (M.take j ++ l.drop j)
        have hlen:((M.take j ++ l.drop j).map lvC).length=l.length:=by simp;omega
        obtain ⟨u0,hu0⟩:∃ u,((M.take j ++ l.drop j).map lvC).flatten[j * 2]?=some u:=⟨_,List.getElem?_eq_getElem (by rw [flat_len 2 _ hsz];omega)⟩
        obtain ⟨u1,hu1⟩:∃ u,((M.take j ++ l.drop j).map lvC).flatten[j * 2+1]?=some u:=⟨_,List.getElem?_eq_getElem (by rw [flat_len 2 _ hsz];omega)⟩
        have d0:=hown.cellAt (j * 2) (by omega)
        have d1:=hown.cellAt (j * 2+1) (by omega)
        have f0:=hown.frozenAt (j * 2)
        have f1:=hown.frozenAt (j * 2+1)
        rw [hu0] at d0
        rw [hu1] at d1
        have hst:=hown.stored (j * 2) (.int .i64 ((K:Nat):Int))
        have hst2:=hst.1.stored (j * 2+1) (.int .i64 ((K+1:Nat):Int))
        rw [flat_put2 _ j _ _ (by rw [hlen];exact hlt) hsz,<- eM,gen_setL M l lvC j HML.out hjM] at hst2
        have Hst:=hide hst2.1
        have Hgr2:=hide (grownS_trans (grownS_trans hgr hst.2) hst2.2)
        have hli:(j:Int) < (l.length:Int):=by omega
        rw [hK]
        have HK:=hide hK
        clear hK hst hst2 hown hgr eM hu0 hu1
        go_wp2
        go_roundw
        case rel=>exact ⟨j+1,by omega,by go_num,by rw [show k+2 * (j+1)=K+2 from by have:=HK.out;omega];go_num,Hst.out,Hgr2.out⟩
        case measure=>simp [intOf];omega
      · have e:M.take j ++ l.drop j=M:=by rw [List.take_of_length_le (by omega),List.drop_of_length_le (by omega),List.append_nil]
        rw [e] at hown
        have ho':OwnL base wr (.slice (some ⟨g,0,none⟩) l.length cap) M:=by
          unfold OwnL
          rw [HML.out]
          exact hown
        have e2:j=l.length:=by omega
        have Ho':=hide ho'
        have Hgr:=hide hgr
        clear ho' hgr hown e
        subst e2
        go_wp2
        go_ret
        exact ⟨rfl,Ho'.out,Hgr.out⟩
end Go.Proofs.YtaidhenkijjcfaaGreat
