/- Rows of structs, half way through a change. -/
import Derived.Test.YtaidhenkijjcfaaGreatZoVtMark
import Derived.Test.YtaidhenkijjcfaaGreatZoNdTo
namespace Go.Proofs.YtaidhenkijjcfaaGreat
open Go.RowKit Go.Sort
set_option linter.unusedVariables false
def Mkd (k lo hi:Nat) (P:World->Prop) (w:World) (e:Ending) (w':World):Prop:=e=.returned (.int .i64 (k:Int))/\P w'/\Oth (fun x=>lo<=x/\x < hi) w w'
theorem oth_row {base hi sz n:Nat} {T:TypeId} {v:Value} {xs:List Value} {w w':World} (ho:w.ownsRow base T sz v n xs) (ht:Top hi v) (hg:w.grownBy w' v.ownBlock):Oth (fun x=>base<=x/\x < hi) w w' :=
  Oth.of_grown hg (fun k e=>⟨(World.ownsRow.lt ho k e).1,ht k e⟩)
theorem oth_row2 {base hi sz n:Nat} {T:TypeId} {v:Value} {xs:List Value} {w w':World} (ho:w.ownsRow base T sz v n xs) (ht:Top hi v) (hg:Oth (fun g=>v.ownBlock=some g) w w'):Oth (fun x=>base<=x/\x < hi) w w' :=
  hg.mono (fun k e=>⟨(World.ownsRow.lt ho k e).1,ht k e⟩)
theorem oth_btw {lo hi:Nat} {w w':World} (h:Btw lo hi w w'):Oth (fun x=>lo<=x/\x < hi) w w':=⟨h.os,h.tape,h.output,h.size,fun k hk hn=>h.block k hk (by omega)⟩
theorem mkuStr (v:Value) (l:List ByteArray) (k lo hi:Nat) (w:World) (ho:InS lo hi w v l) (hl:l.length<=4000000) (hk:k+l.length<=40000000) (hk0:0 < k) :
    Calls Tryz.prog 108 #[v,.int .i64 (k:Int)] w (Mkd (k+l.length) lo hi (fun w'=>InS lo hi w' v (mkS k l.length)) w):=by
  refine (markStringS_any v l k lo w ho.1 (by omega) (by omega) hk0).mono ?_
  rintro e w' ⟨h1,h2,h3⟩
  exact ⟨h1,⟨h2,ho.2⟩,oth_row ho.1 ho.2 h3⟩
theorem mkuInt (v:Value) (l:List Int) (k lo hi:Nat) (w:World) (ho:InI lo hi w v l) (hl:l.length<=4000000) (hk:k+l.length<=40000000) (hk0:0 < k) :
    Calls Tryz.prog 75 #[v,.int .i64 (k:Int)] w (Mkd (k+l.length) lo hi (fun w'=>InI lo hi w' v (mkI k l.length)) w):=by
  refine (markIntS_any v l k lo w ho.1 (by omega) (by omega) hk0).mono ?_
  rintro e w' ⟨h1,h2,h3⟩
  exact ⟨h1,⟨h2,ho.2⟩,oth_row ho.1 ho.2 h3⟩
theorem mkuVal (v:Value) (l:List Vl) (k lo hi:Nat) (w:World) (ho:InV lo hi w v l) (hl:l.length<=4000000) (hk:k+2 * l.length<=40000000) (hk0:0 < k) :
    Calls Tryz.prog 47 #[v,.int .i64 (k:Int)] w (Mkd (k+2 * l.length) lo hi (fun w'=>InV lo hi w' v (mkV k l.length)) w):=by
  refine (markValS_any v l k lo w ho.1 (by omega) (by omega) hk0).mono ?_
  rintro e w' ⟨h1,h2,h3⟩
  exact ⟨h1,⟨h2,ho.2⟩,oth_row ho.1 ho.2 h3⟩
theorem mkuTx (v:Value) (l:List Tx5) (k lo hi:Nat) (w:World) (ho:InT lo hi w v l) (hl:l.length<=4000000) (hk:k+5 * l.length<=40000000) (hk0:0 < k) :
    Calls Tryz.prog 76 #[v,.int .i64 (k:Int)] w (Mkd (k+5 * l.length) lo hi (fun w'=>InT lo hi w' v (mkT k l.length)) w):=by
  refine (markTxC_any v l k lo w ho.1 (by omega) (by omega) hk0).mono ?_
  rintro e w' ⟨h1,h2,h3⟩
  exact ⟨h1,⟨h2,ho.2⟩,oth_row2 ho.1 ho.2 h3⟩
theorem mkuVote (v:Value) (l:List Tr) (k lo hi:Nat) (w:World) (ho:InR 173 lo hi w v l) (hl:l.length<=4000000) (hk:k+3 * l.length<=40000000) (hk0:0 < k) :
    Calls Tryz.prog 73 #[v,.int .i64 (k:Int)] w (Mkd (k+3 * l.length) lo hi (fun w'=>InR 173 lo hi w' v (mkR k l.length)) w):=by
  refine (markVoteS_any v l k lo w ho.1 (by omega) (by omega) hk0).mono ?_
  rintro e w' ⟨h1,h2,h3⟩
  exact ⟨h1,⟨h2,ho.2⟩,oth_row2 ho.1 ho.2 h3⟩
theorem mkuGone (v:Value) (l:List Tr) (k lo hi:Nat) (w:World) (ho:InR 175 lo hi w v l) (hl:l.length<=4000000) (hk:k+3 * l.length<=40000000) (hk0:0 < k) :
    Calls Tryz.prog 74 #[v,.int .i64 (k:Int)] w (Mkd (k+3 * l.length) lo hi (fun w'=>InR 175 lo hi w' v (mkR k l.length)) w):=by
  refine (markGoneS_any v l k lo w ho.1 (by omega) (by omega) hk0).mono ?_
  rintro e w' ⟨h1,h2,h3⟩
  exact ⟨h1,⟨h2,ho.2⟩,oth_row2 ho.1 ho.2 h3⟩
theorem mkuLedger (x:Int) (v:Value) (l:List Ac) (k lo hi:Nat) (w:World) (ho:OwnX lo hi w v l) (hl:l.length<=4000000) (hlv:∀ a ∈ l,a.2.2.2.2.length<=4000000) (hk:nxs k l<=40000000) (hk0:0 < k) :
    Calls Tryz.prog 29 #[lgV x v,.int .i64 (k:Int)] w (Mkd (nxs k l) lo hi (fun w'=>OwnX lo hi w' v (mkAs k l)) w):=by
  refine (markLedger_any x v l k lo hi w ho (by omega) (fun a ha=>by have:=hlv a ha;omega) (by omega) hk0).mono ?_
  rintro e w' ⟨h1,h2,h3⟩
  exact ⟨h1,h2,oth_btw h3⟩
theorem mkuBlock (v:Value) (l:List Bk) (k lo hi:Nat) (w:World) (ho:OwnKx lo hi w v l) (hl:l.length<=4000000) (hf:∀ b ∈ l,FewK b) (hk:k+totM l<=40000000) (hk0:0 < k) :
    Calls Tryz.prog 48 #[v,.int .i64 (k:Int)] w (Mkd (k+totM l) lo hi (fun w'=>OwnKx lo hi w' v (mkLk k l)) w) :=
  markKx_any v l k lo hi w ho (by omega) (fun b hb=>by have f:=hf b hb;exact ⟨f.q,f.w,f.h,f.t,f.n⟩) (by omega) hk0
theorem mkuQc (r b:Int) (v:Value) (l:List ByteArray) (k lo hi:Nat) (w:World) (ho:InS lo hi w v l) (hl:l.length<=4000000) (hk:k+l.length<=40000000) (hk0:0 < k) :
    Calls Tryz.prog 49 #[qcV r b v,.int .i64 (k:Int)] w (Mkd (k+l.length) lo hi (fun w'=>InS lo hi w' v (mkS k l.length)) w):=by
  refine (markQc_any r b v l k lo w ho.1 (by omega) (by omega) hk0).mono ?_
  rintro e w' ⟨h1,h2,h3⟩
  exact ⟨h1,⟨h2,ho.2⟩,oth_row2 ho.1 ho.2 h3⟩
theorem mkuTc (r:Int) (v u:Value) (l:List ByteArray) (n:List Int) (k lo hi:Nat) (w:World) (ho:InS lo hi w v l) (hi':InI lo hi w u n) (hl:l.length<=4000000) (hn:n.length<=4000000) (hk:k+l.length+n.length<=40000000) (hk0:0 < k) :
    Calls Tryz.prog 72 #[tcV r v u,.int .i64 (k:Int)] w (Mkd (k+l.length+n.length) lo hi (fun w'=>InS lo hi w' v (mkS k l.length)/\InI lo hi w' u (mkI (k+l.length) n.length)) w):=by
  refine (markTc_any r v u l n k lo lo w ho.1 hi'.1 (by omega) (by omega) (by omega) hk0).mono ?_
  rintro e w' ⟨h1,h2,h3,h4⟩
  exact ⟨h1,⟨⟨h2,ho.2⟩,⟨h3,hi'.2⟩⟩,h4.mono (fun k e=>by
    rcases e with e | e
    · exact ⟨(World.ownsRow.lt ho.1 k e).1,ho.2 k e⟩
    · exact ⟨(World.ownsRow.lt hi'.1 k e).1,hi'.2 k e⟩)⟩
end Go.Proofs.YtaidhenkijjcfaaGreat
namespace Go.Proofs.YtaidhenkijjcfaaGreat
open Go.RowKit
set_option linter.unusedVariables false
section
variable {α:Type}
structure MidR (T:TypeId) (sz:Nat) (O:Nat->Nat->World->α->Prop) (lo hi:Nat) (w:World) (g n cap:Nat) (Y:List Value) (Z:List α):Prop where
  row:w.ownsRow lo T sz (.slice (some ⟨g,0,none⟩) n cap) n Y
  top:g < hi
  parts:Parts O lo hi (some g) w Z
theorem MidR.at {T:TypeId} {sz lo hi:Nat} {O:Nat->Nat->World->α->Prop} {w:World} {g n cap:Nat} {Y:List Value} {Z:List α} (h:MidR T sz O lo hi w g n cap Y Z) (hO:∀ a b q (w w':World),Kept a b w w'->O a b w q->O a b w' q) {j:Nat} (hj:j < Z.length) :
    ∃ a b,lo<=a/\a<=b/\b<=hi/\¬ (a<=g/\g < b)/\O a b w Z[j]/\∀ (w':World) (Y':List Value) (q:α),w'.ownsRow lo T sz (.slice (some ⟨g,0,none⟩) n cap) n Y'->Oth (fun x=>x=g\/a<=x/\x < b) w w'->O a b w' q->MidR T sz O lo hi w' g n cap Y' (Z.set j q):=by
  obtain ⟨c,d,h1,h2⟩:=h.parts
  obtain ⟨a1,a2,a3,a4,a5⟩:=h1 j hj
  refine ⟨c j,d j,a1,a2,a3,a4 g rfl,a5,fun w' Y' q hr ho hq=>⟨hr,h.top,c,d,fun i hi=>?_,fun i k hik hk=>h2 i k hik (by simpa using hk)⟩⟩
  have hi':i < Z.length:=by simpa using hi
  obtain ⟨e1,e2,e3,e4,e5⟩:=h1 i hi'
  refine ⟨e1,e2,e3,e4,?_⟩
  by_cases e:i=j
  · subst e
    rw [List.getElem_set_self]
    exact hq
  · rw [List.getElem_set_ne (fun x=>e x.symm)]
    refine hO _ _ _ _ _ (Kept.of_oth ho (fun k k1 k2 k3=>?_)) e5
    rcases k3 with rfl | ⟨k3,k4⟩
    · exact e4 k rfl ⟨k1,k2⟩
    · rcases Nat.lt_or_gt_of_ne e with l | l
      · have:=h2 i j l hj;omega
      · have:=h2 j i l hi';omega
theorem MidR.of {T:TypeId} {sz lo hi:Nat} {C:α->List Value} {O:Nat->Nat->World->α->Prop} {w:World} {g cap:Nat} {Z:List α} (h:OwnRow T sz C O lo hi w (.slice (some ⟨g,0,none⟩) Z.length cap) Z):MidR T sz O lo hi w g Z.length cap (Z.map C).flatten Z:=⟨h.1,h.2.1 g rfl,h.2.2⟩
theorem MidR.to {T:TypeId} {sz lo hi:Nat} {C:α->List Value} {O:Nat->Nat->World->α->Prop} {w:World} {g n cap:Nat} {Z:List α} (h:MidR T sz O lo hi w g n cap (Z.map C).flatten Z) (hn:n=Z.length):OwnRow T sz C O lo hi w (.slice (some ⟨g,0,none⟩) Z.length cap) Z:=by
  subst hn
  exact ⟨h.row,fun k e=>by cases e;exact h.top,h.parts⟩
theorem MidR.oth {T:TypeId} {sz lo hi:Nat} {O:Nat->Nat->World->α->Prop} {w:World} {g n cap:Nat} {Y:List Value} {Z:List α} (h:MidR T sz O lo hi w g n cap Y Z):lo<=g/\g < hi:=⟨(World.ownsRow.lt h.row g rfl).1,h.top⟩
theorem row_stepN {base g n cap sz:Nat} {w:World} {T:TypeId} {Y:List Value} (h:w.ownsRow base T sz (.slice (some ⟨g,0,none⟩) n cap) n Y) (i:Nat) (hi:i < Y.length) :
    w.cell? ⟨g,i,none⟩=some Y[i]/\w.frozen? ⟨g,i,none⟩=false/\∀ u,(w.setCell ⟨g,i,none⟩ u).ownsRow base T sz (.slice (some ⟨g,0,none⟩) n cap) n (Y.set i u) :=
  ⟨by rw [h.cellAt i (by have:=h.1;omega)];exact List.getElem?_eq_getElem hi,h.frozenAt i,fun u=>(h.stored i u).1⟩
end
structure RowSt (lo:Nat) (T:TypeId) (sz:Nat) (S:Nat->Prop) (w W:World) (g n cap:Nat) (Y:List Value):Prop where
  row:W.ownsRow lo T sz (.slice (some ⟨g,0,none⟩) n cap) n Y
  oth:Oth S w W
theorem RowSt.set {lo sz g n cap:Nat} {T:TypeId} {S:Nat->Prop} {w W:World} {Y:List Value} (h:RowSt lo T sz S w W g n cap Y) (hS:S g) (p:Nat) (u:Value):RowSt lo T sz S w (W.setCell ⟨g,p,none⟩ u) g n cap (Y.set p u):=⟨(h.row.stored p u).1,h.oth.set hS p u⟩
theorem RowSt.by_ {lo sz g n cap:Nat} {T:TypeId} {S Q:Nat->Prop} {w W W':World} {Y:List Value} (h:RowSt lo T sz S w W g n cap Y) (hb:Oth Q W W') (hg:¬ Q g) (hQ:∀ x,Q x->S x):RowSt lo T sz S w W' g n cap Y:=⟨row_oth h.row hb (fun k e=>by cases e;exact hg),h.oth.trans (hb.mono hQ)⟩
theorem RowSt.at {lo sz g n cap:Nat} {T:TypeId} {S:Nat->Prop} {w W:World} {Y:List Value} (h:RowSt lo T sz S w W g n cap Y) (i:Nat) (hi:i < Y.length):(∃ y,W.cell? ⟨g,i,none⟩=some y)/\W.frozen? ⟨g,i,none⟩=false/\W.cell? ⟨g,i,none⟩=Y[i]?:=by
  have a:=row_stepN h.row i hi
  exact ⟨⟨_,a.1⟩,a.2.1,by rw [a.1];exact (List.getElem?_eq_getElem hi).symm⟩
section
variable {α:Type}
def nxG (nx:Nat->α->Nat):Nat->List α->Nat
  | k,[]=>k
  | k,a :: t=>nxG nx (nx k a) t
def mkG (mk:Nat->α->α) (nx:Nat->α->Nat):Nat->List α->List α
  | _,[]=>[]
  | k,a :: t=>mk k a :: mkG mk nx (nx k a) t
theorem mkG_len (mk:Nat->α->α) (nx:Nat->α->Nat):∀ (k:Nat) (l:List α),(mkG mk nx k l).length=l.length
  | _,[]=>rfl
  | k,a :: t=>by simp [mkG,mkG_len mk nx _ t]
theorem nxG_snoc (nx:Nat->α->Nat):∀ (k:Nat) (l:List α) (a:α),nxG nx k (l ++ [a])=nx (nxG nx k l) a
  | _,[],_=>rfl
  | k,x :: l,a=>by simp [nxG,nxG_snoc nx (nx k x) l a]
theorem mkG_snoc (mk:Nat->α->α) (nx:Nat->α->Nat):∀ (k:Nat) (l:List α) (a:α),mkG mk nx k (l ++ [a])=mkG mk nx k l ++ [mk (nxG nx k l) a]
  | _,[],_=>rfl
  | k,x :: l,a=>by simp [mkG,nxG,mkG_snoc mk nx (nx k x) l a]
theorem nxG_take {nx:Nat->α->Nat} {l:List α} {j:Nat} (hj:j < l.length) (k:Nat):nxG nx k (l.take (j+1))=nx (nxG nx k (l.take j)) l[j]:=by
  rw [List.take_succ_eq_append_getElem hj,nxG_snoc]
theorem nxG_ge {nx:Nat->α->Nat} (h:∀ k a,k<=nx k a):∀ (k:Nat) (l:List α),k<=nxG nx k l
  | _,[]=>Nat.le_refl _
  | k,a :: t=>Nat.le_trans (h k a) (nxG_ge h (nx k a) t)
theorem nxG_app (nx:Nat->α->Nat):∀ (k:Nat) (l m:List α),nxG nx k (l ++ m)=nxG nx (nxG nx k l) m
  | _,[],_=>rfl
  | k,x :: l,m=>by simp [nxG,nxG_app nx (nx k x) l m]
theorem nxG_le {nx:Nat->α->Nat} (h:∀ k a,k<=nx k a) (k:Nat) (l:List α) (j:Nat):nxG nx k (l.take j)<=nxG nx k l:=by
  have e:=nxG_app nx k (l.take j) (l.drop j)
  rw [List.take_append_drop] at e
  rw [e]
  exact nxG_ge h _ _
def mixG (mk:Nat->α->α) (nx:Nat->α->Nat) (k:Nat) (Z:List α) (j:Nat):List α:=mkG mk nx k (Z.take j) ++ Z.drop j
theorem mixG_len (mk:Nat->α->α) (nx:Nat->α->Nat) (k:Nat) (Z:List α) (j:Nat) (hj:j<=Z.length):(mixG mk nx k Z j).length=Z.length:=by
  unfold mixG
  rw [List.length_append,mkG_len,List.length_take,List.length_drop]
  omega
theorem mixG_now (mk:Nat->α->α) (nx:Nat->α->Nat) (k:Nat) (Z:List α) (j:Nat) (hj:j < Z.length) (h2:j < (mixG mk nx k Z j).length):(mixG mk nx k Z j)[j]=Z[j]:=by
  rw [<- Option.some_inj,<- List.getElem?_eq_getElem h2]
  unfold mixG
  rw [List.getElem?_append_right (by rw [mkG_len,List.length_take];omega),mkG_len,List.length_take,Nat.min_eq_left (Nat.le_of_lt hj),Nat.sub_self,List.getElem?_drop,Nat.add_zero,List.getElem?_eq_getElem hj]
theorem mixG_next (mk:Nat->α->α) (nx:Nat->α->Nat) (k:Nat) (Z:List α) (j:Nat) (hj:j < Z.length):(mixG mk nx k Z j).set j (mk (nxG nx k (Z.take j)) Z[j])=mixG mk nx k Z (j+1):=by
  unfold mixG
  rw [List.set_append_right _ _ (by rw [mkG_len,List.length_take];omega),mkG_len,List.length_take,Nat.min_eq_left (Nat.le_of_lt hj),Nat.sub_self,List.drop_eq_getElem_cons hj,List.set_cons_zero,List.take_succ_eq_append_getElem hj,mkG_snoc,List.append_assoc]
  rfl
theorem mixG_zero (mk:Nat->α->α) (nx:Nat->α->Nat) (k:Nat) (Z:List α):mixG mk nx k Z 0=Z:=by simp [mixG,mkG]
theorem mixG_all (mk:Nat->α->α) (nx:Nat->α->Nat) (k:Nat) (Z:List α):mixG mk nx k Z Z.length=mkG mk nx k Z:=by simp [mixG]
end
section
variable {α β:Type}
theorem nxG_map (f:α->β) (nx:Nat->β->Nat):∀ (k:Nat) (l:List α),nxG nx k (l.map f)=nxG (fun k a=>nx k (f a)) k l
  | _,[]=>rfl
  | k,a :: t=>by simp [nxG,nxG_map f nx _ t]
theorem mkG_map (f:α->β) (mk:Nat->α->α) (mk':Nat->β->β) (nx:Nat->β->Nat) (h:∀ k a,f (mk k a)=mk' k (f a)):∀ (k:Nat) (l:List α),(mkG mk (fun k a=>nx k (f a)) k l).map f=mkG mk' nx k (l.map f)
  | _,[]=>rfl
  | k,a :: t=>by simp [mkG,h,mkG_map f mk mk' nx h _ t]
end
end Go.Proofs.YtaidhenkijjcfaaGreat
