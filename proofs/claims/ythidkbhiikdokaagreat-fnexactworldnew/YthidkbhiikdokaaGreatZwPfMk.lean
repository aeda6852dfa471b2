/- Proofs marked in place. -/
import Derived.Test.YthidkbhiikdokaaGreatZwMkTwo
import Derived.Test.YthidkbhiikdokaaGreatZwPfTo
set_option maxRecDepth 20000
set_option maxHeartbeats 8000000
namespace Go.Proofs.YthidkbhiikdokaaGreat
open Go.RowKit
set_option linter.unusedVariables false
section
variable {α:Type}
structure MidR (T:TypeId) (sz:Nat) (O:Nat->Nat->World->α->Prop) (lo hi:Nat) (w:World) (g n cap:Nat) (Y:List Value) (Z:List α):Prop where
  row:w.ownsRow lo T sz (.slice (some ⟨g,0,none⟩) n cap) n Y
  top:g < hi
  parts:Parts O lo hi (some g) w Z
theorem MidR.at {T:TypeId} {sz lo hi:Nat} {O:Nat->Nat->World->α->Prop} {w:World} {g n cap:Nat} {Y:List Value} {Z:List α} (h:MidR T sz O lo hi w g n cap Y Z) (hO:∀ a b q (w w':World),Kept a b w w'->O a b w q->O a b w' q) {j:Nat} (hj:j < Z.length) :
    ∃ a b,lo<=a/\a<=b/\b<=hi/\¬ (a<=g/\g < b)/\O a b w Z[j]/\∀ (w':World) (Y':List Value) (q:α),w'.ownsRow lo T sz (.slice (some ⟨g,0,none⟩) n cap) n Y'->Oth (fun x=>x=g\/a<=x/\x < b) w w'->O a b w' q->MidR T sz O lo hi w' g n cap Y' (Z.set j q):=by
  obtain ⟨c,d,h1,h2⟩:=h.parts
  obtain ⟨a1,a2,a3,a4,a5⟩:=h1 j hj
  refine ⟨c j,d j,a1,a2,a3,a4 g rfl,a5,fun w' Y' q hr ho hq=>⟨hr,h.top,c,d,fun i hi=>?_,fun i k hik hk=>h2 i k hik (by simpa using hk)⟩⟩
  have hi':i < Z.length:=by simpa using hi
  obtain ⟨e1,e2,e3,e4,e5⟩:=h1 i hi'
  refine ⟨e1,e2,e3,e4,?_⟩
  by_cases e:i=j
  · subst e
    rw [List.getElem_set_self]
    exact hq
  · rw [List.getElem_set_ne (fun x=>e x.symm)]
    refine hO _ _ _ _ _ (Kept.of_oth ho (fun k k1 k2 k3=>?_)) e5
    rcases k3 with rfl | ⟨k3,k4⟩
    · exact e4 k rfl ⟨k1,k2⟩
    · rcases Nat.lt_or_gt_of_ne e with l | l
      · have:=h2 i j l hj;omega
      · have:=h2 j i l hi';omega
theorem MidR.of {T:TypeId} {sz lo hi:Nat} {C:α->List Value} {O:Nat->Nat->World->α->Prop} {w:World} {g cap:Nat} {Z:List α} (h:OwnRow T sz C O lo hi w (.slice (some ⟨g,0,none⟩) Z.length cap) Z):MidR T sz O lo hi w g Z.length cap (Z.map C).flatten Z:=⟨h.1,h.2.1 g rfl,h.2.2⟩
theorem MidR.to {T:TypeId} {sz lo hi:Nat} {C:α->List Value} {O:Nat->Nat->World->α->Prop} {w:World} {g n cap:Nat} {Z:List α} (h:MidR T sz O lo hi w g n cap (Z.map C).flatten Z) (hn:n=Z.length):OwnRow T sz C O lo hi w (.slice (some ⟨g,0,none⟩) Z.length cap) Z:=by
  subst hn
  exact ⟨h.row,fun k e=>by cases e;exact h.top,h.parts⟩
theorem MidR.oth {T:TypeId} {sz lo hi:Nat} {O:Nat->Nat->World->α->Prop} {w:World} {g n cap:Nat} {Y:List Value} {Z:List α} (h:MidR T sz O lo hi w g n cap Y Z):lo<=g/\g < hi:=⟨(World.ownsRow.lt h.row g rfl).1,h.top⟩
theorem row_stepN {base g n cap sz:Nat} {w:World} {T:TypeId} {Y:List Value} (h:w.ownsRow base T sz (.slice (some ⟨g,0,none⟩) n cap) n Y) (i:Nat) (hi:i < Y.length) :
    w.cell? ⟨g,i,none⟩=some Y[i]/\w.frozen? ⟨g,i,none⟩=false/\∀ u,(w.setCell ⟨g,i,none⟩ u).ownsRow base T sz (.slice (some ⟨g,0,none⟩) n cap) n (Y.set i u) :=
  ⟨by rw [h.cellAt i (by have:=h.1;omega)];exact List.getElem?_eq_getElem hi,h.frozenAt i,fun u=>(h.stored i u).1⟩
end
structure RowSt (lo:Nat) (T:TypeId) (sz:Nat) (S:Nat->Prop) (w W:World) (g n cap:Nat) (Y:List Value):Prop where
  row:W.ownsRow lo T sz (.slice (some ⟨g,0,none⟩) n cap) n Y
  oth:Oth S w W
theorem RowSt.set {lo sz g n cap:Nat} {T:TypeId} {S:Nat->Prop} {w W:World} {Y:List Value} (h:RowSt lo T sz S w W g n cap Y) (hS:S g) (p:Nat) (u:Value):RowSt lo T sz S w (W.setCell ⟨g,p,none⟩ u) g n cap (Y.set p u):=⟨(h.row.stored p u).1,h.oth.set hS p u⟩
theorem RowSt.below {lo sz g n cap:Nat} {T:TypeId} {S:Nat->Prop} {w W W':World} {Y:List Value} (h:RowSt lo T sz S w W g n cap Y) (hb:Below W.heap.size W W'):RowSt lo T sz S w W' g n cap Y:=⟨row_below h.row hb (Nat.le_refl _),h.oth.trans (Oth.of_below hb)⟩
theorem RowSt.by_ {lo sz g n cap:Nat} {T:TypeId} {S Q:Nat->Prop} {w W W':World} {Y:List Value} (h:RowSt lo T sz S w W g n cap Y) (hb:Oth Q W W') (hg:¬ Q g) (hQ:∀ x,Q x->S x):RowSt lo T sz S w W' g n cap Y:=⟨row_oth h.row hb (fun k e=>by cases e;exact hg),h.oth.trans (hb.mono hQ)⟩
theorem RowSt.at {lo sz g n cap:Nat} {T:TypeId} {S:Nat->Prop} {w W:World} {Y:List Value} (h:RowSt lo T sz S w W g n cap Y) (i:Nat) (hi:i < Y.length):(∃ y,W.cell? ⟨g,i,none⟩=some y)/\W.frozen? ⟨g,i,none⟩=false/\W.cell? ⟨g,i,none⟩=Y[i]?:=by
  have a:=row_stepN h.row i hi
  exact ⟨⟨_,a.1⟩,a.2.1,by rw [a.1];exact (List.getElem?_eq_getElem hi).symm⟩
section
variable {α:Type}
def nxG (nx:Nat->α->Nat):Nat->List α->Nat
  | k,[]=>k
  | k,a :: t=>nxG nx (nx k a) t
def mkG (mk:Nat->α->α) (nx:Nat->α->Nat):Nat->List α->List α
  | _,[]=>[]
  | k,a :: t=>mk k a :: mkG mk nx (nx k a) t
theorem mkG_len (mk:Nat->α->α) (nx:Nat->α->Nat):∀ (k:Nat) (l:List α),(mkG mk nx k l).length=l.length
  | _,[]=>rfl
  | k,a :: t=>by simp [mkG,mkG_len mk nx _ t]
theorem nxG_snoc (nx:Nat->α->Nat):∀ (k:Nat) (l:List α) (a:α),nxG nx k (l ++ [a])=nx (nxG nx k l) a
  | _,[],_=>rfl
  | k,x :: l,a=>by simp [nxG,nxG_snoc nx (nx k x) l a]
theorem mkG_snoc (mk:Nat->α->α) (nx:Nat->α->Nat):∀ (k:Nat) (l:List α) (a:α),mkG mk nx k (l ++ [a])=mkG mk nx k l ++ [mk (nxG nx k l) a]
  | _,[],_=>rfl
  | k,x :: l,a=>by simp [mkG,nxG,mkG_snoc mk nx (nx k x) l a]
theorem nxG_take {nx:Nat->α->Nat} {l:List α} {j:Nat} (hj:j < l.length) (k:Nat):nxG nx k (l.take (j+1))=nx (nxG nx k (l.take j)) l[j]:=by
  rw [List.take_succ_eq_append_getElem hj,nxG_snoc]
theorem nxG_ge {nx:Nat->α->Nat} (h:∀ k a,k<=nx k a):∀ (k:Nat) (l:List α),k<=nxG nx k l
  | _,[]=>Nat.le_refl _
  | k,a :: t=>Nat.le_trans (h k a) (nxG_ge h (nx k a) t)
theorem nxG_app (nx:Nat->α->Nat):∀ (k:Nat) (l m:List α),nxG nx k (l ++ m)=nxG nx (nxG nx k l) m
  | _,[],_=>rfl
  | k,x :: l,m=>by simp [nxG,nxG_app nx (nx k x) l m]
theorem nxG_le {nx:Nat->α->Nat} (h:∀ k a,k<=nx k a) (k:Nat) (l:List α) (j:Nat):nxG nx k (l.take j)<=nxG nx k l:=by
  have e:=nxG_app nx k (l.take j) (l.drop j)
  rw [List.take_append_drop] at e
  rw [e]
  exact nxG_ge h _ _
theorem mkG_at (mk:Nat->α->α) (nx:Nat->α->Nat):∀ (k:Nat) (l:List α) (j:Nat) (h:j < (mkG mk nx k l).length) (h2:j < l.length),(mkG mk nx k l)[j]=mk (nxG nx k (l.take j)) l[j]
  | _,[],j,h,h2=>by simp at h2
  | k,a :: t,0,h,h2=>rfl
  | k,a :: t,j+1,h,h2=>by
    have:=mkG_at mk nx (nx k a) t j (by simpa [mkG] using h) (by simpa using h2)
    simpa [mkG,nxG] using this
def mixG (mk:Nat->α->α) (nx:Nat->α->Nat) (k:Nat) (Z:List α) (j:Nat):List α:=mkG mk nx k (Z.take j) ++ Z.drop j
theorem mixG_len (mk:Nat->α->α) (nx:Nat->α->Nat) (k:Nat) (Z:List α) (j:Nat) (hj:j<=Z.length):(mixG mk nx k Z j).length=Z.length:=by
  unfold mixG
  rw [List.length_append,mkG_len,List.length_take,List.length_drop]
  omega
theorem mixG_now (mk:Nat->α->α) (nx:Nat->α->Nat) (k:Nat) (Z:List α) (j:Nat) (hj:j < Z.length) (h2:j < (mixG mk nx k Z j).length):(mixG mk nx k Z j)[j]=Z[j]:=by
  rw [<- Option.some_inj,<- List.getElem?_eq_getElem h2]
  unfold mixG
  rw [List.getElem?_append_right (by rw [mkG_len,List.length_take];omega),mkG_len,List.length_take,Nat.min_eq_left (Nat.le_of_lt hj),Nat.sub_self,List.getElem?_drop,Nat.add_zero,List.getElem?_eq_getElem hj]
theorem mixG_next (mk:Nat->α->α) (nx:Nat->α->Nat) (k:Nat) (Z:List α) (j:Nat) (hj:j < Z.length):(mixG mk nx k Z j).set j (mk (nxG nx k (Z.take j)) Z[j])=mixG mk nx k Z (j+1):=by
  unfold mixG
  rw [List.set_append_right _ _ (by rw [mkG_len,List.length_take];omega),mkG_len,List.length_take,Nat.min_eq_left (Nat.le_of_lt hj),Nat.sub_self,List.drop_eq_getElem_cons hj,List.set_cons_zero,List.take_succ_eq_append_getElem hj,mkG_snoc,List.append_assoc]
  rfl
theorem mixG_zero (mk:Nat->α->α) (nx:Nat->α->Nat) (k:Nat) (Z:List α):mixG mk nx k Z 0=Z:=by simp [mixG,mkG]
theorem mixG_all (mk:Nat->α->α) (nx:Nat->α->Nat) (k:Nat) (Z:List α):mixG mk nx k Z Z.length=mkG mk nx k Z:=by simp [mixG]
end
section
variable {α β:Type}
theorem nxG_map (f:α->β) (nx:Nat->β->Nat):∀ (k:Nat) (l:List α),nxG nx k (l.map f)=nxG (fun k a=>nx k (f a)) k l
  | _,[]=>rfl
  | k,a :: t=>by simp [nxG,nxG_map f nx _ t]
theorem mkG_map (f:α->β) (mk:Nat->α->α) (mk':Nat->β->β) (nx:Nat->β->Nat) (h:∀ k a,f (mk k a)=mk' k (f a)):∀ (k:Nat) (l:List α),(mkG mk (fun k a=>nx k (f a)) k l).map f=mkG mk' nx k (l.map f)
  | _,[]=>rfl
  | k,a :: t=>by simp [mkG,h,mkG_map f mk mk' nx h _ t]
end
end Go.Proofs.YthidkbhiikdokaaGreat
namespace Go.Proofs.YthidkbhiikdokaaGreat
open Go.RowKit Go.Sort
set_option linter.unusedVariables false
def nxPf (K:Nat) (p:Pf):Nat:=K+1+totM p.bs+1+1+p.qw.length
def mkPf (K:Nat) (p:Pf):Pf:=⟨((K:Nat):Int),mkLk (K+1) p.bs,((K+1+totM p.bs:Nat):Int),((K+1+totM p.bs+1:Nat):Int),mkS (K+1+totM p.bs+1+1) p.qw.length⟩
theorem nxPf_ge (K:Nat) (p:Pf):K<=nxPf K p:=by
  unfold nxPf
  omega
def pfQ (K:Nat) (q:Pf × Pv):Pf × Pv:=(mkPf K q.1,q.2)
def pfN (K:Nat) (q:Pf × Pv):Nat:=nxPf K q.1
theorem pfN_ge (K:Nat) (q:Pf × Pv):K<=pfN K q:=nxPf_ge K q.1
theorem pfG_fst (k:Nat) (Z:List (Pf × Pv)):(mkG pfQ pfN k Z).map (·.1)=mkG mkPf nxPf k (Z.map (·.1)):=mkG_map (fun q:Pf × Pv=>q.1) pfQ mkPf nxPf (fun _ _=>rfl) k Z
theorem pfG_nx (k:Nat) (Z:List (Pf × Pv)):nxG pfN k Z=nxG nxPf k (Z.map (·.1)):=(nxG_map (fun q:Pf × Pv=>q.1) nxPf k Z).symm
theorem mapPf_sz (X:List (Pf × Pv)):∀ x ∈ X.map (fun q:Pf × Pv=>pfC q.1 q.2),x.length=5:=mapC_sz pfC_sz X
theorem setPf {α:Type} (X:List α) (o:Nat) (y0 y1 y2 y3 y4:α) (h1:X[o+1]?=some y1) (h4:X[o+4]?=some y4) :
    (((X.set (o) y0).set (o+2) y2).set (o+3) y3)=setAll X o [y0,y1,y2,y3,y4]:=by
  simp only [setAll]
  apply List.ext_getElem?
  intro i
  simp only [List.getElem?_set,Nat.add_assoc,List.length_set]
  by_cases e1:o+1=i
  · subst e1;simp [h1];have:=(List.getElem?_eq_some_iff.1 h1).1;omega
  by_cases e4:o+4=i
  · subst e4;simp [h4];have:=(List.getElem?_eq_some_iff.1 h4).1;omega
  simp [e1,e4]
theorem mkuProof (v:Value) (l:List Pf) (k lo hi:Nat) (w:World) (ho:OwnPx lo hi w v l) (hl:l.length<=4000000) (hf:∀ q ∈ l,FewPf q) (hk:nxG nxPf k l<=40000000) (hk0:0 < k) :
    Calls Tryz.prog 71 #[v,.int .i64 (k:Int)] w (Mkd (nxG nxPf k l) lo hi (fun w'=>OwnPx lo hi w' v (mkG mkPf nxPf k l)) w):=by
  obtain ⟨Z,rfl,ho⟩:=ho
  by_cases hne:Z=[]
  · subst hne
    obtain ⟨a,c,rfl⟩:∃ a c,v=.slice a 0 c:=by
      rcases ho.1.2 with ⟨rfl,hn⟩ | ⟨g,cap,cur,rfl,-⟩
      · exact ⟨_,_,rfl⟩
      · exact ⟨_,_,rfl⟩
    have Ho:=hide ho
    clear ho
    go_enter Tryz.func71,Tryz.ntmps71
    go_wp2
    refine wp_loop_rounds 1 ?_
    rw [rounds_succ]
    go_wp2
    go_ret
    exact ⟨rfl,⟨[],rfl,Ho.out⟩,Oth.refl _ _⟩
  · obtain ⟨g,cap,rfl⟩:∃ g cap,v=.slice (some ⟨g,0,none⟩) Z.length cap:=by
      rcases ho.1.2 with ⟨rfl,hn⟩ | ⟨g,cap,cur,rfl,-⟩
      · exact absurd (List.length_eq_zero_iff.1 hn) hne
      · exact ⟨g,cap,rfl⟩
    rw [List.length_map] at hl
    rw [<- pfG_nx] at hk ⊢
    have HEq:=hide (pfG_fst k Z)
    have HF:=hide (show ∀ j (h:j < Z.length),FewPf Z[j].1 from fun j h=>hf _ (List.mem_map.2 ⟨_,List.getElem_mem h,rfl⟩))
    have HM0:=hide (MidR.of ho)
    obtain ⟨n,hn⟩:∃ n,Z.length=n:=⟨_,rfl⟩
    rw [hn] at HM0 hl ⊢
    have Hn:=hide hn
    have Hk:=hide hk
    clear ho hf hn hk hne
    go_enter Tryz.func71,Tryz.ntmps71
    go_wp2
    go_loopw [1,5] (fun kv iv wr=>∃ j:Nat,j<=n/\iv=.int .i64 (j:Int)/\kv=.int .i64 ((nxG pfN k (Z.take j):Nat):Int)/\MidR 139 5 (fun a b w (q:Pf × Pv)=>OwnPf a b w q.1 q.2) lo hi wr g n cap ((mixG pfQ pfN k Z j).map (fun q:Pf × Pv=>pfC q.1 q.2)).flatten (mixG pfQ pfN k Z j)/\Oth (fun x=>lo<=x/\x < hi) w wr)
      (fun _ iv _=>n - (intOf iv).toNat)
    case atStart=>exact ⟨0,Nat.zero_le _,rfl,by simp [nxG],by rw [mixG_zero];exact HM0.out,Oth.refl _ _⟩
    case round =>
      obtain ⟨j,hj,rfl,rfl,hm,hot⟩:=hrel
      clear HM0
      by_cases hlt:j < n
      · have hjZ:j < Z.length:=by have:=Hn.out;omega
        have hmx:=mixG_len pfQ pfN k Z j (by omega)
        have hjm:j < (mixG pfQ pfN k Z j).length:=by omega
        have hnow:=mixG_now pfQ pfN k Z j hjZ hjm
        have hYl:((mixG pfQ pfN k Z j).map (fun q:Pf × Pv=>pfC q.1 q.2)).flatten.length=5 * n:=by rw [flat_len 5 _ (mapPf_sz _),List.length_map,hmx,Hn.out];omega
        have Hat:Hid (∀ t,t < 5->((mixG pfQ pfN k Z j).map (fun q:Pf × Pv=>pfC q.1 q.2)).flatten[j * 5+t]?=(pfC Z[j].1 Z[j].2)[t]?):=hide (fun t ht=>by
          rw [flat_get 5 _ j t (by simpa using hjm) (mapPf_sz _) ht]
          simp [hnow])
        have hfew:=HF.out j hjZ
        have hnx:nxG pfN k (Z.take (j+1))=nxPf (nxG pfN k (Z.take j)) Z[j].1:=nxG_take hjZ k
        have hle:nxG pfN k (Z.take (j+1))<=40000000:=Nat.le_trans (nxG_le pfN_ge k Z (j+1)) Hk.out
        have hK0:0 < nxG pfN k (Z.take j):=Nat.lt_of_lt_of_le hk0 (nxG_ge pfN_ge k _)
        rw [hnx] at hle
        have Hnx:=hide hnx
        have HEnd:Hid (∀ Y,Y=setAll ((mixG pfQ pfN k Z j).map (fun q:Pf × Pv=>pfC q.1 q.2)).flatten (j * 5) (pfC (mkPf (nxG pfN k (Z.take j)) Z[j].1) Z[j].2)->Y=((mixG pfQ pfN k Z (j+1)).map (fun q:Pf × Pv=>pfC q.1 q.2)).flatten):=hide (fun Y hY=>by
          rw [hY,setAll_flat 5 _ _ j (by simpa using hjm) (mapPf_sz _) rfl,<- mixG_next pfQ pfN k Z j hjZ,List.map_set]
          rfl)
        obtain ⟨a,b,ha1,ha2,ha3,ha4,ho,hcl⟩:=hm.at (fun a b q w w' hk hq=>hq.kept hk) hjm
        rw [hnow] at ho
        have HC:Hid (∀ (w':World) (Y':List Value),w'.ownsRow lo 139 5 (.slice (some ⟨g,0,none⟩) n cap) n Y'->Oth (fun x=>x=g\/a<=x/\x < b) wr w'->OwnPf a b w' (mkPf (nxG pfN k (Z.take j)) Z[j].1) Z[j].2->MidR 139 5 (fun a b w (q:Pf × Pv)=>OwnPf a b w q.1 q.2) lo hi w' g n cap Y' (mixG pfQ pfN k Z (j+1))):=hide (fun w' Y' h1 h2 h3=>by
          rw [<- mixG_next pfQ pfN k Z j hjZ]
          exact hcl w' Y' (pfQ (nxG pfN k (Z.take j)) Z[j]) h1 h2 h3)
        have hgg:=hm.oth
        have HSo:=hide (show ∀ x,(x=g\/a<=x/\x < b)->lo<=x/\x < hi from fun x hx=>by rcases hx with rfl | ⟨h1,h2⟩ <;> omega)
        have HR:=hide (show RowSt lo 139 5 (fun x=>x=g\/a<=x/\x < b) wr wr g n cap ((mixG pfQ pfN k Z j).map (fun q:Pf × Pv=>pfC q.1 q.2)).flatten from ⟨hm.row,Oth.refl _ _⟩)
        have Hot:=hide hot
        generalize nxG pfN k (Z.take j)=K at Hnx hle hK0 HEnd HC ⊢
        generalize ((mixG pfQ pfN k Z j).map (fun q:Pf × Pv=>pfC q.1 q.2)).flatten=Y at hYl Hat HEnd HR
        clear hm hot hcl hnow hjm hmx hgg HF hnx
        generalize Z[j]=zq at Hat hfew hle HEnd HC Hnx ho
        obtain ⟨p,u⟩:=zq
        have hnb:=hfew.nb
        have hfb:=hfew.fb
        have hnw:=hfew.nw
        obtain ⟨ep,bs,qr,qb,qw⟩:=p
        obtain ⟨yb,yw⟩:=u
        obtain ⟨m0,m1,m2,b0,b1,b2,b3,xb,xw⟩:=ho.ex
        clear ho hfew
        simp only at *
        obtain ⟨adb,cpb,rfl⟩:=xb.rd.shape
        obtain ⟨adw,cpw,rfl⟩:=xw.rd.shape
        unfold nxPf at hle
        simp only at hle
        have hli:(j:Int) < (n:Int):=by omega
        have Xb:=hide xb
        clear xb
        have Xw:=hide xw
        clear xw
        obtain ⟨⟨y0,q0⟩,f0,-⟩:=HR.out.at (j * 5) (by (try simp only [List.length_set]);omega)
        have q1:World.cell? _ ⟨g,j * 5+1,none⟩=some (.slice adb bs.length cpb):=(HR.out.at (j * 5+1) (by (try simp only [List.length_set]);omega)).2.2.trans (by (repeat rw [List.getElem?_set_ne (by omega)]);exact Hat.out 1 (by omega))
        have HRn:=hide (HR.out.set (.inl rfl) (j * 5) (.int .i64 (((K:Nat):Int))))
        clear HR
        have HR:=HRn
        clear HRn
        have Xb:=hide (Xb.out.kept (Kept.set (g:=g) _ (j * 5) (.int .i64 (((K:Nat):Int))) (by omega)))
        have Xw:=hide (Xw.out.kept (Kept.set (g:=g) _ (j * 5) (.int .i64 (((K:Nat):Int))) (by omega)))
        have HA:=hide (mkuBlock (.slice adb bs.length cpb) bs (K+1) m0 m1 _ Xb.out hnb hfb (by omega) (by omega))
        rw [show ((K+1:Nat):Int)=(K:Int)+1 from by omega] at HA
        go_wp2_with fail
        refine HA.out.mono ?_
        rintro e w1 ⟨rfl,hx,hoth⟩
        have HRn:=hide (HR.out.by_ hoth (by omega) (fun x hx=>.inr (by omega)))
        clear HR
        have HR:=HRn
        clear HRn
        have Xw:=hide (Xw.out.kept (Kept.of_oth hoth (fun k h1 h2=>by omega)))
        have Xn:=hide hx
        clear Xb
        have Xb:=Xn
        clear Xn
        obtain ⟨K1,hK1⟩:∃ x:Nat,K+1+totM bs=x:=⟨_,rfl⟩
        have HK1:=hide hK1
        rw [hK1]
        have hle1:K1+1+1+qw.length<=40000000:=by omega
        have hK01:0 < K1:=by omega
        clear hx hoth HA q0 f0 q1 hK1 hle hK0
        obtain ⟨⟨y2,q2⟩,f2,-⟩:=HR.out.at (j * 5+2) (by (try simp only [List.length_set]);omega)
        obtain ⟨⟨y3,q3⟩,f3,-⟩:=HR.out.at (j * 5+3) (by (try simp only [List.length_set]);omega)
        have q4:World.cell? _ ⟨g,j * 5+4,none⟩=some (.slice adw qw.length cpw):=(HR.out.at (j * 5+4) (by (try simp only [List.length_set]);omega)).2.2.trans (by (repeat rw [List.getElem?_set_ne (by omega)]);exact Hat.out 4 (by omega))
        have HRn:=hide (HR.out.set (.inl rfl) (j * 5+2) (.int .i64 (((K1:Nat):Int))))
        clear HR
        have HR:=HRn
        clear HRn
        have Xb:=hide (Xb.out.kept (Kept.set (g:=g) _ (j * 5+2) (.int .i64 (((K1:Nat):Int))) (by omega)))
        have Xw:=hide (Xw.out.kept (Kept.set (g:=g) _ (j * 5+2) (.int .i64 (((K1:Nat):Int))) (by omega)))
        have HRn:=hide (HR.out.set (.inl rfl) (j * 5+3) (.int .i64 ((K1:Int)+1)))
        clear HR
        have HR:=HRn
        clear HRn
        have Xb:=hide (Xb.out.kept (Kept.set (g:=g) _ (j * 5+3) (.int .i64 ((K1:Int)+1)) (by omega)))
        have Xw:=hide (Xw.out.kept (Kept.set (g:=g) _ (j * 5+3) (.int .i64 ((K1:Int)+1)) (by omega)))
        have HA:=hide (mkuStr (.slice adw qw.length cpw) qw (K1+2) m1 m2 _ Xw.out hnw (by omega) (by omega))
        rw [show ((K1+2:Nat):Int)=(K1:Int)+1+1 from by omega] at HA
        go_wp2_with fail
        refine HA.out.mono ?_
        rintro e w2 ⟨rfl,hx,hoth⟩
        have HRn:=hide (HR.out.by_ hoth (by omega) (fun x hx=>.inr (by omega)))
        clear HR
        have HR:=HRn
        clear HRn
        have Xb:=hide (Xb.out.kept (Kept.of_oth hoth (fun k h1 h2=>by omega)))
        have Xn:=hide hx
        clear Xw
        have Xw:=Xn
        clear Xn
        obtain ⟨K2,hK2⟩:∃ x:Nat,K1+2+qw.length=x:=⟨_,rfl⟩
        have HK2:=hide hK2
        rw [hK2]
        have hle2:K2<=40000000:=by omega
        have hK02:0 < K2:=by omega
        clear hx hoth HA q2 f2 q3 f3 q4 hK2 hle1 hK01
        have e1:mkPf K ⟨ep,bs,qr,qb,qw⟩=⟨(((K:Nat):Int)),mkLk (K+1) bs,(((K1:Nat):Int)),((K1:Int)+1),mkS (K1+2) qw.length⟩:=by
          unfold mkPf
          simp only [HK1.out]
          rw [Pf.mk.injEq]
          exact ⟨by omega,rfl,by omega,by omega,rfl⟩
        have e2:nxPf K ⟨ep,bs,qr,qb,qw⟩=K2:=by
          unfold nxPf
          simp only [HK1.out,HK2.out]
        have e3:=HEnd.out _ rfl
        have HF:=hide (HC.out _ _ HR.out.row HR.out.oth (by
          rw [e1]
          exact ⟨m0,m1,m2,b0,b1,b2,b3,Xb.out,Xw.out⟩))
        rw [e1] at e3
        have HFO:=hide (Hot.out.trans (HR.out.oth.mono HSo.out))
        have e4:=setPf Y (j * 5) (.int .i64 (((K:Nat):Int))) (.slice adb bs.length cpb) (.int .i64 (((K1:Nat):Int))) (.int .i64 ((K1:Int)+1)) (.slice adw qw.length cpw) (Hat.out 1 (by omega)) (Hat.out 4 (by omega))
        rw [e4] at HF
        have HF2:=hide (show MidR 139 5 (fun a b w (q:Pf × Pv)=>OwnPf a b w q.1 q.2) lo hi _ g n cap ((mixG pfQ pfN k Z (j+1)).map (fun q:Pf × Pv=>pfC q.1 q.2)).flatten (mixG pfQ pfN k Z (j+1)) from by rw [<- e3];exact HF.out)
        have Hn2:=hide (Hnx.out.trans e2)
        clear e1 e2 e3 e4 HF HR HEnd HC Hat Hnx Hot HSo Xb Xw
        go_wp2
        go_roundw
        case rel=>exact ⟨j+1,by omega,by go_num,(by rw [Hn2.out];try go_num),HF2.out,HFO.out⟩
        case measure=>simp [intOf];omega
      · have ej:j=Z.length:=by have:=Hn.out;omega
        have hot':=hide hot
        have HF2:Hid (OwnPx lo hi wr (.slice (some ⟨g,0,none⟩) n cap) (mkG mkPf nxPf k (Z.map (·.1)))):=hide (by
          have hl2:n=(mixG pfQ pfN k Z j).length:=by rw [mixG_len _ _ _ _ _ (by omega)];exact Hn.out.symm
          refine ⟨mixG pfQ pfN k Z j,?_,?_⟩
          · rw [ej,mixG_all,HEq.out]
          · have:=hm.to hl2
            rw [<- hl2] at this
            exact this)
        have HT:Hid (nxG pfN k (Z.take j)=nxG pfN k Z):=hide (by rw [ej,List.take_length])
        clear hm hot ej
        generalize nxG pfN k (Z.take j)=K at HT
        go_wp2
        go_ret
        exact ⟨ret_int (by rw [HT.out]),HF2.out,hot'.out⟩
end Go.Proofs.YthidkbhiikdokaaGreat
