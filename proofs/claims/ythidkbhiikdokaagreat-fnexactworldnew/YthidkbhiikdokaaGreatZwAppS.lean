/- Appending to texts of the call's own. -/
import Derived.Test.YthidkbhiikdokaaGreatZwWdMk
namespace Go.Proofs.YthidkbhiikdokaaGreat
open Go.RowKit Go.Sort
set_option linter.unusedVariables false
def nwN (nm:ByteArray) (e:Int) (l:List Ac):Nd:=⟨nm,e,e,l,setV l,[],1,0,0,-1,[],0,[],[],0,[],[],[],[],[]⟩
def nwU (va vs:Value):Nv:=⟨va,vs,.slice none 0 0,.slice none 0 0,.slice none 0 0,.slice none 0 0,.slice none 0 0,.slice none 0 0,.slice none 0 0,.slice none 0 0,.slice none 0 0⟩
theorem own_nilX {lo:Nat} {T:TypeId} {sz:Nat} {w:World}:w.ownsRow lo T sz (.slice none 0 0) 0 []:=⟨by simp,.inl ⟨rfl,rfl⟩⟩
theorem top_nilX {hi:Nat}:Top hi (.slice none 0 0):=fun k e=>by cases e
theorem nil_ownPx (lo hi:Nat) (w:World):OwnPx lo hi w (.slice none 0 0) []:=⟨[],rfl,⟨own_nilX,top_nilX,Parts.nil _ _ _ _ _⟩⟩
theorem nil_ownSx (lo hi:Nat) (w:World):OwnSx lo hi w (.slice none 0 0) []:=⟨[],rfl,⟨own_nilX,top_nilX,Parts.nil _ _ _ _ _⟩⟩
theorem nil_ownMx (lo hi:Nat) (w:World):OwnMx lo hi w (.slice none 0 0) []:=⟨[],rfl,⟨own_nilX,top_nilX,Parts.nil _ _ _ _ _⟩⟩
theorem nil_ownKx (lo hi:Nat) (w:World):OwnKx lo hi w (.slice none 0 0) []:=.inl ⟨rfl,rfl⟩
theorem nil_inS (lo hi:Nat) (w:World):InS lo hi w (.slice none 0 0) []:=⟨own_nilX,top_nilX⟩
theorem nil_inI (lo hi:Nat) (w:World):InI lo hi w (.slice none 0 0) []:=⟨own_nilX,top_nilX⟩
theorem nil_inT (lo hi:Nat) (w:World):InT lo hi w (.slice none 0 0) []:=⟨own_nilX,top_nilX⟩
theorem nil_inR (t:TypeId) (lo hi:Nat) (w:World):InR t lo hi w (.slice none 0 0) []:=⟨own_nilX,top_nilX⟩
theorem ndP_own {nm:ByteArray} {e:Int} {l:List Ac} {w w':World} {en:Ending} (h:NdP nm e l w en w') (hok:(nmB nm && lgB e l)=true) :
    ∃ (aa:Option Addr) (ca:Nat) (av:Option Addr) (cs:Nat),en=.returned (ndV nm e (.slice aa l.length ca) (.slice av (setV l).length cs) 1 (-1))/\OwnNd w.heap.size w'.heap.size w' (nwN nm e l) (nwU (.slice aa l.length ca) (.slice av (setV l).length cs))/\Below w.heap.size w w':=by
  rcases h with ⟨_,aa,ca,av,cs,base,hi,rfl,hx,hv,b1,b2,b3,hb⟩ | ⟨h,_⟩
  · exact ⟨aa,ca,av,cs,rfl,⟨base,hi,w'.heap.size,w'.heap.size,w'.heap.size,w'.heap.size,w'.heap.size,w'.heap.size,w'.heap.size,w'.heap.size,w'.heap.size,by omega,by omega,by omega,by omega,by omega,by omega,by omega,by omega,by omega,by omega,by omega,by omega,hx,⟨hv,top_row hv⟩,nil_ownKx _ _ _,nil_inS _ _ _,nil_inS _ _ _,nil_inI _ _ _,nil_inR _ _ _ _,nil_inR _ _ _ _,nil_inI _ _ _,nil_inT _ _ _,nil_ownPx _ _ _⟩,hb⟩
  · rw [hok] at h;exact absurd h (by simp)
theorem Tryz.infoWn:(Tryz.prog.info? 36).map (·.size)=some 7:=by kernel_rfl
theorem size_set9 (w:World) (p:Addr) (u:Value):(w.setCell p u).heap.size=w.heap.size:=by simp
theorem OwnNx.top {lo hi:Nat} {w:World} {v:Value} {l:List Nd} (h:OwnNx lo hi w v l):Top hi v:=by
  obtain ⟨Z,_,h⟩:=h
  exact h.2.1
def wnN (e:Int) (l:List Ac) (foul:List ByteArray) (k:List Ac):List Nd:=(k.filter (fun a=>!hasN foul a.1)).map (fun a=>nwN a.1 e l)
theorem wnN_no (e:Int) (l:List Ac) (foul:List ByteArray) (K:List Ac) (k:Nat) (h:k < K.length) (hs:hasN foul K[k].1=false):wnN e l foul (K.take (k+1))=wnN e l foul (K.take k) ++ [nwN K[k].1 e l]:=by
  unfold wnN
  rw [List.take_succ_eq_append_getElem h,List.filter_append,List.map_append]
  simp [hs]
theorem wnN_yes (e:Int) (l:List Ac) (foul:List ByteArray) (K:List Ac) (k:Nat) (h:k < K.length) (hs:hasN foul K[k].1=true):wnN e l foul (K.take (k+1))=wnN e l foul (K.take k):=by
  unfold wnN
  rw [List.take_succ_eq_append_getElem h,List.filter_append,List.map_append]
  simp [hs]
theorem wnN_len (e:Int) (l:List Ac) (foul:List ByteArray) (K:List Ac):(wnN e l foul K).length<=K.length:=by unfold wnN;rw [List.length_map];exact List.length_filter_le _ _
theorem wnN_at {e:Int} {l:List Ac} {foul:List ByteArray} {K:List Ac} {q:Nd} (h:q ∈ wnN e l foul K):∃ a,q=nwN a e l:=by
  unfold wnN at h
  obtain ⟨a,_,rfl⟩:=List.mem_map.1 h
  exact ⟨a.1,rfl⟩
def wnW (e:Int) (l:List Ac) (foul:List ByteArray):Wd:=if lgB e l && nmsB foul then ⟨e,l,foul,wnN e l foul l,[],[],[]⟩ else ⟨0,[],[],[],[],[],[]⟩
theorem wnW_no {e:Int} {l:List Ac} {foul:List ByteArray} (h:(lgB e l && nmsB foul)=false):wnW e l foul=⟨0,[],[],[],[],[],[]⟩:=by unfold wnW;rw [h];rfl
theorem wnW_yes {e:Int} {l:List Ac} {foul:List ByteArray} (h:(lgB e l && nmsB foul)=true):wnW e l foul=⟨e,l,foul,wnN e l foul l,[],[],[]⟩:=by unfold wnW;rw [h];rfl
theorem nil_ownWd (w:World):OwnWd w.heap.size w.heap.size w ⟨0,[],[],[],[],[],[]⟩ ⟨.slice none 0 0,.slice none 0 0,.slice none 0 0,.slice none 0 0,.slice none 0 0,.slice none 0 0⟩ :=
  ⟨w.heap.size,w.heap.size,w.heap.size,w.heap.size,w.heap.size,w.heap.size,w.heap.size,by omega,by omega,by omega,by omega,by omega,by omega,by omega,by omega,.inl ⟨rfl,rfl⟩,nil_inS _ _ _,nil_ownNx _ _ _,nil_ownKx _ _ _,nil_ownSx _ _ _,nil_ownMx _ _ _⟩
theorem names_of {e:Int} {l:List Ac} (h:lgB e l=true) (k:Nat) (hk:k < l.length):nmB l[k].1=true:=by
  have h1:=lg_acs h
  unfold acsB at h1
  rw [Bool.and_eq_true,List.all_eq_true] at h1
  have:=h1.1 k (List.mem_range.2 hk)
  rw [acAt_eq l k l[k] hk rfl,Bool.and_eq_true] at this
  have h2:=this.1
  unfold acB at h2
  rw [Bool.and_eq_true] at h2
  exact h2.1
theorem nms_len {foul:List ByteArray} (h:nmsB foul=true):foul.length<=20:=by
  unfold nmsB at h
  simp only [Bool.and_eq_true,decide_eq_true_eq] at h
  exact h.2
theorem few_wn (e:Int) (l:List Ac) (foul:List ByteArray):FewWd (wnW e l foul):=by
  cases h:(lgB e l && nmsB foul)
  · rw [wnW_no h]
    exact ⟨by simp,by simp,by simp,by simp,by simp,by simp,by simp,by simp,by simp,by simp,by simp⟩
  · rw [wnW_yes h]
    rw [Bool.and_eq_true] at h
    have h1:=acs_len' (lg_acs h.1)
    have h2:=acs_four (lg_acs h.1)
    have h3:=nms_len h.2
    have h4:=wnN_len e l foul l
    have h5:=setV_len l
    have h6:∀ a ∈ l,a.2.2.2.2.length<=4000000:=fun a ha=>by have:=h2 a ha;omega
    refine ⟨by simpa using (show l.length<=4000000 by omega),h6,by simpa using (show foul.length<=4000000 by omega),by simpa using (show (wnN e l foul l).length<=4000000 by omega),fun q hq=>?_,by simp,by simp,by simp,by simp,by simp,by simp⟩
    obtain ⟨a,rfl⟩:=wnN_at hq
    exact ⟨by simpa [nwN] using (show l.length<=4000000 by omega),h6,by simpa [nwN] using (show (setV l).length<=4000000 by omega),by simp [nwN],by simp [nwN],by simp [nwN],by simp [nwN],by simp [nwN],by simp [nwN],by simp [nwN],by simp [nwN],by simp [nwN],by simp [nwN],by simp [nwN]⟩
theorem nxNd_new {e:Int} {l:List Ac} (h:acsB l=true) (a:ByteArray) (k:Nat):nxNd k (nwN a e l)<=k+200:=by
  have h1:=acs_len' h
  have h2:=nxs_four (k+1+1+1) l (acs_four h)
  have h3:=setV_len l
  simp only [nxNd,nwN,nxG,totM,List.length_nil,List.map_nil,List.sum_nil]
  omega
theorem nxG_new {e:Int} {l:List Ac} (h:acsB l=true):∀ (ns:List Nd) (k:Nat),(∀ q ∈ ns,∃ a,q=nwN a e l)->nxG nxNd k ns<=k+200 * ns.length
  | [],k,_=>by simp [nxG]
  | q :: t,k,hq=>by
    obtain ⟨a,rfl⟩:=hq q List.mem_cons_self
    have h1:=nxG_new h t (nxNd k (nwN a e l)) (fun p hp=>hq p (List.mem_cons_of_mem _ hp))
    have h2:=nxNd_new (e:=e) h a k
    simp only [nxG,List.length_cons]
    omega
theorem nl_wn (e:Int) (l:List Ac) (foul:List ByteArray):nlWd 1 (wnW e l foul)<=40000000:=by
  cases h:(lgB e l && nmsB foul)
  · rw [wnW_no h]
    simp [nlWd,nxG,totM,nxs]
  · rw [wnW_yes h]
    rw [Bool.and_eq_true] at h
    have h1:=acs_len' (lg_acs h.1)
    have h2:=nxs_four 1 l (acs_four (lg_acs h.1))
    have h3:=nms_len h.2
    have h4:=wnN_len e l foul l
    have h5:=nxG_new (lg_acs h.1) (wnN e l foul l) (nxs 1 l+foul.length) (fun q hq=>wnN_at hq)
    have e0:nlWd 1 ⟨e,l,foul,wnN e l foul l,[],[],[]⟩=nxG nxNd (nxs 1 l+foul.length) (wnN e l foul l)+totM []:=rfl
    rw [e0]
    simp only [totM,List.map_nil,List.sum_nil]
    omega
end Go.Proofs.YthidkbhiikdokaaGreat
namespace Go.Proofs.YthidkbhiikdokaaGreat
open Go.RowKit
set_option linter.unusedVariables false
theorem own_nilS (w:World) (base:Nat) (h:base<=w.heap.size):OwnS base (w.alloc (.cells #[] 9)) (.slice (some ⟨w.heap.size,0,none⟩) 0 0) [] :=
  World.ownsRow_lit w #[] 0 h (by unfold maxLen;omega) (by simp)
theorem app_ownS {ops:Array Oper} {rest:List Oper} {o:Oper} {a:Act} {Q:Exit->Act->World->Prop} (w:World) (hgd:o.guard=none) (s x:Operand)
    (ho:o.op=.call { callee:=.builtin .append,args:=#[s,x],argTypes:=#[25,25] })
    (base:Nat) (v vx:Value) (l k:List ByteArray) (hs:a.eval s=v) (hx:a.eval x=vx) (hown:OwnS base w v l) (hrd:RdS w vx k)
    (hlen:l.length+k.length<=100000000) (hbase:base<=w.heap.size)
    (h:∀ v' w',OwnS base w' v' (l ++ k)->Below base w w'->wpList Tryz.prog ops Q rest (a.put o.dst v') w'):wpList Tryz.prog ops Q (o :: rest) a w:=by
  obtain ⟨i0,hi,hz0,hz1,hz2⟩:=info_parts Tryz.infoStr
  have hbel:∀ w',w.grownBy w' v.ownBlock->Below base w w':=fun w' hg=>(Below.refl _ _).grown hg hbase (fun k hk=>(World.ownsRow.lt hown k hk).1)
  rcases hrd with ⟨ax,cap,rfl,rfl,hnil⟩ | ⟨b,off,cap,h0,rfl,h1,h2,h3,h4⟩
  · cases ax with
    | none =>
      have hc:cap=0:=hnil rfl
      subst hc
      refine wpList_append_own_none hgd s x 25 ho base 9 i0 1 Tryz.underlying25 hi v l.length (l.map Value.string) hs hown hx ?_
      exact h v w (by simpa [OwnS] using hown) (Below.refl _ _)
    | some ad =>
      refine wpList_append_own w hgd s x 25 ho base 9 i0 (.string ByteArray.empty) 1 16 Tryz.underlying25 hi hz0 hz1 hz2 rfl (by decide) v l.length (l.map Value.string) hs hown ad 0 cap [] hx rfl (by intro j u hj;simp at hj) (by intro u hu;simp at hu) (by unfold maxLen;simp at hlen;omega) (by simp at hlen;omega) hbase ?_
      intro v' w' ho' hg _
      exact h v' w' (by simpa [OwnS] using ho') (hbel w' hg)
  · refine wpList_append_own w hgd s x 25 ho base 9 i0 (.string ByteArray.empty) 1 16 Tryz.underlying25 hi hz0 hz1 hz2 rfl (by decide) v l.length (l.map Value.string) hs hown ⟨b,off,none⟩ k.length cap (k.map Value.string) hx (by simp) ?_ ?_ (by unfold maxLen;omega) (by omega) hbase ?_
    · intro j u hj
      have hj':j < k.length:=by have:=(List.getElem?_eq_some_iff.1 hj).1;simpa using this
      have ea:(⟨b,off,none⟩:Addr).add j=⟨b,off+j,none⟩:=by
        by_cases hz:j=0
        · subst hz;simp [Addr.add]
        · simp [Addr.add,hz]
      rw [ea,h4 j hj']
      simp [hj'] at hj
      rw [<- hj]
    · intro u hu
      obtain ⟨c,_,rfl⟩:=List.mem_map.1 hu
      rfl
    · intro v' w' ho' hg _
      exact h v' w' (by simpa [OwnS] using ho') (hbel w' hg)
end Go.Proofs.YthidkbhiikdokaaGreat
