/- A certificate of leavings by value. -/
import Derived.Test.YtfdbedenlbikgaaZlInts
set_option maxRecDepth 20000
set_option maxHeartbeats 1000000
namespace Go.Proofs.Ytfdbedenlbikgaa
open Go.RowKit
set_option linter.unusedVariables false
theorem flat_len {α:Type} (sz:Nat):∀ (L:List (List α)),(∀ x ∈ L,x.length=sz)->L.flatten.length=L.length * sz
  | [],_=>by simp
  | x :: L,h=>by
    rw [List.flatten_cons,List.length_append,flat_len sz L (fun y hy=>h y (List.mem_cons_of_mem _ hy)),h x (List.mem_cons_self),List.length_cons,Nat.add_mul,Nat.one_mul]
    omega
theorem flat_get {α:Type} (sz:Nat):∀ (L:List (List α)) (i j:Nat) (hi:i < L.length),(∀ x ∈ L,x.length=sz)->j < sz->L.flatten[i * sz+j]?=L[i][j]?
  | [],i,j,hi,_,_=>by simp at hi
  | x :: L,i,j,hi,h,hj=>by
    have hx:=h x (List.mem_cons_self)
    cases i with
    | zero =>
      rw [List.flatten_cons,Nat.zero_mul,Nat.zero_add,List.getElem?_append_left (by omega)]
      rfl
    | succ i =>
      rw [List.flatten_cons,List.getElem?_append_right (by rw [hx,Nat.add_mul];omega),hx,show (i+1) * sz+j - sz=i * sz+j from by rw [Nat.add_mul];omega]
      exact flat_get sz L i j (by simpa using hi) (fun y hy=>h y (List.mem_cons_of_mem _ hy)) hj
theorem flat_set {α:Type} (sz:Nat) (u:α):∀ (L:List (List α)) (i j:Nat) (hi:i < L.length),(∀ x ∈ L,x.length=sz)->j < sz->L.flatten.set (i * sz+j) u=(L.set i (L[i].set j u)).flatten
  | [],i,j,hi,_,_=>by simp at hi
  | x :: L,i,j,hi,h,hj=>by
    have hx:=h x (List.mem_cons_self)
    cases i with
    | zero =>
      rw [List.flatten_cons,Nat.zero_mul,Nat.zero_add,List.set_append_left _ _ (by omega)]
      rfl
    | succ i =>
      rw [List.flatten_cons,List.set_append_right _ _ (by rw [hx,Nat.add_mul];omega),hx,show (i+1) * sz+j - sz=i * sz+j from by rw [Nat.add_mul];omega]
      rw [flat_set sz u L i j (by simpa using hi) (fun y hy=>h y (List.mem_cons_of_mem _ hy)) hj]
      rfl
def part {α β:Type} (f:α->List β) (z:List β) (l:List α) (k:Nat):List (List β):=(l.take k).map f ++ List.replicate (l.length - k) z
theorem part_len {α β:Type} (f:α->List β) (z:List β) (l:List α) (k:Nat) (hk:k<=l.length):(part f z l k).length=l.length:=by simp [part];omega
theorem part_zero {α β:Type} (f:α->List β) (z:List β) (l:List α):part f z l 0=List.replicate l.length z:=by simp [part]
theorem part_all {α β:Type} (f:α->List β) (z:List β) (l:List α):part f z l l.length=l.map f:=by simp [part]
theorem part_at {α β:Type} (f:α->List β) (z:List β) (l:List α) (k:Nat) (hk:k < l.length):(part f z l k)[k]'(by rw [part_len f z l k (by omega)];exact hk)=z:=by
  unfold part
  rw [List.getElem_append_right (by simp;omega)]
  simp
theorem part_next {α β:Type} (f:α->List β) (z:List β) (l:List α) (k:Nat) (hk:k < l.length):(part f z l k).set k (f l[k])=part f z l (k+1):=by
  unfold part
  rw [List.take_succ_eq_append_getElem hk,List.set_append_right _ _ (by simp;omega),show l.length - k=(l.length - (k+1))+1 from by omega,List.replicate_succ,show k - ((l.take k).map f).length=0 from by simp;omega]
  simp only [List.map_append,List.map_cons,List.map_nil,List.set_cons_zero,List.append_assoc,List.singleton_append]
theorem part_sz {α β:Type} (sz:Nat) (f:α->List β) (z:List β) (l:List α) (k:Nat) (hf:∀ a,(f a).length=sz) (hz:z.length=sz):∀ x ∈ part f z l k,x.length=sz:=by
  intro x hx
  unfold part at hx
  rcases List.mem_append.1 hx with h | h
  · obtain ⟨a,_,rfl⟩:=List.mem_map.1 h;exact hf a
  · rw [(List.mem_replicate.1 h).2];exact hz
theorem made_flat (zs:Array Value) (sz n:Nat) (hz:zs.size=sz) (h0:0 < sz):(madeCells zs (n * sz)).toList=(List.replicate n zs.toList).flatten:=by
  have hr:∀ x ∈ List.replicate n zs.toList,x.length=sz:=fun x hx=>by rw [(List.mem_replicate.1 hx).2];simpa using hz
  apply List.ext_getElem?
  intro t
  by_cases ht:t < n * sz
  · have h1:t / sz < n:=by rw [Nat.div_lt_iff_lt_mul h0];exact ht
    have h2:t % sz < sz:=Nat.mod_lt _ h0
    have e:=flat_get sz (List.replicate n zs.toList) (t / sz) (t % sz) (by simpa using h1) hr h2
    rw [show t / sz * sz+t % sz=t from by rw [Nat.mul_comm];exact Nat.div_add_mod t sz] at e
    rw [e]
    have h3:t % sz < zs.size:=by rw [hz];exact h2
    simp [madeCells,ht,hz]
    rw [getElem!_pos zs _ h3,Array.getElem?_eq_getElem h3]
  · rw [List.getElem?_eq_none (by simp [madeCells];omega),List.getElem?_eq_none (by rw [flat_len sz _ hr];simp;omega)]
def Blk (W:World) (B:Nat) (t:TypeId) (cs:List Value):Prop:=W.heap[B]?=some (.cells cs.toArray t (0,0))
theorem Blk.lt {W:World} {B:Nat} {t:TypeId} {cs:List Value} (h:Blk W B t cs):B < W.heap.size:=(Array.getElem?_eq_some_iff.1 h).1
theorem Blk.cell {W:World} {B:Nat} {t:TypeId} {cs:List Value} (h:Blk W B t cs) (j:Nat):W.cell? ⟨B,j,none⟩=cs[j]?:=by simp [World.cell?,show W.heap[B]?=_ from h]
theorem Blk.frozen {W:World} {B:Nat} {t:TypeId} {cs:List Value} (h:Blk W B t cs) (j:Nat):W.frozen? ⟨B,j,none⟩=false:=by simp [World.frozen?,show W.heap[B]?=_ from h]
theorem Blk.new (W:World) (t:TypeId) (cs:List Value):Blk (W.alloc (.cells cs.toArray t)) W.heap.size t cs:=heap_alloc_new W _
theorem Blk.below {W V:World} {B K:Nat} {t:TypeId} {cs:List Value} (h:Blk W B t cs) (hb:Below K W V) (hK:B < K):Blk V B t cs:=(hb.block B hK).trans h
theorem grown_set (w:World) (g j:Nat) (u:Value):w.grownBy (w.setCell ⟨g,j,none⟩ u) (some g) :=
  ⟨rfl,rfl,rfl,by simp,fun k _ hk=>heap_setCell_other w ⟨g,j,none⟩ k u (fun e=>hk (by simp [e]))⟩
theorem row_set {base:Nat} {w:World} {e:TypeId} {size:Nat} {v:Value} {n:Nat} {xs:List Value} (h:w.ownsRow base e size v n xs) (g j:Nat) (u:Value) (hne:∀ k,v.ownBlock=some k->k ≠ g):(w.setCell ⟨g,j,none⟩ u).ownsRow base e size v n xs:=by
  refine World.ownsRow.kept h (grown_set w g j u) ?_
  cases hv:v.ownBlock with
  | none=>exact .inl rfl
  | some k=>exact .inr (fun e=>hne k hv (by injection e))
theorem row_below {B base:Nat} {w w':World} {e:TypeId} {size:Nat} {v:Value} {n:Nat} {xs:List Value} (h:w.ownsRow base e size v n xs) (hb:Below B w w') (hB:w.heap.size<=B):w'.ownsRow base e size v n xs:=by
  refine ⟨h.1,?_⟩
  rcases h.2 with h' | ⟨g,cap,cur,hv,hbb,hg,r⟩
  · exact .inl h'
  · refine .inr ⟨g,cap,cur,hv,hbb,?_,r⟩
    have hlt:g < w.heap.size:=(Array.getElem?_eq_some_iff.1 hg).1
    rw [hb.block g (by omega)];exact hg
theorem flat_put2 {α:Type} (L:List (List α)) (i:Nat) (a b:α) (hi:i < L.length) (h:∀ x ∈ L,x.length=2):(L.flatten.set (i * 2) a).set (i * 2+1) b=(L.set i [a,b]).flatten:=by
  have e0:=flat_set 2 a L i 0 hi h (by omega)
  rw [Nat.add_zero] at e0
  have hL:∀ x ∈ L.set i (L[i].set 0 a),x.length=2:=fun x hx=>by
    rcases List.mem_or_eq_of_mem_set hx with h' | rfl
    · exact h x h'
    · simpa using h L[i] (List.getElem_mem hi)
  rw [e0,flat_set 2 b _ i 1 (by simpa using hi) hL (by omega)]
  have hl:=h L[i] (List.getElem_mem hi)
  congr 1
  rw [List.set_set]
  congr 1
  simp only [List.getElem_set_self]
  match hx:L[i],hl with
  | [x,y],_=>rfl
def prt {α:Type} (L:List (List α)) (z:List α) (n:Nat):List (List α):=L ++ List.replicate (n - L.length) z
theorem prt_len {α:Type} (L:List (List α)) (z:List α) (n:Nat) (h:L.length<=n):(prt L z n).length=n:=by simp [prt];omega
theorem prt_zero {α:Type} (z:List α) (n:Nat):prt [] z n=List.replicate n z:=by simp [prt]
theorem prt_all {α:Type} (L:List (List α)) (z:List α) (n:Nat) (h:L.length=n):prt L z n=L:=by simp [prt,h]
theorem prt_at {α:Type} (L:List (List α)) (z:List α) (n k:Nat) (hk:k=L.length) (h:k < n):(prt L z n)[k]'(by rw [prt_len L z n (by omega)];exact h)=z:=by
  subst hk
  unfold prt
  rw [List.getElem_append_right (Nat.le_refl _)]
  simp
theorem prt_next {α:Type} (L:List (List α)) (z x:List α) (n k:Nat) (hk:k=L.length) (h:k < n):(prt L z n).set k x=prt (L ++ [x]) z n:=by
  subst hk
  unfold prt
  rw [List.set_append_right _ _ (Nat.le_refl _),Nat.sub_self,show n - L.length=(n - (L ++ [x]).length)+1 from by simp;omega,List.replicate_succ,List.set_cons_zero,List.append_assoc]
  rfl
theorem prt_sz {α:Type} (sz:Nat) (L:List (List α)) (z:List α) (n:Nat) (hL:∀ x ∈ L,x.length=sz) (hz:z.length=sz):∀ x ∈ prt L z n,x.length=sz:=by
  intro x hx
  rcases List.mem_append.1 hx with h | h
  · exact hL x h
  · rw [(List.mem_replicate.1 h).2];exact hz
theorem flat_put5 {α:Type} (L:List (List α)) (i:Nat) (a b c d e:α) (hi:i < L.length) (h:∀ x ∈ L,x.length=5):((((L.flatten.set (i * 5) a).set (i * 5+1) b).set (i * 5+2) c).set (i * 5+3) d).set (i * 5+4) e=(L.set i [a,b,c,d,e]).flatten:=by
  have st:∀ (M:List (List α)) (y:List α) (j:Nat) (u:α),M.length=L.length->(∀ x ∈ M,x.length=5)->y.length=5->j < 5->(M.set i y).flatten.set (i * 5+j) u=(M.set i (y.set j u)).flatten:=by
    intro M y j u hM hx hy hj
    have hS:∀ x ∈ M.set i y,x.length=5:=fun x hm=>by
      rcases List.mem_or_eq_of_mem_set hm with h' | rfl
      · exact hx x h'
      · exact hy
    rw [flat_set 5 u (M.set i y) i j (by rw [List.length_set,hM];exact hi) hS hj,List.set_set]
    simp only [List.getElem_set_self]
  have hl:=h L[i] (List.getElem_mem hi)
  have e0:L=L.set i L[i]:=by simp
  have r0:=st L L[i] 0 a rfl h hl (by omega)
  rw [<- e0,Nat.add_zero] at r0
  rw [r0,st L _ 1 b rfl h (by simp [hl]) (by omega),st L _ 2 c rfl h (by simp [hl]) (by omega),st L _ 3 d rfl h (by simp [hl]) (by omega),st L _ 4 e rfl h (by simp [hl]) (by omega)]
  congr 2
  match hx:L[i],hl with
  | [y0,y1,y2,y3,y4],_=>rfl
def tcV (r:Int) (vw vh:Value):Value:=.agg #[.int .i64 r,vw,vh]
theorem OwnS.olderC {base:Nat} {w:World} {v:Value} {l:List ByteArray} (h:OwnS base w v l) {g:Nat} (hg:g < base) (j:Nat) (u:Value):OwnS base (w.setCell ⟨g,j,none⟩ u) v l :=
  row_set h g j u (fun k hk=>by have:=h.ge k hk;omega)
theorem OwnI.olderC {base:Nat} {w:World} {v:Value} {l:List Int} (h:OwnI base w v l) {g:Nat} (hg:g < base) (j:Nat) (u:Value):OwnI base (w.setCell ⟨g,j,none⟩ u) v l :=
  row_set h g j u (fun k hk=>by have:=h.ge k hk;omega)
theorem Blk.setC {W:World} {B:Nat} {t:TypeId} {cs:List Value} (h:Blk W B t cs) (j:Nat) (u:Value):Blk (W.setCell ⟨B,j,none⟩ u) B t (cs.set j u):=by
  have e:=heap_setCell_same W B j cs.toArray t u h
  simpa [Blk] using e
theorem Blk.otherC {W:World} {B:Nat} {t:TypeId} {cs:List Value} (h:Blk W B t cs) (g j:Nat) (u:Value) (hne:B ≠ g):Blk (W.setCell ⟨g,j,none⟩ u) B t cs:=(heap_setCell_other W ⟨g,j,none⟩ B u hne).trans h
theorem toTc_any (r:Int) (vw vh:Value) (ws:List ByteArray) (hs:List Int) (w:World) (hrw:RdS w vw ws) (hrh:RdI w vh hs) (hlw:ws.length<=4000000) (hlh:hs.length<=4000000) :
    Calls Try.prog 62 #[tcV r vw vh] w fun en w'=>∃ vw' vh',en=.returned (tcV r vw' vh')/\OwnS w.heap.size w' vw' ws/\OwnI w.heap.size w' vh' hs/\Below w.heap.size w w':=by
  obtain ⟨aw,cw,rfl⟩:=hrw.shape
  obtain ⟨ah,ch,rfl⟩:=hrh.shape
  have Hrw:=hide hrw
  have Hrh:=hide hrh
  clear hrw hrh
  simp only [tcV] at *
  go_enter Try.func62,Try.ntmps62
  go_wp2_with fail
  obtain ⟨w3,hw3⟩:∃ w3,((w.alloc (.cells #[.int .i64 r,.slice aw ws.length cw,.slice ah hs.length ch] 82)).alloc (.cells #[.int .i64 0,.slice none 0 0,.slice none 0 0] 57)).alloc (.cells #[.int .i64 r,.slice none 0 0,.slice none 0 0] 57)=w3:=⟨_,rfl⟩
  rw [hw3]
  have hb3:Below w.heap.size w w3:=by rw [<- hw3];exact (((Below.refl _ w).alloc (Nat.le_refl _) _).alloc (by simp) _).alloc (by simp;omega) _
  have hs3:w3.heap.size=w.heap.size+3:=by rw [<- hw3];simp
  have kP:Blk w3 w.heap.size 82 [.int .i64 r,.slice aw ws.length cw,.slice ah hs.length ch]:=by
    rw [<- hw3]
    exact (Blk.new w 82 [.int .i64 r,.slice aw ws.length cw,.slice ah hs.length ch]).below (((Below.refl (w.heap.size+1) _).alloc (by simp) _).alloc (by simp) _) (by omega)
  have kO:Blk w3 (w.heap.size+1+1) 57 [.int .i64 r,.slice none 0 0,.slice none 0 0]:=by
    rw [<- hw3]
    have h:=Blk.new ((w.alloc (.cells #[.int .i64 r,.slice aw ws.length cw,.slice ah hs.length ch] 82)).alloc (.cells #[.int .i64 0,.slice none 0 0,.slice none 0 0] 57)) 57 [.int .i64 r,.slice none 0 0,.slice none 0 0]
    simp only [World.size_alloc] at h
    exact h
  have kR:Blk w3 (w.heap.size+1) 57 [.int .i64 0,.slice none 0 0,.slice none 0 0]:=by
    rw [<- hw3]
    have h:=Blk.new (w.alloc (.cells #[.int .i64 r,.slice aw ws.length cw,.slice ah hs.length ch] 82)) 57 [.int .i64 0,.slice none 0 0,.slice none 0 0]
    simp only [World.size_alloc] at h
    exact h.below ((Below.refl (w.heap.size+2) _).alloc (by simp) _) (by omega)
  refine (toStringS_any _ ws _ (Hrw.out.below hb3 (Nat.le_refl _)) hlw).mono ?_
  rintro en w4 ⟨v4,rfl,o4,hb4⟩
  obtain ⟨a4,c4,rfl⟩:=o4.rd.shape
  have kP4:=kP.below hb4 (by omega)
  have kO4:=kO.below hb4 (by omega)
  have kR4:=kR.below hb4 (by omega)
  have hs4:=hb4.size
  have c0:=kO4.cell 0
  have c1:=kO4.cell 1
  have c2:=kO4.cell 2
  have g1:=kO4.frozen 1
  have p2:=kP4.cell 2
  simp only [List.getElem?_cons_zero,List.getElem?_cons_succ] at c0 c1 c2 p2
  obtain ⟨w5,hw5⟩:∃ x,w4.setCell ⟨w.heap.size+1+1,1,none⟩ (.slice a4 ws.length c4)=x:=⟨_,rfl⟩
  have kO5:Blk w5 (w.heap.size+1+1) 57 [.int .i64 r,.slice a4 ws.length c4,.slice none 0 0]:=by rw [<- hw5];exact kO4.setC 1 _
  have kR5:Blk w5 (w.heap.size+1) 57 [.int .i64 0,.slice none 0 0,.slice none 0 0]:=by rw [<- hw5];exact kR4.otherC _ 1 _ (by omega)
  have kP5:Blk w5 w.heap.size 82 [.int .i64 r,.slice aw ws.length cw,.slice ah hs.length ch]:=by rw [<- hw5];exact kP4.otherC _ 1 _ (by omega)
  have o5:OwnS w3.heap.size w5 (.slice a4 ws.length c4) ws:=by rw [<- hw5];exact o4.olderC (by omega) _ _
  have hb5:Below w.heap.size w w5:=by rw [<- hw5];exact (hb3.trans (hb4.mono hb3.size)).setCell (p:=⟨w.heap.size+1+1,1,none⟩) (show w.heap.size<=w.heap.size+1+1 by omega) _
  have hs5:w5.heap.size=w4.heap.size:=by rw [<- hw5];simp
  have HI:=hide (toIntS_any _ hs w5 (Hrh.out.below hb5 (Nat.le_refl _)) hlh)
  have q2:=kP5.cell 2
  simp only [List.getElem?_cons_zero,List.getElem?_cons_succ] at q2
  have O5:=hide o5
  have KO:=hide kO5
  have KR:=hide kR5
  have HB:=hide hb5
  have HS:=hide hs5
  clear o4 hb4 kO kR kP kO4 kR4 kP4 hw3 hb3 o5 kO5 kR5 kP5 hb5 hs5
  go_wp2_with fail
  refine HI.out.mono ?_
  rintro en w6 ⟨v6,rfl,o6,hb6⟩
  obtain ⟨a6,c6,rfl⟩:=o6.rd.shape
  have hs5:=HS.out
  have k6:=KO.out.below hb6 KO.out.lt
  have r6:=KR.out.below hb6 KR.out.lt
  have d0:=k6.cell 0
  have d1:=k6.cell 1
  have d2:=k6.cell 2
  have f2:=k6.frozen 2
  have e0:=r6.cell 0
  have e1:=r6.cell 1
  have e2:=r6.cell 2
  have f3:=r6.frozen 0
  have f4:=r6.frozen 1
  have f5:=r6.frozen 2
  simp only [List.getElem?_cons_zero,List.getElem?_cons_succ] at d0 d1 d2 e0 e1 e2
  have HoW:=hide (((((O5.out.below hb6 (Nat.le_refl _)).olderC (g:=w.heap.size+1+1) (by omega) 2 (.slice a6 hs.length c6)).olderC (g:=w.heap.size+1) (by omega) 0 (.int .i64 r)).olderC (g:=w.heap.size+1) (by omega) 1 (.slice a4 ws.length c4)).olderC (g:=w.heap.size+1) (by omega) 2 (.slice a6 hs.length c6))
  have HoH:=hide ((((o6.olderC (g:=w.heap.size+1+1) (by omega) 2 (.slice a6 hs.length c6)).olderC (g:=w.heap.size+1) (by omega) 0 (.int .i64 r)).olderC (g:=w.heap.size+1) (by omega) 1 (.slice a4 ws.length c4)).olderC (g:=w.heap.size+1) (by omega) 2 (.slice a6 hs.length c6))
  have HB6:=hide (((((HB.out.trans (hb6.mono HB.out.size)).setCell (p:=⟨w.heap.size+1+1,2,none⟩) (show w.heap.size<=w.heap.size+1+1 by omega) (.slice a6 hs.length c6)).setCell (p:=⟨w.heap.size+1,0,none⟩) (show w.heap.size<=w.heap.size+1 by omega) (.int .i64 r)).setCell (p:=⟨w.heap.size+1,1,none⟩) (show w.heap.size<=w.heap.size+1 by omega) (.slice a4 ws.length c4)).setCell (p:=⟨w.heap.size+1,2,none⟩) (show w.heap.size<=w.heap.size+1 by omega) (.slice a6 hs.length c6))
  have hb3:w.heap.size<=w3.heap.size:=by omega
  have hb4:w.heap.size<=w5.heap.size:=by omega
  clear o6 hb6 k6 r6 hs5 O5 HI
  go_wp2
  refine bodyPost_ret (v:=.agg #[.int .i64 r,.slice a4 ws.length c4,.slice a6 hs.length c6]) (by simp [results,Try.f62,go_sem,e0,e1,e2]) rfl ?_
  exact ⟨_,_,rfl,HoW.out.mono hb3,HoH.out.mono hb4,HB6.out⟩
theorem eqTc_any (r:Int) (vw1 vh1 vw2 vh2:Value) (ws:List ByteArray) (hs:List Int) (w:World) (h1:RdS w vw1 ws) (h2:RdI w vh1 hs) (h3:RdS w vw2 ws) (h4:RdI w vh2 hs) (hlw:ws.length<=4000000) (hlh:hs.length<=4000000) :
    Calls Try.prog 73 #[tcV r vw1 vh1,tcV r vw2 vh2] w fun en w'=>en=.returned (.bool true)/\Below w.heap.size w w':=by
  obtain ⟨a1,c1,rfl⟩:=h1.shape
  obtain ⟨a2,c2,rfl⟩:=h2.shape
  obtain ⟨a3,c3,rfl⟩:=h3.shape
  obtain ⟨a4,c4,rfl⟩:=h4.shape
  simp only [tcV] at *
  obtain ⟨w2,hw2⟩:∃ w2,(w.alloc (.cells #[.int .i64 r,.slice a1 ws.length c1,.slice a2 hs.length c2] 57)).alloc (.cells #[.int .i64 r,.slice a3 ws.length c3,.slice a4 hs.length c4] 57)=w2:=⟨_,rfl⟩
  have hb2:Below w.heap.size w w2:=by rw [<- hw2];exact ((Below.refl _ w).alloc (Nat.le_refl _) _).alloc (by simp) _
  have kA:Blk w2 w.heap.size 57 [.int .i64 r,.slice a1 ws.length c1,.slice a2 hs.length c2]:=by
    rw [<- hw2]
    exact (Blk.new w 57 [.int .i64 r,.slice a1 ws.length c1,.slice a2 hs.length c2]).below ((Below.refl (w.heap.size+1) _).alloc (by simp) _) (by omega)
  have kB:Blk w2 (w.heap.size+1) 57 [.int .i64 r,.slice a3 ws.length c3,.slice a4 hs.length c4]:=by
    rw [<- hw2]
    have h:=Blk.new (w.alloc (.cells #[.int .i64 r,.slice a1 ws.length c1,.slice a2 hs.length c2] 57)) 57 [.int .i64 r,.slice a3 ws.length c3,.slice a4 hs.length c4]
    simp only [World.size_alloc] at h
    exact h
  have HE:=hide (eqStringS_any _ _ ws ws w2 (h1.below hb2 (Nat.le_refl _)) (h3.below hb2 (Nat.le_refl _)) hlw hlw)
  rw [decide_eq_true rfl] at HE
  have HF:=hide (fun V (hb:Below w.heap.size w V)=>eqIntS_any (.slice a2 hs.length c2) (.slice a4 hs.length c4) hs hs V (h2.below hb (Nat.le_refl _)) (h4.below hb (Nat.le_refl _)) hlh hlh)
  rw [decide_eq_true rfl] at HF
  have x0:=kA.cell 0
  have x1:=kA.cell 1
  have x2:=kA.cell 2
  have y0:=kB.cell 0
  have y1:=kB.cell 1
  have y2:=kB.cell 2
  simp only [List.getElem?_cons_zero,List.getElem?_cons_succ] at x0 x1 x2 y0 y1 y2
  clear h1 h2 h3 h4
  go_enter Try.func73,Try.ntmps73
  go_wp2_with fail
  refine HE.out.mono ?_
  rintro en w3 ⟨rfl,hb3⟩
  have kA3:=kA.below (hb3 w2.heap.size) kA.lt
  have kB3:=kB.below (hb3 w2.heap.size) kB.lt
  have hB3:=hb2.trans (hb3 w.heap.size)
  have u2:=kA3.cell 2
  have z2:=kB3.cell 2
  simp only [List.getElem?_cons_zero,List.getElem?_cons_succ] at u2 z2
  clear x0 x1 x2 y0 y1 y2 kA kB kA3 kB3 hb3
  go_wp2_with fail
  refine (HF.out _ hB3).mono ?_
  rintro en w4 ⟨rfl,hb4⟩
  have hB4:=hB3.trans (hb4 w.heap.size)
  go_wp2
  go_ret
  exact ⟨rfl,hB4⟩
def highI (hs:List Int):Int:=hs.foldl (fun n x=>if n < x then x else n) 0
end Go.Proofs.Ytfdbedenlbikgaa
