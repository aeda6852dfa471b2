/- Those who vote, a name and a weight each, over plain data and in memory. -/
import Derived.Test.YtaidhenkijjcfaaGreatRows
import Derived.WalkKit
import Derived.ProofKit
import Derived.WalkSpells
import Derived.WalkLawsBesides
import Derived.Outline
import Derived.Deep.QuietTactic
import Derived.BigQuiet
set_option maxRecDepth 20000
set_option maxHeartbeats 1000000
namespace Go.Proofs.YtaidhenkijjcfaaGreat
open Go.RowKit
set_option linter.unusedVariables false
theorem hide {p:Prop} (h:p):Hid p:=h
theorem ret_bool {a b:Bool} (h:a=b):Ending.returned (.bool a)=.returned (.bool b):=by rw [h]
theorem ret_int {k:IntKind} {a b:Int} (h:a=b):Ending.returned (.int k a)=.returned (.int k b):=by rw [h]
def cb (c:UInt8):Value:=.int .u8 (c.toNat:Int)
def RdB (w:World) (v:Value) (l:List UInt8):Prop :=
  (∃ a cap,v=.slice a 0 cap/\l=[]/\(a=none->cap=0)) \/
  ∃ b off cap,l ≠ []/\v=.slice (some ⟨b,off,none⟩) l.length cap/\l.length<=cap/\cap<=maxLen/\b < w.heap.size/\∀ i (h:i < l.length),w.cell? ⟨b,off+i,none⟩=some (.int .u8 (l[i].toNat:Int))
def OwnB (base:Nat) (w:World) (v:Value) (l:List UInt8):Prop:=w.ownsRow base 5 1 v l.length (l.map cb)
def Sm (w w':World):Prop:=∀ B,Below B w w'
theorem Sm.refl (w:World):Sm w w:=fun B=>Below.refl B w
theorem Sm.drewN {a b:World} (h:Sm a b) (n:Nat):Sm a (b.drewN n):=fun B=>below_drewN (h B) n
theorem Sm.cell {a b:World} (h:Sm a b) (p:Addr):b.cell? p=a.cell? p:=(h (p.block+1)).cell (by omega)
theorem take_eq_snoc {α:Type} {l1 l2:List α} {k:Nat} (h1:k < l1.length) (h2:k < l2.length) (h:l1.take k=l2.take k) (he:l1[k]=l2[k]):l1.take (k+1)=l2.take (k+1):=by
  rw [List.take_succ_eq_append_getElem h1,List.take_succ_eq_append_getElem h2,h,he]
theorem flat_len {α:Type} (sz:Nat):∀ (L:List (List α)),(∀ x ∈ L,x.length=sz)->L.flatten.length=L.length * sz
  | [],_=>by simp
  | x :: L,h=>by
    rw [List.flatten_cons,List.length_append,flat_len sz L (fun y hy=>h y (List.mem_cons_of_mem _ hy)),h x (List.mem_cons_self),List.length_cons,Nat.add_mul,Nat.one_mul]
    omega
theorem flat_get {α:Type} (sz:Nat):∀ (L:List (List α)) (i j:Nat) (hi:i < L.length),(∀ x ∈ L,x.length=sz)->j < sz->L.flatten[i * sz+j]?=L[i][j]?
  | [],i,j,hi,_,_=>by simp at hi
  | x :: L,i,j,hi,h,hj=>by
    have hx:=h x (List.mem_cons_self)
    cases i with
    | zero =>
      rw [List.flatten_cons,Nat.zero_mul,Nat.zero_add,List.getElem?_append_left (by omega)]
      rfl
    | succ i =>
      rw [List.flatten_cons,List.getElem?_append_right (by rw [hx,Nat.add_mul];omega),hx,show (i+1) * sz+j - sz=i * sz+j from by rw [Nat.add_mul];omega]
      exact flat_get sz L i j (by simpa using hi) (fun y hy=>h y (List.mem_cons_of_mem _ hy)) hj
theorem flat_set {α:Type} (sz:Nat) (u:α):∀ (L:List (List α)) (i j:Nat) (hi:i < L.length),(∀ x ∈ L,x.length=sz)->j < sz->L.flatten.set (i * sz+j) u=(L.set i (L[i].set j u)).flatten
  | [],i,j,hi,_,_=>by simp at hi
  | x :: L,i,j,hi,h,hj=>by
    have hx:=h x (List.mem_cons_self)
    cases i with
    | zero =>
      rw [List.flatten_cons,Nat.zero_mul,Nat.zero_add,List.set_append_left _ _ (by omega)]
      rfl
    | succ i =>
      rw [List.flatten_cons,List.set_append_right _ _ (by rw [hx,Nat.add_mul];omega),hx,show (i+1) * sz+j - sz=i * sz+j from by rw [Nat.add_mul];omega]
      rw [flat_set sz u L i j (by simpa using hi) (fun y hy=>h y (List.mem_cons_of_mem _ hy)) hj]
      rfl
def part {α β:Type} (f:α->List β) (z:List β) (l:List α) (k:Nat):List (List β):=(l.take k).map f ++ List.replicate (l.length - k) z
theorem part_len {α β:Type} (f:α->List β) (z:List β) (l:List α) (k:Nat) (hk:k<=l.length):(part f z l k).length=l.length:=by simp [part];omega
theorem part_zero {α β:Type} (f:α->List β) (z:List β) (l:List α):part f z l 0=List.replicate l.length z:=by simp [part]
theorem part_all {α β:Type} (f:α->List β) (z:List β) (l:List α):part f z l l.length=l.map f:=by simp [part]
theorem part_at {α β:Type} (f:α->List β) (z:List β) (l:List α) (k:Nat) (hk:k < l.length):(part f z l k)[k]'(by rw [part_len f z l k (by omega)];exact hk)=z:=by
  unfold part
  rw [List.getElem_append_right (by simp;omega)]
  simp
theorem part_next {α β:Type} (f:α->List β) (z:List β) (l:List α) (k:Nat) (hk:k < l.length):(part f z l k).set k (f l[k])=part f z l (k+1):=by
  unfold part
  rw [List.take_succ_eq_append_getElem hk,List.set_append_right _ _ (by simp;omega),show l.length - k=(l.length - (k+1))+1 from by omega,List.replicate_succ,show k - ((l.take k).map f).length=0 from by simp;omega]
  simp only [List.map_append,List.map_cons,List.map_nil,List.set_cons_zero,List.append_assoc,List.singleton_append]
theorem part_sz {α β:Type} (sz:Nat) (f:α->List β) (z:List β) (l:List α) (k:Nat) (hf:∀ a,(f a).length=sz) (hz:z.length=sz):∀ x ∈ part f z l k,x.length=sz:=by
  intro x hx
  unfold part at hx
  rcases List.mem_append.1 hx with h | h
  · obtain ⟨a,_,rfl⟩:=List.mem_map.1 h;exact hf a
  · rw [(List.mem_replicate.1 h).2];exact hz
theorem made_flat (zs:Array Value) (sz n:Nat) (hz:zs.size=sz) (h0:0 < sz):(madeCells zs (n * sz)).toList=(List.replicate n zs.toList).flatten:=by
  have hr:∀ x ∈ List.replicate n zs.toList,x.length=sz:=fun x hx=>by rw [(List.mem_replicate.1 hx).2];simpa using hz
  apply List.ext_getElem?
  intro t
  by_cases ht:t < n * sz
  · have h1:t / sz < n:=by rw [Nat.div_lt_iff_lt_mul h0];exact ht
    have h2:t % sz < sz:=Nat.mod_lt _ h0
    have e:=flat_get sz (List.replicate n zs.toList) (t / sz) (t % sz) (by simpa using h1) hr h2
    rw [show t / sz * sz+t % sz=t from by rw [Nat.mul_comm];exact Nat.div_add_mod t sz] at e
    rw [e]
    have h3:t % sz < zs.size:=by rw [hz];exact h2
    simp [madeCells,ht,hz]
    rw [getElem!_pos zs _ h3,Array.getElem?_eq_getElem h3]
  · rw [List.getElem?_eq_none (by simp [madeCells];omega),List.getElem?_eq_none (by rw [flat_len sz _ hr];simp;omega)]
def Blk (W:World) (B:Nat) (t:TypeId) (cs:List Value):Prop:=W.heap[B]?=some (.cells cs.toArray t (0,0))
theorem Blk.lt {W:World} {B:Nat} {t:TypeId} {cs:List Value} (h:Blk W B t cs):B < W.heap.size:=(Array.getElem?_eq_some_iff.1 h).1
theorem Blk.cell {W:World} {B:Nat} {t:TypeId} {cs:List Value} (h:Blk W B t cs) (j:Nat):W.cell? ⟨B,j,none⟩=cs[j]?:=by simp [World.cell?,show W.heap[B]?=_ from h]
theorem Blk.frozen {W:World} {B:Nat} {t:TypeId} {cs:List Value} (h:Blk W B t cs) (j:Nat):W.frozen? ⟨B,j,none⟩=false:=by simp [World.frozen?,show W.heap[B]?=_ from h]
theorem Blk.new (W:World) (t:TypeId) (cs:List Value):Blk (W.alloc (.cells cs.toArray t)) W.heap.size t cs:=heap_alloc_new W _
theorem Blk.below {W V:World} {B K:Nat} {t:TypeId} {cs:List Value} (h:Blk W B t cs) (hb:Below K W V) (hK:B < K):Blk V B t cs:=(hb.block B hK).trans h
theorem grown_set (w:World) (g j:Nat) (u:Value):w.grownBy (w.setCell ⟨g,j,none⟩ u) (some g) :=
  ⟨rfl,rfl,rfl,by simp,fun k _ hk=>heap_setCell_other w ⟨g,j,none⟩ k u (fun e=>hk (by simp [e]))⟩
theorem row_set {base:Nat} {w:World} {e:TypeId} {size:Nat} {v:Value} {n:Nat} {xs:List Value} (h:w.ownsRow base e size v n xs) (g j:Nat) (u:Value) (hne:∀ k,v.ownBlock=some k->k ≠ g):(w.setCell ⟨g,j,none⟩ u).ownsRow base e size v n xs:=by
  refine World.ownsRow.kept h (grown_set w g j u) ?_
  cases hv:v.ownBlock with
  | none=>exact .inl rfl
  | some k=>exact .inr (fun e=>hne k hv (by injection e))
theorem row_below {B base:Nat} {w w':World} {e:TypeId} {size:Nat} {v:Value} {n:Nat} {xs:List Value} (h:w.ownsRow base e size v n xs) (hb:Below B w w') (hB:w.heap.size<=B):w'.ownsRow base e size v n xs:=by
  refine ⟨h.1,?_⟩
  rcases h.2 with h' | ⟨g,cap,cur,hv,hbb,hg,r⟩
  · exact .inl h'
  · refine .inr ⟨g,cap,cur,hv,hbb,?_,r⟩
    have hlt:g < w.heap.size:=(Array.getElem?_eq_some_iff.1 hg).1
    rw [hb.block g (by omega)];exact hg
theorem flat_put2 {α:Type} (L:List (List α)) (i:Nat) (a b:α) (hi:i < L.length) (h:∀ x ∈ L,x.length=2):(L.flatten.set (i * 2) a).set (i * 2+1) b=(L.set i [a,b]).flatten:=by
  have e0:=flat_set 2 a L i 0 hi h (by omega)
  rw [Nat.add_zero] at e0
  have hL:∀ x ∈ L.set i (L[i].set 0 a),x.length=2:=fun x hx=>by
    rcases List.mem_or_eq_of_mem_set hx with h' | rfl
    · exact h x h'
    · simpa using h L[i] (List.getElem_mem hi)
  rw [e0,flat_set 2 b _ i 1 (by simpa using hi) hL (by omega)]
  have hl:=h L[i] (List.getElem_mem hi)
  congr 1
  rw [List.set_set]
  congr 1
  simp only [List.getElem_set_self]
  match hx:L[i],hl with
  | [x,y],_=>rfl
def prt {α:Type} (L:List (List α)) (z:List α) (n:Nat):List (List α):=L ++ List.replicate (n - L.length) z
theorem prt_len {α:Type} (L:List (List α)) (z:List α) (n:Nat) (h:L.length<=n):(prt L z n).length=n:=by simp [prt];omega
theorem prt_zero {α:Type} (z:List α) (n:Nat):prt [] z n=List.replicate n z:=by simp [prt]
theorem prt_all {α:Type} (L:List (List α)) (z:List α) (n:Nat) (h:L.length=n):prt L z n=L:=by simp [prt,h]
theorem prt_at {α:Type} (L:List (List α)) (z:List α) (n k:Nat) (hk:k=L.length) (h:k < n):(prt L z n)[k]'(by rw [prt_len L z n (by omega)];exact h)=z:=by
  subst hk
  unfold prt
  rw [List.getElem_append_right (Nat.le_refl _)]
  simp
theorem prt_next {α:Type} (L:List (List α)) (z x:List α) (n k:Nat) (hk:k=L.length) (h:k < n):(prt L z n).set k x=prt (L ++ [x]) z n:=by
  subst hk
  unfold prt
  rw [List.set_append_right _ _ (Nat.le_refl _),Nat.sub_self,show n - L.length=(n - (L ++ [x]).length)+1 from by simp;omega,List.replicate_succ,List.set_cons_zero,List.append_assoc]
  rfl
theorem prt_sz {α:Type} (sz:Nat) (L:List (List α)) (z:List α) (n:Nat) (hL:∀ x ∈ L,x.length=sz) (hz:z.length=sz):∀ x ∈ prt L z n,x.length=sz:=by
  intro x hx
  rcases List.mem_append.1 hx with h | h
  · exact hL x h
  · rw [(List.mem_replicate.1 h).2];exact hz
theorem flat_put5 {α:Type} (L:List (List α)) (i:Nat) (a b c d e:α) (hi:i < L.length) (h:∀ x ∈ L,x.length=5):((((L.flatten.set (i * 5) a).set (i * 5+1) b).set (i * 5+2) c).set (i * 5+3) d).set (i * 5+4) e=(L.set i [a,b,c,d,e]).flatten:=by
  have st:∀ (M:List (List α)) (y:List α) (j:Nat) (u:α),M.length=L.length->(∀ x ∈ M,x.length=5)->y.length=5->j < 5->(M.set i y).flatten.set (i * 5+j) u=(M.set i (y.set j u)).flatten:=by
    intro M y j u hM hx hy hj
    have hS:∀ x ∈ M.set i y,x.length=5:=fun x hm=>by
      rcases List.mem_or_eq_of_mem_set hm with h' | rfl
      · exact hx x h'
      · exact hy
    rw [flat_set 5 u (M.set i y) i j (by rw [List.length_set,hM];exact hi) hS hj,List.set_set]
    simp only [List.getElem_set_self]
  have hl:=h L[i] (List.getElem_mem hi)
  have e0:L=L.set i L[i]:=by simp
  have r0:=st L L[i] 0 a rfl h hl (by omega)
  rw [<- e0,Nat.add_zero] at r0
  rw [r0,st L _ 1 b rfl h (by simp [hl]) (by omega),st L _ 2 c rfl h (by simp [hl]) (by omega),st L _ 3 d rfl h (by simp [hl]) (by omega),st L _ 4 e rfl h (by simp [hl]) (by omega)]
  congr 2
  match hx:L[i],hl with
  | [y0,y1,y2,y3,y4],_=>rfl
theorem rows_apart {w:World} {b1 b2:Nat} {e1 e2:TypeId} {s1 s2:Nat} {v1 v2:Value} {n1 n2:Nat} {x1 x2:List Value} (h1:w.ownsRow b1 e1 s1 v1 n1 x1) (h2:w.ownsRow b2 e2 s2 v2 n2 x2) (he:e1 ≠ e2):∀ g,v2.ownBlock=some g->v1.ownBlock ≠ some g:=by
  intro g hg2 hg1
  rcases h1.2 with ⟨rfl,-⟩ | ⟨g1,c1,u1,rfl,-,k1,-⟩
  · simp [Value.ownBlock] at hg1
  · rcases h2.2 with ⟨rfl,-⟩ | ⟨g2,c2,u2,rfl,-,k2,-⟩
    · simp [Value.ownBlock] at hg2
    · simp only [Value.ownBlock,Option.some.injEq] at hg1 hg2
      subst hg1 hg2
      rw [k1] at k2
      simp only [Option.some.injEq,Obj.cells.injEq] at k2
      exact he k2.2.1
def tot (ls:List ByteArray):Nat:=(ls.map (fun s=>s.size)).sum
theorem tot_take:∀ (ls:List ByteArray) (k:Nat),tot (ls.take k)<=tot ls:=by
  intro ls
  induction ls with
  | nil=>intro k;simp [tot]
  | cons s t ih =>
    intro k
    cases k with
    | zero=>simp [tot]
    | succ k =>
      have:=ih k
      simp only [tot,List.take_succ_cons,List.map_cons,List.sum_cons] at this ⊢
      omega
def RdS (w:World) (v:Value) (l:List ByteArray):Prop :=
  (∃ a cap,v=.slice a 0 cap/\l=[]/\(a=none->cap=0)) \/
  ∃ b off cap,l ≠ []/\v=.slice (some ⟨b,off,none⟩) l.length cap/\l.length<=cap/\cap<=maxLen/\b < w.heap.size/\∀ i (h:i < l.length),w.cell? ⟨b,off+i,none⟩=some (.string l[i])
theorem RdS.shape {w:World} {v:Value} {l:List ByteArray} (h:RdS w v l):∃ a cap,v=.slice a l.length cap:=by
  rcases h with ⟨a,cap,rfl,rfl,-⟩ | ⟨b,off,cap,h0,rfl,_⟩
  · exact ⟨a,cap,rfl⟩
  · exact ⟨_,cap,rfl⟩
theorem RdS.below {B:Nat} {w w':World} {v:Value} {l:List ByteArray} (h:RdS w v l) (hb:Below B w w') (hB:w.heap.size<=B):RdS w' v l:=by
  rcases h with h | ⟨b,off,cap,h0,hv,h1,h2,h3,h4⟩
  · exact .inl h
  · exact .inr ⟨b,off,cap,h0,hv,h1,h2,by have:=hb.size;omega,fun i hi=>(hb.cell (p:=⟨b,off+i,none⟩) (by show b < B;omega)).trans (h4 i hi)⟩
def OwnS (base:Nat) (w:World) (v:Value) (l:List ByteArray):Prop:=w.ownsRow base 9 1 v l.length (l.map Value.string)
theorem OwnS.rd {base:Nat} {w:World} {v:Value} {l:List ByteArray} (h:OwnS base w v l):RdS w v l:=by
  rcases h.2 with ⟨hv,hn⟩ | ⟨g,cap,cur,hv,hb,hg,hnc,hcm,hcs,ht⟩
  · exact .inl ⟨none,0,hv,List.length_eq_zero_iff.1 hn,fun _=>rfl⟩
  · by_cases hl:l=[]
    · subst hl;exact .inl ⟨_,_,hv,rfl,fun h=>by cases h⟩
    · refine .inr ⟨g,0,cap,hl,hv,hnc,hcm,?_,?_⟩
      · exact (Array.getElem?_eq_some_iff.1 hg).1
      · intro i hi
        have h':w.ownsRow base 9 1 (.slice (some ⟨g,0,none⟩) l.length cap) l.length (l.map Value.string):=hv ▸ h
        rw [show 0+i=i from by omega,h'.cellAt i (by omega)]
        simp [hi]
theorem OwnS.below {B base:Nat} {w w':World} {v:Value} {l:List ByteArray} (h:OwnS base w v l) (hb:Below B w w') (hB:w.heap.size<=B):OwnS base w' v l:=by
  refine ⟨h.1,?_⟩
  rcases h.2 with h' | ⟨g,cap,cur,hv,hbb,hg,r⟩
  · exact .inl h'
  · refine .inr ⟨g,cap,cur,hv,hbb,?_,r⟩
    have hlt:g < w.heap.size:=(Array.getElem?_eq_some_iff.1 hg).1
    rw [hb.block g (by omega)];exact hg
theorem OwnS.mono {base base':Nat} {w:World} {v:Value} {l:List ByteArray} (h:OwnS base w v l) (hB:base'<=base):OwnS base' w v l:=by
  refine ⟨h.1,?_⟩
  rcases h.2 with h' | ⟨g,cap,cur,hv,hbb,r⟩
  · exact .inl h'
  · exact .inr ⟨g,cap,cur,hv,by omega,r⟩
theorem OwnS.ge {base:Nat} {w:World} {v:Value} {l:List ByteArray} (h:OwnS base w v l):∀ k,v.ownBlock=some k->base<=k:=fun k hk=>(World.ownsRow.lt h k hk).1
theorem Tryz.infoStr:(Tryz.prog.info? 9).map (fun i=>(i.zero,i.size,i.bytes))=some (some (.string ByteArray.empty),1,16):=by kernel_rfl
theorem gen_set {α:Type} (M l:List α) (f:α->Value) (j:Nat) (hM:M.length=l.length) (h:j < M.length):((M.take j ++ l.drop j).map f).set j (f M[j])=(M.take (j+1) ++ l.drop (j+1)).map f:=by
  rw [List.take_succ_eq_append_getElem h,List.drop_eq_getElem_cons (show j < l.length from by omega)]
  simp only [List.map_append,List.map_cons,List.append_assoc,List.singleton_append]
  rw [List.set_append_right _ _ (by simp;omega)]
  simp [show min j M.length=j from by omega]
theorem bytes_ne {a b:ByteArray} (h:a ≠ b):(a.toList == b.toList)=false:=by
  rw [beq_eq_false_iff_ne]
  intro e
  rw [ByteArray.toList_eq,ByteArray.toList_eq] at e
  exact h (ByteArray.ext (Array.toList_inj.1 e))
abbrev Vl:=ByteArray × Int
def RdV (w:World) (v:Value) (l:List Vl):Prop :=
  (∃ a cap,v=.slice a 0 cap/\l=[]/\(a=none->cap=0)) \/
  ∃ b off cap,l ≠ []/\v=.slice (some ⟨b,off,none⟩) l.length cap/\l.length<=cap/\cap<=maxLen/\b < w.heap.size /\
    ∀ i (h:i < l.length),w.cell? ⟨b,off+i * 2,none⟩=some (.string l[i].1)/\w.cell? ⟨b,off+i * 2+1,none⟩=some (.int .i64 l[i].2)
theorem RdV.shape {w:World} {v:Value} {l:List Vl} (h:RdV w v l):∃ a cap,v=.slice a l.length cap:=by
  rcases h with ⟨a,cap,rfl,rfl,-⟩ | ⟨b,off,cap,h0,rfl,_⟩
  · exact ⟨a,cap,rfl⟩
  · exact ⟨_,cap,rfl⟩
theorem RdV.below {B:Nat} {w w':World} {v:Value} {l:List Vl} (h:RdV w v l) (hb:Below B w w') (hB:w.heap.size<=B):RdV w' v l:=by
  rcases h with h | ⟨b,off,cap,h0,hv,h1,h2,h3,h4⟩
  · exact .inl h
  · exact .inr ⟨b,off,cap,h0,hv,h1,h2,by have:=hb.size;omega,fun i hi=>⟨(hb.cell (p:=⟨b,off+i * 2,none⟩) (by show b < B;omega)).trans (h4 i hi).1,(hb.cell (p:=⟨b,off+i * 2+1,none⟩) (by show b < B;omega)).trans (h4 i hi).2⟩⟩
def vlC (p:Vl):List Value:=[.string p.1,.int .i64 p.2]
def OwnV (base:Nat) (w:World) (v:Value) (l:List Vl):Prop:=w.ownsRow base 100 2 v l.length (l.map vlC).flatten
theorem Tryz.infoVl:(Tryz.prog.info? 100).map (fun i=>(i.zero,i.size,i.bytes))=some (some (.agg #[.string { data:=#[] },.int .i64 0]),2,24):=by kernel_rfl
theorem vlC_sz (p:Vl):(vlC p).length=2:=rfl
theorem vlP_sz (l:List Vl) (k:Nat):∀ x ∈ part vlC [Value.string { data:=#[] },Value.int .i64 0] l k,x.length=2:=part_sz 2 _ _ _ _ vlC_sz rfl
theorem vlM_sz (l:List Vl):∀ x ∈ l.map vlC,x.length=2:=fun x hx=>by obtain ⟨p,_,rfl⟩:=List.mem_map.1 hx;rfl
theorem OwnV.rd {base:Nat} {w:World} {v:Value} {l:List Vl} (h:OwnV base w v l):RdV w v l:=by
  rcases h.2 with ⟨hv,hn⟩ | ⟨g,cap,cur,hv,hb,hg,hnc,hcm,hcs,ht⟩
  · exact .inl ⟨none,0,hv,List.length_eq_zero_iff.1 hn,fun _=>rfl⟩
  · by_cases hl:l=[]
    · subst hl;exact .inl ⟨_,_,hv,rfl,fun h=>by cases h⟩
    · refine .inr ⟨g,0,cap,hl,hv,hnc,hcm,(Array.getElem?_eq_some_iff.1 hg).1,?_⟩
      intro i hi
      have h':w.ownsRow base 100 2 (.slice (some ⟨g,0,none⟩) l.length cap) l.length (l.map vlC).flatten:=hv ▸ h
      have e0:=flat_get 2 (l.map vlC) i 0 (by simpa using hi) (vlM_sz l) (by omega)
      have e1:=flat_get 2 (l.map vlC) i 1 (by simpa using hi) (vlM_sz l) (by omega)
      rw [Nat.zero_add,h'.cellAt (i * 2) (by omega),h'.cellAt (i * 2+1) (by omega)]
      rw [Nat.add_zero] at e0
      rw [e0,e1]
      simp [vlC]
theorem OwnV.mono {base base':Nat} {w:World} {v:Value} {l:List Vl} (h:OwnV base w v l) (hB:base'<=base):OwnV base' w v l:=by
  refine ⟨h.1,?_⟩
  rcases h.2 with h' | ⟨g,cap,cur,hv,hbb,r⟩
  · exact .inl h'
  · exact .inr ⟨g,cap,cur,hv,by omega,r⟩
theorem OwnV.ge {base:Nat} {w:World} {v:Value} {l:List Vl} (h:OwnV base w v l):∀ k,v.ownBlock=some k->base<=k:=fun k hk=>(World.ownsRow.lt h k hk).1
theorem OwnV.lt {base:Nat} {w:World} {v:Value} {l:List Vl} (h:OwnV base w v l):∀ k,v.ownBlock=some k->k < w.heap.size:=fun k hk=>(World.ownsRow.lt h k hk).2
theorem OwnV.below {B base:Nat} {w w':World} {v:Value} {l:List Vl} (h:OwnV base w v l) (hb:Below B w w') (hB:w.heap.size<=B):OwnV base w' v l:=row_below h hb hB
theorem toVal_any (x:ByteArray) (y:Int) (w:World):Calls Tryz.prog 95 #[.agg #[.string x,.int .i64 y]] w fun e w'=>e=.returned (.agg #[.string x,.int .i64 y])/\Below w.heap.size w w':=by
  go_enter Tryz.func95,Tryz.ntmps95
  go_wp2
  refine bodyPost_ret (v:=.agg #[.string x,.int .i64 y]) (by simp [results,Tryz.f95,go_sem]) rfl ?_
  exact ⟨rfl,((((Below.refl _ w).alloc (Nat.le_refl _) _).alloc (by simp) _).alloc (by simp;omega) _)⟩
theorem toValS_any (v:Value) (l:List Vl) (w:World) (hr:RdV w v l) (hl:l.length<=4000000) :
    Calls Tryz.prog 37 #[v] w fun e w'=>∃ v',e=.returned v'/\OwnV w.heap.size w' v' l/\Below w.heap.size w w':=by
  obtain ⟨i0,hi,hz0,hz1,hz2⟩:=info_parts Tryz.infoVl
  rcases hr with ⟨a,cap,rfl,rfl,-⟩ | ⟨b,off,cap,h0,rfl,h1,h2,h3,h4⟩
  · go_enter Tryz.func37,Tryz.ntmps37
    go_wp2_with (refine wpList_make_full _ rfl _ _ 33 rfl w.heap.size 100 i0 (.agg #[.string { data:=#[] },.int .i64 0]) 2 Tryz.underlying33 hi hz0 hz1 .i64 .i64 _ _ 0 rfl rfl rfl rfl (by omega) (by unfold maxLen;omega) (Nat.le_refl _) ?_;intro w1 hown hgrow)
    have hb1:Below w.heap.size w w1:=(Below.refl _ _).grown hgrow (Nat.le_refl _) (by intro k hk;cases hk)
    refine wp_loop_rounds 1 ?_
    rw [rounds_succ]
    go_wp2
    go_ret
    have ho':OwnV w.heap.size w1 (.slice (some ⟨w.heap.size,0,none⟩) 0 0) []:=by
      have e:=made_flat (Value.agg #[.string { data:=#[] },.int .i64 0]).cells 2 0 rfl (by omega)
      rw [e] at hown
      exact hown
    exact ⟨_,rfl,ho',hb1⟩
  · go_enter Tryz.func37,Tryz.ntmps37
    go_wp2_with (refine wpList_make_full _ rfl _ _ 33 rfl w.heap.size 100 i0 (.agg #[.string { data:=#[] },.int .i64 0]) 2 Tryz.underlying33 hi hz0 hz1 .i64 .i64 _ _ l.length rfl rfl rfl rfl (by rw [hz2];omega) (by unfold maxLen;omega) (Nat.le_refl _) ?_;intro w1 hown hgrow)
    have hb1:Below w.heap.size w w1:=(Below.refl _ _).grown hgrow (Nat.le_refl _) (by intro k hk;cases hk)
    go_loopw [4] (fun i wr=>∃ k:Nat,k<=l.length/\i=.int .i64 k/\wr.ownsRow w.heap.size 100 2 (.slice (some ⟨w.heap.size,0,none⟩) l.length l.length) l.length (part vlC [Value.string { data:=#[] },Value.int .i64 0] l k).flatten/\Below w.heap.size w wr)
      (fun i _=>l.length - (intOf i).toNat)
    case atStart =>
      refine ⟨0,Nat.zero_le _,rfl,?_,hb1⟩
      rw [part_zero]
      have e:=made_flat (Value.agg #[.string { data:=#[] },.int .i64 0]).cells 2 l.length rfl (by omega)
      rw [e] at hown
      exact hown
    case round =>
      obtain ⟨k,hk,rfl,ho,hb⟩:=hrel
      clear hown hgrow hb1
      by_cases hlt:k < l.length
      · obtain ⟨d1,d2⟩:=h4 k hlt
        have hc1:wr.cell? ⟨b,off+k * 2,none⟩=some (.string l[k].1):=(hb.cell (p:=⟨b,off+k * 2,none⟩) h3).trans d1
        have hc2:wr.cell? ⟨b,off+k * 2+1,none⟩=some (.int .i64 l[k].2):=(hb.cell (p:=⟨b,off+k * 2+1,none⟩) h3).trans d2
        have hli:(k:Int) < (l.length:Int):=by omega
        have Hput:=hide (flat_put2 (part vlC [Value.string { data:=#[] },Value.int .i64 0] l k) k (.string l[k].1) (.int .i64 l[k].2) (by rw [part_len _ _ _ _ hk];exact hlt) (vlP_sz l k))
        have Hnext:=hide (part_next vlC [Value.string { data:=#[] },Value.int .i64 0] l k hlt)
        have Hz0:=hide (flat_get 2 (part vlC [Value.string { data:=#[] },Value.int .i64 0] l k) k 0 (by rw [part_len _ _ _ _ hk];exact hlt) (vlP_sz l k) (by omega))
        have Hz1:=hide (flat_get 2 (part vlC [Value.string { data:=#[] },Value.int .i64 0] l k) k 1 (by rw [part_len _ _ _ _ hk];exact hlt) (vlP_sz l k) (by omega))
        rw [part_at _ _ _ _ hlt] at Hz0 Hz1
        have Hvl:Hid (vlC l[k]=[.string l[k].1,.int .i64 l[k].2]):=hide rfl
        have hlb:w.heap.size < wr.heap.size:=((World.ownsRow.lt ho w.heap.size rfl)).2
        clear d1 d2 h4
        generalize l[k].1=x at hc1 Hput Hvl
        generalize l[k].2=y at hc2 Hput Hvl
        go_wp2_with (go_at_call 95;refine (toVal_any _ _ _).mono ?_;rintro e w2 ⟨rfl,hb2⟩;have ho2:=row_below ho hb2 (Nat.le_refl _);have q0:=ho2.cellAt (k * 2) (by omega);have q1:=ho2.cellAt (k * 2+1) (by omega);have f0:=ho2.frozenAt (k * 2);have f1:=ho2.frozenAt (k * 2+1);rw [<- Nat.add_zero (k * 2),Hz0.out] at q0;rw [Hz1.out] at q1;rw [Nat.add_zero] at q0;simp only [List.getElem?_cons_zero,List.getElem?_cons_succ] at q0 q1)
        go_roundw
        case rel =>
          refine ⟨k+1,by omega,by go_num,?_,((hb.trans (hb2.mono hb.size)).setCell (p:=⟨w.heap.size,k * 2,none⟩) (Nat.le_refl _) _).setCell (p:=⟨w.heap.size,k * 2+1,none⟩) (Nat.le_refl _) _⟩
          have s1:=(ho2.stored (k * 2) (.string x)).1
          have s2:=(s1.stored (k * 2+1) (.int .i64 y)).1
          rw [Hput.out,<- Hvl.out,Hnext.out] at s2
          exact s2
        case measure=>simp [intOf];omega
      · have e:k=l.length:=by omega
        subst e
        rw [part_all] at ho
        go_wp2
        go_ret
        exact ⟨_,rfl,ho,hb⟩
end Go.Proofs.YtaidhenkijjcfaaGreat
