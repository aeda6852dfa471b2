/- What leaves, held against each other; its size. -/
import Derived.Test.YthidkbhiikdokaaGreatRows
import Derived.WalkKit
import Derived.ProofKit
import Derived.WalkSpells
import Derived.WalkLawsBesides
import Derived.Outline
import Derived.Deep.QuietTactic
import Derived.BigQuiet
import Derived.Deep.RegionHeldLaw
set_option maxRecDepth 20000
set_option maxHeartbeats 1000000
namespace Go.Proofs.YthidkbhiikdokaaGreat
open Go.RowKit
set_option linter.unusedVariables false
theorem hide {p:Prop} (h:p):Hid p:=h
theorem ret_bool {a b:Bool} (h:a=b):Ending.returned (.bool a)=.returned (.bool b):=by rw [h]
theorem ret_int {k:IntKind} {a b:Int} (h:a=b):Ending.returned (.int k a)=.returned (.int k b):=by rw [h]
def cb (c:UInt8):Value:=.int .u8 (c.toNat:Int)
def RdB (w:World) (v:Value) (l:List UInt8):Prop :=
  (∃ a cap,v=.slice a 0 cap/\l=[]/\(a=none->cap=0)) \/
  ∃ b off cap,l ≠ []/\v=.slice (some ⟨b,off,none⟩) l.length cap/\l.length<=cap/\cap<=maxLen/\b < w.heap.size/\∀ i (h:i < l.length),w.cell? ⟨b,off+i,none⟩=some (.int .u8 (l[i].toNat:Int))
def OwnB (base:Nat) (w:World) (v:Value) (l:List UInt8):Prop:=w.ownsRow base 5 1 v l.length (l.map cb)
def Sm (w w':World):Prop:=∀ B,Below B w w'
theorem Sm.refl (w:World):Sm w w:=fun B=>Below.refl B w
theorem Sm.drewN {a b:World} (h:Sm a b) (n:Nat):Sm a (b.drewN n):=fun B=>below_drewN (h B) n
theorem Sm.cell {a b:World} (h:Sm a b) (p:Addr):b.cell? p=a.cell? p:=(h (p.block+1)).cell (by omega)
theorem take_eq_snoc {α:Type} {l1 l2:List α} {k:Nat} (h1:k < l1.length) (h2:k < l2.length) (h:l1.take k=l2.take k) (he:l1[k]=l2[k]):l1.take (k+1)=l2.take (k+1):=by
  rw [List.take_succ_eq_append_getElem h1,List.take_succ_eq_append_getElem h2,h,he]
theorem flat_len {α:Type} (sz:Nat):∀ (L:List (List α)),(∀ x ∈ L,x.length=sz)->L.flatten.length=L.length * sz
  | [],_=>by simp
  | x :: L,h=>by
    rw [List.flatten_cons,List.length_append,flat_len sz L (fun y hy=>h y (List.mem_cons_of_mem _ hy)),h x (List.mem_cons_self),List.length_cons,Nat.add_mul,Nat.one_mul]
    omega
theorem flat_get {α:Type} (sz:Nat):∀ (L:List (List α)) (i j:Nat) (hi:i < L.length),(∀ x ∈ L,x.length=sz)->j < sz->L.flatten[i * sz+j]?=L[i][j]?
  | [],i,j,hi,_,_=>by simp at hi
  | x :: L,i,j,hi,h,hj=>by
    have hx:=h x (List.mem_cons_self)
    cases i with
    | zero =>
      rw [List.flatten_cons,Nat.zero_mul,Nat.zero_add,List.getElem?_append_left (by omega)]
      rfl
    | succ i =>
      rw [List.flatten_cons,List.getElem?_append_right (by rw [hx,Nat.add_mul];omega),hx,show (i+1) * sz+j - sz=i * sz+j from by rw [Nat.add_mul];omega]
      exact flat_get sz L i j (by simpa using hi) (fun y hy=>h y (List.mem_cons_of_mem _ hy)) hj
theorem flat_set {α:Type} (sz:Nat) (u:α):∀ (L:List (List α)) (i j:Nat) (hi:i < L.length),(∀ x ∈ L,x.length=sz)->j < sz->L.flatten.set (i * sz+j) u=(L.set i (L[i].set j u)).flatten
  | [],i,j,hi,_,_=>by simp at hi
  | x :: L,i,j,hi,h,hj=>by
    have hx:=h x (List.mem_cons_self)
    cases i with
    | zero =>
      rw [List.flatten_cons,Nat.zero_mul,Nat.zero_add,List.set_append_left _ _ (by omega)]
      rfl
    | succ i =>
      rw [List.flatten_cons,List.set_append_right _ _ (by rw [hx,Nat.add_mul];omega),hx,show (i+1) * sz+j - sz=i * sz+j from by rw [Nat.add_mul];omega]
      rw [flat_set sz u L i j (by simpa using hi) (fun y hy=>h y (List.mem_cons_of_mem _ hy)) hj]
      rfl
def part {α β:Type} (f:α->List β) (z:List β) (l:List α) (k:Nat):List (List β):=(l.take k).map f ++ List.replicate (l.length - k) z
theorem part_len {α β:Type} (f:α->List β) (z:List β) (l:List α) (k:Nat) (hk:k<=l.length):(part f z l k).length=l.length:=by simp [part];omega
theorem part_zero {α β:Type} (f:α->List β) (z:List β) (l:List α):part f z l 0=List.replicate l.length z:=by simp [part]
theorem part_all {α β:Type} (f:α->List β) (z:List β) (l:List α):part f z l l.length=l.map f:=by simp [part]
theorem part_at {α β:Type} (f:α->List β) (z:List β) (l:List α) (k:Nat) (hk:k < l.length):(part f z l k)[k]'(by rw [part_len f z l k (by omega)];exact hk)=z:=by
  unfold part
  rw [List.getElem_append_right (by simp;omega)]
  simp
theorem part_next {α β:Type} (f:α->List β) (z:List β) (l:List α) (k:Nat) (hk:k < l.length):(part f z l k).set k (f l[k])=part f z l (k+1):=by
  unfold part
  rw [List.take_succ_eq_append_getElem hk,List.set_append_right _ _ (by simp;omega),show l.length - k=(l.length - (k+1))+1 from by omega,List.replicate_succ,show k - ((l.take k).map f).length=0 from by simp;omega]
  simp only [List.map_append,List.map_cons,List.map_nil,List.set_cons_zero,List.append_assoc,List.singleton_append]
theorem part_sz {α β:Type} (sz:Nat) (f:α->List β) (z:List β) (l:List α) (k:Nat) (hf:∀ a,(f a).length=sz) (hz:z.length=sz):∀ x ∈ part f z l k,x.length=sz:=by
  intro x hx
  unfold part at hx
  rcases List.mem_append.1 hx with h | h
  · obtain ⟨a,_,rfl⟩:=List.mem_map.1 h;exact hf a
  · rw [(List.mem_replicate.1 h).2];exact hz
theorem made_flat (zs:Array Value) (sz n:Nat) (hz:zs.size=sz) (h0:0 < sz):(madeCells zs (n * sz)).toList=(List.replicate n zs.toList).flatten:=by
  have hr:∀ x ∈ List.replicate n zs.toList,x.length=sz:=fun x hx=>by rw [(List.mem_replicate.1 hx).2];simpa using hz
  apply List.ext_getElem?
  intro t
  by_cases ht:t < n * sz
  · have h1:t / sz < n:=by rw [Nat.div_lt_iff_lt_mul h0];exact ht
    have h2:t % sz < sz:=Nat.mod_lt _ h0
    have e:=flat_get sz (List.replicate n zs.toList) (t / sz) (t % sz) (by simpa using h1) hr h2
    rw [show t / sz * sz+t % sz=t from by rw [Nat.mul_comm];exact Nat.div_add_mod t sz] at e
    rw [e]
    have h3:t % sz < zs.size:=by rw [hz];exact h2
    simp [madeCells,ht,hz]
    rw [getElem!_pos zs _ h3,Array.getElem?_eq_getElem h3]
  · rw [List.getElem?_eq_none (by simp [madeCells];omega),List.getElem?_eq_none (by rw [flat_len sz _ hr];simp;omega)]
def Blk (W:World) (B:Nat) (t:TypeId) (cs:List Value):Prop:=W.heap[B]?=some (.cells cs.toArray t (0,0))
theorem Blk.lt {W:World} {B:Nat} {t:TypeId} {cs:List Value} (h:Blk W B t cs):B < W.heap.size:=(Array.getElem?_eq_some_iff.1 h).1
theorem Blk.cell {W:World} {B:Nat} {t:TypeId} {cs:List Value} (h:Blk W B t cs) (j:Nat):W.cell? ⟨B,j,none⟩=cs[j]?:=by simp [World.cell?,show W.heap[B]?=_ from h]
theorem Blk.frozen {W:World} {B:Nat} {t:TypeId} {cs:List Value} (h:Blk W B t cs) (j:Nat):W.frozen? ⟨B,j,none⟩=false:=by simp [World.frozen?,show W.heap[B]?=_ from h]
theorem Blk.new (W:World) (t:TypeId) (cs:List Value):Blk (W.alloc (.cells cs.toArray t)) W.heap.size t cs:=heap_alloc_new W _
theorem Blk.below {W V:World} {B K:Nat} {t:TypeId} {cs:List Value} (h:Blk W B t cs) (hb:Below K W V) (hK:B < K):Blk V B t cs:=(hb.block B hK).trans h
theorem grown_set (w:World) (g j:Nat) (u:Value):w.grownBy (w.setCell ⟨g,j,none⟩ u) (some g) :=
  ⟨rfl,rfl,rfl,by simp,fun k _ hk=>heap_setCell_other w ⟨g,j,none⟩ k u (fun e=>hk (by simp [e]))⟩
theorem row_set {base:Nat} {w:World} {e:TypeId} {size:Nat} {v:Value} {n:Nat} {xs:List Value} (h:w.ownsRow base e size v n xs) (g j:Nat) (u:Value) (hne:∀ k,v.ownBlock=some k->k ≠ g):(w.setCell ⟨g,j,none⟩ u).ownsRow base e size v n xs:=by
  refine World.ownsRow.kept h (grown_set w g j u) ?_
  cases hv:v.ownBlock with
  | none=>exact .inl rfl
  | some k=>exact .inr (fun e=>hne k hv (by injection e))
theorem row_below {B base:Nat} {w w':World} {e:TypeId} {size:Nat} {v:Value} {n:Nat} {xs:List Value} (h:w.ownsRow base e size v n xs) (hb:Below B w w') (hB:w.heap.size<=B):w'.ownsRow base e size v n xs:=by
  refine ⟨h.1,?_⟩
  rcases h.2 with h' | ⟨g,cap,cur,hv,hbb,hg,r⟩
  · exact .inl h'
  · refine .inr ⟨g,cap,cur,hv,hbb,?_,r⟩
    have hlt:g < w.heap.size:=(Array.getElem?_eq_some_iff.1 hg).1
    rw [hb.block g (by omega)];exact hg
theorem flat_put2 {α:Type} (L:List (List α)) (i:Nat) (a b:α) (hi:i < L.length) (h:∀ x ∈ L,x.length=2):(L.flatten.set (i * 2) a).set (i * 2+1) b=(L.set i [a,b]).flatten:=by
  have e0:=flat_set 2 a L i 0 hi h (by omega)
  rw [Nat.add_zero] at e0
  have hL:∀ x ∈ L.set i (L[i].set 0 a),x.length=2:=fun x hx=>by
    rcases List.mem_or_eq_of_mem_set hx with h' | rfl
    · exact h x h'
    · simpa using h L[i] (List.getElem_mem hi)
  rw [e0,flat_set 2 b _ i 1 (by simpa using hi) hL (by omega)]
  have hl:=h L[i] (List.getElem_mem hi)
  congr 1
  rw [List.set_set]
  congr 1
  simp only [List.getElem_set_self]
  match hx:L[i],hl with
  | [x,y],_=>rfl
def prt {α:Type} (L:List (List α)) (z:List α) (n:Nat):List (List α):=L ++ List.replicate (n - L.length) z
theorem prt_len {α:Type} (L:List (List α)) (z:List α) (n:Nat) (h:L.length<=n):(prt L z n).length=n:=by simp [prt];omega
theorem prt_zero {α:Type} (z:List α) (n:Nat):prt [] z n=List.replicate n z:=by simp [prt]
theorem prt_all {α:Type} (L:List (List α)) (z:List α) (n:Nat) (h:L.length=n):prt L z n=L:=by simp [prt,h]
theorem prt_at {α:Type} (L:List (List α)) (z:List α) (n k:Nat) (hk:k=L.length) (h:k < n):(prt L z n)[k]'(by rw [prt_len L z n (by omega)];exact h)=z:=by
  subst hk
  unfold prt
  rw [List.getElem_append_right (Nat.le_refl _)]
  simp
theorem prt_next {α:Type} (L:List (List α)) (z x:List α) (n k:Nat) (hk:k=L.length) (h:k < n):(prt L z n).set k x=prt (L ++ [x]) z n:=by
  subst hk
  unfold prt
  rw [List.set_append_right _ _ (Nat.le_refl _),Nat.sub_self,show n - L.length=(n - (L ++ [x]).length)+1 from by simp;omega,List.replicate_succ,List.set_cons_zero,List.append_assoc]
  rfl
theorem prt_sz {α:Type} (sz:Nat) (L:List (List α)) (z:List α) (n:Nat) (hL:∀ x ∈ L,x.length=sz) (hz:z.length=sz):∀ x ∈ prt L z n,x.length=sz:=by
  intro x hx
  rcases List.mem_append.1 hx with h | h
  · exact hL x h
  · rw [(List.mem_replicate.1 h).2];exact hz
theorem flat_put5 {α:Type} (L:List (List α)) (i:Nat) (a b c d e:α) (hi:i < L.length) (h:∀ x ∈ L,x.length=5):((((L.flatten.set (i * 5) a).set (i * 5+1) b).set (i * 5+2) c).set (i * 5+3) d).set (i * 5+4) e=(L.set i [a,b,c,d,e]).flatten:=by
  have st:∀ (M:List (List α)) (y:List α) (j:Nat) (u:α),M.length=L.length->(∀ x ∈ M,x.length=5)->y.length=5->j < 5->(M.set i y).flatten.set (i * 5+j) u=(M.set i (y.set j u)).flatten:=by
    intro M y j u hM hx hy hj
    have hS:∀ x ∈ M.set i y,x.length=5:=fun x hm=>by
      rcases List.mem_or_eq_of_mem_set hm with h' | rfl
      · exact hx x h'
      · exact hy
    rw [flat_set 5 u (M.set i y) i j (by rw [List.length_set,hM];exact hi) hS hj,List.set_set]
    simp only [List.getElem_set_self]
  have hl:=h L[i] (List.getElem_mem hi)
  have e0:L=L.set i L[i]:=by simp
  have r0:=st L L[i] 0 a rfl h hl (by omega)
  rw [<- e0,Nat.add_zero] at r0
  rw [r0,st L _ 1 b rfl h (by simp [hl]) (by omega),st L _ 2 c rfl h (by simp [hl]) (by omega),st L _ 3 d rfl h (by simp [hl]) (by omega),st L _ 4 e rfl h (by simp [hl]) (by omega)]
  congr 2
  match hx:L[i],hl with
  | [y0,y1,y2,y3,y4],_=>rfl
theorem rows_apart {w:World} {b1 b2:Nat} {e1 e2:TypeId} {s1 s2:Nat} {v1 v2:Value} {n1 n2:Nat} {x1 x2:List Value} (h1:w.ownsRow b1 e1 s1 v1 n1 x1) (h2:w.ownsRow b2 e2 s2 v2 n2 x2) (he:e1 ≠ e2):∀ g,v2.ownBlock=some g->v1.ownBlock ≠ some g:=by
  intro g hg2 hg1
  rcases h1.2 with ⟨rfl,-⟩ | ⟨g1,c1,u1,rfl,-,k1,-⟩
  · simp [Value.ownBlock] at hg1
  · rcases h2.2 with ⟨rfl,-⟩ | ⟨g2,c2,u2,rfl,-,k2,-⟩
    · simp [Value.ownBlock] at hg2
    · simp only [Value.ownBlock,Option.some.injEq] at hg1 hg2
      subst hg1 hg2
      rw [k1] at k2
      simp only [Option.some.injEq,Obj.cells.injEq] at k2
      exact he k2.2.1
def RdL (w:World) (v:Value) (l:List (Int × Int)):Prop :=
  (∃ a cap,v=.slice a 0 cap/\l=[]/\(a=none->cap=0)) \/
  ∃ b off cap,l ≠ []/\v=.slice (some ⟨b,off,none⟩) l.length cap/\l.length<=cap/\cap<=maxLen/\b < w.heap.size /\
    ∀ i (h:i < l.length),w.cell? ⟨b,off+i * 2,none⟩=some (.int .i64 l[i].1)/\w.cell? ⟨b,off+i * 2+1,none⟩=some (.int .i64 l[i].2)
theorem RdL.shape {w:World} {v:Value} {l:List (Int × Int)} (h:RdL w v l):∃ a cap,v=.slice a l.length cap:=by
  rcases h with ⟨a,cap,rfl,rfl,-⟩ | ⟨b,off,cap,h0,rfl,_⟩
  · exact ⟨a,cap,rfl⟩
  · exact ⟨_,cap,rfl⟩
theorem RdL.below {B:Nat} {w w':World} {v:Value} {l:List (Int × Int)} (h:RdL w v l) (hb:Below B w w') (hB:w.heap.size<=B):RdL w' v l:=by
  rcases h with h | ⟨b,off,cap,h0,hv,h1,h2,h3,h4⟩
  · exact .inl h
  · exact .inr ⟨b,off,cap,h0,hv,h1,h2,by have:=hb.size;omega,fun i hi=>⟨(hb.cell (p:=⟨b,off+i * 2,none⟩) (by show b < B;omega)).trans (h4 i hi).1,(hb.cell (p:=⟨b,off+i * 2+1,none⟩) (by show b < B;omega)).trans (h4 i hi).2⟩⟩
def lvC (p:Int × Int):List Value:=[.int .i64 p.1,.int .i64 p.2]
def OwnL (base:Nat) (w:World) (v:Value) (l:List (Int × Int)):Prop:=w.ownsRow base 135 2 v l.length (l.map lvC).flatten
theorem Tryz.infoLv:(Tryz.prog.info? 135).map (fun i=>(i.zero,i.size,i.bytes))=some (some (.agg #[.int .i64 0,.int .i64 0]),2,16):=by kernel_rfl
theorem lvC_sz (p:Int × Int):(lvC p).length=2:=rfl
theorem lvP_sz (l:List (Int × Int)) (k:Nat):∀ x ∈ part lvC [Value.int .i64 0,Value.int .i64 0] l k,x.length=2:=part_sz 2 _ _ _ _ lvC_sz rfl
theorem lvM_sz (l:List (Int × Int)):∀ x ∈ l.map lvC,x.length=2:=fun x hx=>by obtain ⟨p,_,rfl⟩:=List.mem_map.1 hx;rfl
theorem OwnL.rd {base:Nat} {w:World} {v:Value} {l:List (Int × Int)} (h:OwnL base w v l):RdL w v l:=by
  rcases h.2 with ⟨hv,hn⟩ | ⟨g,cap,cur,hv,hb,hg,hnc,hcm,hcs,ht⟩
  · exact .inl ⟨none,0,hv,List.length_eq_zero_iff.1 hn,fun _=>rfl⟩
  · by_cases hl:l=[]
    · subst hl;exact .inl ⟨_,_,hv,rfl,fun h=>by cases h⟩
    · refine .inr ⟨g,0,cap,hl,hv,hnc,hcm,(Array.getElem?_eq_some_iff.1 hg).1,?_⟩
      intro i hi
      have h':w.ownsRow base 135 2 (.slice (some ⟨g,0,none⟩) l.length cap) l.length (l.map lvC).flatten:=hv ▸ h
      have e0:=flat_get 2 (l.map lvC) i 0 (by simpa using hi) (lvM_sz l) (by omega)
      have e1:=flat_get 2 (l.map lvC) i 1 (by simpa using hi) (lvM_sz l) (by omega)
      rw [Nat.zero_add,h'.cellAt (i * 2) (by omega),h'.cellAt (i * 2+1) (by omega)]
      rw [Nat.add_zero] at e0
      rw [e0,e1]
      simp [lvC]
theorem OwnL.mono {base base':Nat} {w:World} {v:Value} {l:List (Int × Int)} (h:OwnL base w v l) (hB:base'<=base):OwnL base' w v l:=by
  refine ⟨h.1,?_⟩
  rcases h.2 with h' | ⟨g,cap,cur,hv,hbb,r⟩
  · exact .inl h'
  · exact .inr ⟨g,cap,cur,hv,by omega,r⟩
theorem OwnL.ge {base:Nat} {w:World} {v:Value} {l:List (Int × Int)} (h:OwnL base w v l):∀ k,v.ownBlock=some k->base<=k:=fun k hk=>(World.ownsRow.lt h k hk).1
theorem OwnL.lt {base:Nat} {w:World} {v:Value} {l:List (Int × Int)} (h:OwnL base w v l):∀ k,v.ownBlock=some k->k < w.heap.size:=fun k hk=>(World.ownsRow.lt h k hk).2
theorem OwnL.below {B base:Nat} {w w':World} {v:Value} {l:List (Int × Int)} (h:OwnL base w v l) (hb:Below B w w') (hB:w.heap.size<=B):OwnL base w' v l:=row_below h hb hB
theorem OwnL.kept {base:Nat} {w w':World} {v:Value} {l:List (Int × Int)} {row:Option Nat} (h:OwnL base w v l) (hg:w.grownBy w' row) (hne:v.ownBlock=none\/v.ownBlock ≠ row):OwnL base w' v l:=World.ownsRow.kept h hg hne
theorem toLeave_any (x y:Int) (w:World):Calls Tryz.prog 101 #[.agg #[.int .i64 x,.int .i64 y]] w fun e w'=>e=.returned (.agg #[.int .i64 x,.int .i64 y])/\Below w.heap.size w w':=by
  go_enter Tryz.func101,Tryz.ntmps101
  go_wp2
  refine bodyPost_ret (v:=.agg #[.int .i64 x,.int .i64 y]) (by simp [results,Tryz.f101,go_sem]) rfl ?_
  exact ⟨rfl,((((Below.refl _ w).alloc (Nat.le_refl _) _).alloc (by simp) _).alloc (by simp;omega) _)⟩
theorem toLeaveS_any (v:Value) (l:List (Int × Int)) (w:World) (hr:RdL w v l) (hl:l.length<=4000000) :
    Calls Tryz.prog 82 #[v] w fun e w'=>∃ v',e=.returned v'/\OwnL w.heap.size w' v' l/\Below w.heap.size w w':=by
  obtain ⟨i0,hi,hz0,hz1,hz2⟩:=info_parts Tryz.infoLv
  rcases hr with ⟨a,cap,rfl,rfl,-⟩ | ⟨b,off,cap,h0,rfl,h1,h2,h3,h4⟩
  · go_enter Tryz.func82,Tryz.ntmps82
    go_wp2_with (refine wpList_make_full _ rfl _ _ 51 rfl w.heap.size 135 i0 (.agg #[.int .i64 0,.int .i64 0]) 2 Tryz.underlying51 hi hz0 hz1 .i64 .i64 _ _ 0 rfl rfl rfl rfl (by omega) (by unfold maxLen;omega) (Nat.le_refl _) ?_;intro w1 hown hgrow)
    have hb1:Below w.heap.size w w1:=(Below.refl _ _).grown hgrow (Nat.le_refl _) (by intro k hk;cases hk)
    refine wp_loop_rounds 1 ?_
    rw [rounds_succ]
    go_wp2
    go_ret
    have ho':OwnL w.heap.size w1 (.slice (some ⟨w.heap.size,0,none⟩) 0 0) []:=by
      have e:=made_flat (Value.agg #[.int .i64 0,.int .i64 0]).cells 2 0 rfl (by omega)
      rw [e] at hown
      exact hown
    exact ⟨_,rfl,ho',hb1⟩
  · go_enter Tryz.func82,Tryz.ntmps82
    go_wp2_with (refine wpList_make_full _ rfl _ _ 51 rfl w.heap.size 135 i0 (.agg #[.int .i64 0,.int .i64 0]) 2 Tryz.underlying51 hi hz0 hz1 .i64 .i64 _ _ l.length rfl rfl rfl rfl (by rw [hz2];omega) (by unfold maxLen;omega) (Nat.le_refl _) ?_;intro w1 hown hgrow)
    have hb1:Below w.heap.size w w1:=(Below.refl _ _).grown hgrow (Nat.le_refl _) (by intro k hk;cases hk)
    go_loopw [4] (fun i wr=>∃ k:Nat,k<=l.length/\i=.int .i64 k/\wr.ownsRow w.heap.size 135 2 (.slice (some ⟨w.heap.size,0,none⟩) l.length l.length) l.length (part lvC [Value.int .i64 0,Value.int .i64 0] l k).flatten/\Below w.heap.size w wr)
      (fun i _=>l.length - (intOf i).toNat)
    case atStart =>
      refine ⟨0,Nat.zero_le _,rfl,?_,hb1⟩
      rw [part_zero]
      have e:=made_flat (Value.agg #[.int .i64 0,.int .i64 0]).cells 2 l.length rfl (by omega)
      rw [e] at hown
      exact hown
    case round =>
      obtain ⟨k,hk,rfl,ho,hb⟩:=hrel
      clear hown hgrow hb1
      by_cases hlt:k < l.length
      · obtain ⟨d1,d2⟩:=h4 k hlt
        have hc1:wr.cell? ⟨b,off+k * 2,none⟩=some (.int .i64 l[k].1):=(hb.cell (p:=⟨b,off+k * 2,none⟩) h3).trans d1
        have hc2:wr.cell? ⟨b,off+k * 2+1,none⟩=some (.int .i64 l[k].2):=(hb.cell (p:=⟨b,off+k * 2+1,none⟩) h3).trans d2
        have hli:(k:Int) < (l.length:Int):=by omega
        have Hput:=hide (flat_put2 (part lvC [Value.int .i64 0,Value.int .i64 0] l k) k (.int .i64 l[k].1) (.int .i64 l[k].2) (by rw [part_len _ _ _ _ hk];exact hlt) (lvP_sz l k))
        have Hnext:=hide (part_next lvC [Value.int .i64 0,Value.int .i64 0] l k hlt)
        have Hz0:=hide (flat_get 2 (part lvC [Value.int .i64 0,Value.int .i64 0] l k) k 0 (by rw [part_len _ _ _ _ hk];exact hlt) (lvP_sz l k) (by omega))
        have Hz1:=hide (flat_get 2 (part lvC [Value.int .i64 0,Value.int .i64 0] l k) k 1 (by rw [part_len _ _ _ _ hk];exact hlt) (lvP_sz l k) (by omega))
        rw [part_at _ _ _ _ hlt] at Hz0 Hz1
        have Hlv:Hid (lvC l[k]=[.int .i64 l[k].1,.int .i64 l[k].2]):=hide rfl
        have hlb:w.heap.size < wr.heap.size:=((World.ownsRow.lt ho w.heap.size rfl)).2
        clear d1 d2 h4
        generalize l[k].1=x at hc1 Hput Hlv
        generalize l[k].2=y at hc2 Hput Hlv
        go_wp2_with (go_at_call 101;refine (toLeave_any _ _ _).mono ?_;rintro e w2 ⟨rfl,hb2⟩;have ho2:=row_below ho hb2 (Nat.le_refl _);have q0:=ho2.cellAt (k * 2) (by omega);have q1:=ho2.cellAt (k * 2+1) (by omega);have f0:=ho2.frozenAt (k * 2);have f1:=ho2.frozenAt (k * 2+1);rw [<- Nat.add_zero (k * 2),Hz0.out] at q0;rw [Hz1.out] at q1;rw [Nat.add_zero] at q0;simp only [List.getElem?_cons_zero,List.getElem?_cons_succ] at q0 q1)
        go_roundw
        case rel =>
          refine ⟨k+1,by omega,by go_num,?_,((hb.trans (hb2.mono hb.size)).setCell (p:=⟨w.heap.size,k * 2,none⟩) (Nat.le_refl _) _).setCell (p:=⟨w.heap.size,k * 2+1,none⟩) (Nat.le_refl _) _⟩
          have s1:=(ho2.stored (k * 2) (.int .i64 x)).1
          have s2:=(s1.stored (k * 2+1) (.int .i64 y)).1
          rw [Hput.out,<- Hlv.out,Hnext.out] at s2
          exact s2
        case measure=>simp [intOf];omega
      · have e:k=l.length:=by omega
        subst e
        rw [part_all] at ho
        go_wp2
        go_ret
        exact ⟨_,rfl,ho,hb⟩
theorem eqLeave_any (p q:Int × Int) (w:World):Calls Tryz.prog 106 #[.agg #[.int .i64 p.1,.int .i64 p.2],.agg #[.int .i64 q.1,.int .i64 q.2]] w fun e w'=>e=.returned (.bool (decide (p=q)))/\Below w.heap.size w w':=by
  obtain ⟨a,b⟩:=p
  obtain ⟨c,d⟩:=q
  have hB:=hide (((Below.refl _ w).alloc (Nat.le_refl _) (.cells #[.int .i64 a,.int .i64 b] 135)).alloc (by simp) (.cells #[.int .i64 c,.int .i64 d] 135))
  by_cases h1:a=c
  · subst h1
    by_cases h2:b=d
    · subst h2
      go_enter Tryz.func106,Tryz.ntmps106
      go_wp2
      go_ret
      exact ⟨by simp,hB.out⟩
    · have Hd:Hid (decide ((a,b)=(a,d))=false):=hide (by rw [decide_eq_false];intro e;injection e with _ e;exact h2 e)
      have hq:(b != d)=true:=by rw [bne_iff_ne];exact h2
      clear h2
      go_enter Tryz.func106,Tryz.ntmps106
      go_wp2
      go_ret
      exact ⟨ret_bool Hd.out.symm,hB.out⟩
  · have Hd:Hid (decide ((a,b)=(c,d))=false):=hide (by rw [decide_eq_false];intro e;injection e with e _;exact h1 e)
    have hq:(a != c)=true:=by rw [bne_iff_ne];exact h1
    clear h1
    go_enter Tryz.func106,Tryz.ntmps106
    go_wp2
    go_ret
    exact ⟨ret_bool Hd.out.symm,hB.out⟩
theorem eqLeaveS_any (v1 v2:Value) (l1 l2:List (Int × Int)) (w:World) (hr1:RdL w v1 l1) (hr2:RdL w v2 l2) (hl1:l1.length<=4000000) (hl2:l2.length<=4000000) :
    Calls Tryz.prog 98 #[v1,v2] w fun e w'=>e=.returned (.bool (decide (l1=l2)))/\Below w.heap.size w w':=by
  by_cases hne:l1.length=l2.length
  · rcases hr1 with ⟨a,cap,rfl,rfl,-⟩ | ⟨b,off,cap,h0,rfl,h1,h2,h3,h4⟩
    · have e2:l2=[]:=List.length_eq_zero_iff.1 (by simpa using hne.symm)
      subst e2
      obtain ⟨a2,cap2,rfl⟩:=hr2.shape
      clear hr2
      go_enter Tryz.func98,Tryz.ntmps98
      go_wp2
      refine wp_loop_rounds 1 ?_
      rw [rounds_succ]
      go_wp2
      go_ret
      exact ⟨rfl,Below.refl _ _⟩
    · rcases hr2 with ⟨a2,cap2,rfl,rfl,-⟩ | ⟨b2,off2,cap2,g0,rfl,g1,g2,g3,g4⟩
      · exact absurd (List.length_eq_zero_iff.1 (by simpa using hne)) h0
      · have Hne:=hide hne
        have hlen:((l1.length:Int) != (l2.length:Int))=false:=by rw [hne];simp
        have hle:l1.length<=l2.length:=by omega
        have hge:l2.length<=l1.length:=by omega
        have H4:=hide h4
        have G4:=hide g4
        clear hne h4 g4
        go_enter Tryz.func98,Tryz.ntmps98
        go_wp2
        go_loopw [5] (fun i wr=>∃ k:Nat,k<=l1.length/\i=.int .i64 k/\l1.take k=l2.take k/\Below w.heap.size w wr) (fun i _=>l1.length - (intOf i).toNat)
        case atStart=>exact ⟨0,Nat.zero_le _,rfl,rfl,Below.refl _ _⟩
        case round =>
          obtain ⟨k,hk,rfl,ht,hs⟩:=hrel
          have Ht:=hide ht
          clear ht
          by_cases hlt:k < l1.length
          · have hlt2:k < l2.length:=by omega
            obtain ⟨d1,d2⟩:=H4.out k hlt
            obtain ⟨e1,e2⟩:=G4.out k hlt2
            have hc1:wr.drew.cell? ⟨b,off+k * 2,none⟩=some (.int .i64 l1[k].1):=(hs.cell (p:=⟨b,off+k * 2,none⟩) h3).trans d1
            have hc2:wr.drew.cell? ⟨b,off+k * 2+1,none⟩=some (.int .i64 l1[k].2):=(hs.cell (p:=⟨b,off+k * 2+1,none⟩) h3).trans d2
            have hd1:wr.drew.cell? ⟨b2,off2+k * 2,none⟩=some (.int .i64 l2[k].1):=(hs.cell (p:=⟨b2,off2+k * 2,none⟩) g3).trans e1
            have hd2:wr.drew.cell? ⟨b2,off2+k * 2+1,none⟩=some (.int .i64 l2[k].2):=(hs.cell (p:=⟨b2,off2+k * 2+1,none⟩) g3).trans e2
            have hli:(k:Int) < (l1.length:Int):=by omega
            have hli2:(k:Int) < (l2.length:Int):=by omega
            have HE:=hide (eqLeave_any l1[k] l2[k] wr.drew)
            have Hnx:Hid (l1[k]=l2[k]->l1.take (k+1)=l2.take (k+1)):=hide (fun he=>take_eq_snoc hlt hlt2 Ht.out he)
            have Hno:Hid (l1[k] ≠ l2[k]->decide (l1=l2)=false):=hide (fun he=>by rw [decide_eq_false];intro e;subst e;exact he rfl)
            clear d1 d2 e1 e2
            generalize hp:l1[k]=p at hc1 hc2 HE Hnx Hno
            generalize hq:l2[k]=q at hd1 hd2 HE Hnx Hno
            clear hp hq
            by_cases he:p=q
            · rw [decide_eq_true he] at HE
              have Hnx:=hide (Hnx.out he)
              clear he Hno
              go_wp2
              go_region_held_law (fun w'=>w'.cell? ⟨b,off+k * 2,none⟩=some (.int .i64 p.1)/\w'.cell? ⟨b,off+k * 2+1,none⟩=some (.int .i64 p.2)/\w'.cell? ⟨b2,off2+k * 2,none⟩=some (.int .i64 q.1)/\w'.cell? ⟨b2,off2+k * 2+1,none⟩=some (.int .i64 q.2)) (first | exact ⟨hc1,hc2,hd1,hd2⟩ | exact hS2) ((go_at_call 106;refine HE.out.mono ?_;rintro e w2 ⟨rfl,hb2⟩;have hz:=hs.size;have hS2:w2.cell? ⟨b,off+k * 2,none⟩=some (.int .i64 p.1)/\w2.cell? ⟨b,off+k * 2+1,none⟩=some (.int .i64 p.2)/\w2.cell? ⟨b2,off2+k * 2,none⟩=some (.int .i64 q.1)/\w2.cell? ⟨b2,off2+k * 2+1,none⟩=some (.int .i64 q.2):=⟨(hb2.cell (p:=⟨b,off+k * 2,none⟩) (Nat.lt_of_lt_of_le h3 hz)).trans hc1,(hb2.cell (p:=⟨b,off+k * 2+1,none⟩) (Nat.lt_of_lt_of_le h3 hz)).trans hc2,(hb2.cell (p:=⟨b2,off2+k * 2,none⟩) (Nat.lt_of_lt_of_le g3 hz)).trans hd1,(hb2.cell (p:=⟨b2,off2+k * 2+1,none⟩) (Nat.lt_of_lt_of_le g3 hz)).trans hd2⟩))
              go_wp2
              go_roundw
              case rel=>exact ⟨k+1,by omega,by go_num,Hnx.out,hs.drew.trans (hb2.mono hs.size)⟩
              case measure=>simp [intOf];omega
            · rw [decide_eq_false he] at HE
              have Hno:=hide (Hno.out he)
              clear he Hnx
              go_wp2
              go_region_held_law (fun w'=>w'.cell? ⟨b,off+k * 2,none⟩=some (.int .i64 p.1)/\w'.cell? ⟨b,off+k * 2+1,none⟩=some (.int .i64 p.2)/\w'.cell? ⟨b2,off2+k * 2,none⟩=some (.int .i64 q.1)/\w'.cell? ⟨b2,off2+k * 2+1,none⟩=some (.int .i64 q.2)) (first | exact ⟨hc1,hc2,hd1,hd2⟩ | exact hS2) ((go_at_call 106;refine HE.out.mono ?_;rintro e w2 ⟨rfl,hb2⟩;have hz:=hs.size;have hS2:w2.cell? ⟨b,off+k * 2,none⟩=some (.int .i64 p.1)/\w2.cell? ⟨b,off+k * 2+1,none⟩=some (.int .i64 p.2)/\w2.cell? ⟨b2,off2+k * 2,none⟩=some (.int .i64 q.1)/\w2.cell? ⟨b2,off2+k * 2+1,none⟩=some (.int .i64 q.2):=⟨(hb2.cell (p:=⟨b,off+k * 2,none⟩) (Nat.lt_of_lt_of_le h3 hz)).trans hc1,(hb2.cell (p:=⟨b,off+k * 2+1,none⟩) (Nat.lt_of_lt_of_le h3 hz)).trans hc2,(hb2.cell (p:=⟨b2,off2+k * 2,none⟩) (Nat.lt_of_lt_of_le g3 hz)).trans hd1,(hb2.cell (p:=⟨b2,off2+k * 2+1,none⟩) (Nat.lt_of_lt_of_le g3 hz)).trans hd2⟩))
              go_wp2
              go_ret
              exact ⟨ret_bool Hno.out.symm,hs.drew.trans (hb2.mono hs.size)⟩
          · have hf:Hid (decide (l1=l2)=true):=hide (by
              rw [decide_eq_true]
              have:=Ht.out
              rwa [List.take_of_length_le (by omega),List.take_of_length_le (by omega)] at this)
            go_wp2
            go_ret
            exact ⟨ret_bool hf.out.symm,hs⟩
  · obtain ⟨a,cap,rfl⟩:=hr1.shape
    obtain ⟨a2,cap2,rfl⟩:=hr2.shape
    clear hr1 hr2
    have hlen:((l1.length:Int) != (l2.length:Int))=true:=by rw [bne_iff_ne];omega
    have hf:Hid (decide (l1=l2)=false):=hide (by rw [decide_eq_false];intro e;subst e;exact hne rfl)
    clear hne
    go_enter Tryz.func98,Tryz.ntmps98
    go_wp2
    go_ret
    exact ⟨ret_bool hf.out.symm,Below.refl _ _⟩
end Go.Proofs.YthidkbhiikdokaaGreat
