/- A certificate of leavings by value. -/
import Derived.Test.YtohachldbpejpaaGreatDoorRows
import Derived.WalkKit
import Derived.ProofKit
import Derived.WalkSpells
import Derived.WalkLawsBesides
import Derived.Outline
import Derived.Deep.QuietTactic
import Derived.BigQuiet
import Derived.OpenShut
set_option maxRecDepth 20000
namespace Go.Proofs.YtohachldbpejpaaGreatDoor
open Go.RowKit
set_option linter.unusedVariables false
theorem hide {p:Prop} (h:p):Hid p:=h
theorem ret_bool {a b:Bool} (h:a=b):Ending.returned (.bool a)=.returned (.bool b):=by rw [h]
theorem ret_int {k:IntKind} {a b:Int} (h:a=b):Ending.returned (.int k a)=.returned (.int k b):=by rw [h]
def cb (c:UInt8):Value:=.int .u8 (c.toNat:Int)
def RdB (w:World) (v:Value) (l:List UInt8):Prop :=
  (∃ a cap,v=.slice a 0 cap/\l=[]/\(a=none->cap=0)) \/
  ∃ b off cap,l ≠ []/\v=.slice (some ⟨b,off,none⟩) l.length cap/\l.length<=cap/\cap<=maxLen/\b < w.heap.size/\∀ i (h:i < l.length),w.cell? ⟨b,off+i,none⟩=some (.int .u8 (l[i].toNat:Int))
def OwnB (base:Nat) (w:World) (v:Value) (l:List UInt8):Prop:=w.ownsRow base 5 1 v l.length (l.map cb)
theorem OwnB.rd {base:Nat} {w:World} {v:Value} {l:List UInt8} (h:OwnB base w v l):RdB w v l:=by
  rcases h.2 with ⟨hv,hn⟩ | ⟨g,cap,cur,hv,hb,hg,hnc,hcm,hcs,ht⟩
  · exact .inl ⟨none,0,hv,List.length_eq_zero_iff.1 hn,fun _=>rfl⟩
  · by_cases hl:l=[]
    · subst hl;exact .inl ⟨_,_,hv,rfl,fun h=>by cases h⟩
    · refine .inr ⟨g,0,cap,hl,hv,hnc,hcm,?_,?_⟩
      · exact (Array.getElem?_eq_some_iff.1 hg).1
      · intro i hi
        have h':w.ownsRow base 5 1 (.slice (some ⟨g,0,none⟩) l.length cap) l.length (l.map cb):=hv ▸ h
        rw [show 0+i=i from by omega,h'.cellAt i (by omega)]
        simp [hi,cb]
theorem RdB.below {B:Nat} {w w':World} {v:Value} {l:List UInt8} (h:RdB w v l) (hb:Below B w w') (hB:w.heap.size<=B):RdB w' v l:=by
  rcases h with h | ⟨b,off,cap,h0,hv,h1,h2,h3,h4⟩
  · exact .inl h
  · exact .inr ⟨b,off,cap,h0,hv,h1,h2,by have:=hb.size;omega,fun i hi=>(hb.cell (p:=⟨b,off+i,none⟩) (by show b < B;omega)).trans (h4 i hi)⟩
theorem OwnB.mono {base base':Nat} {w:World} {v:Value} {l:List UInt8} (h:OwnB base w v l) (hB:base'<=base):OwnB base' w v l:=by
  refine ⟨h.1,?_⟩
  rcases h.2 with h' | ⟨g,cap,cur,hv,hbb,r⟩
  · exact .inl h'
  · exact .inr ⟨g,cap,cur,hv,by omega,r⟩
theorem Tryz.infoU8:(Tryz.prog.info? 5).map (fun i=>(i.zero,i.size,i.bytes))=some (some (.int .u8 0),1,1):=by kernel_rfl
def Sm (w w':World):Prop:=∀ B,Below B w w'
theorem Sm.refl (w:World):Sm w w:=fun B=>Below.refl B w
theorem Sm.drew {a b:World} (h:Sm a b):Sm a b.drew:=fun B=>(h B).drew
theorem Sm.drewN {a b:World} (h:Sm a b) (n:Nat):Sm a (b.drewN n):=fun B=>below_drewN (h B) n
theorem Sm.cell {a b:World} (h:Sm a b) (p:Addr):b.cell? p=a.cell? p:=(h (p.block+1)).cell (by omega)
theorem RdB.shape {w:World} {v:Value} {l:List UInt8} (h:RdB w v l):∃ a cap,v=.slice a l.length cap:=by
  rcases h with ⟨a,cap,rfl,rfl,-⟩ | ⟨b,off,cap,h0,rfl,_⟩
  · exact ⟨a,cap,rfl⟩
  · exact ⟨_,cap,rfl⟩
def IsRow (k:IntKind) (w:World) (a:Option Addr) (len cap:Nat) (zs:List Int):Prop :=
  (a=none/\len=0/\cap=0/\zs=[]) \/
  ∃ x,a=some x/\len<=cap/\cap<=maxLen/\zs.length=cap/\(∀ i,i < zs.length->w.cell? (x.add i)=some (.int k (zs.getD i 0)))/\∀ n ∈ zs,(Lit.int k n).wf=true
theorem wf_u8 {z:Int} (h:(Lit.int .u8 z).wf=true):0<=z/\z<=255:=bounds_u8 h
theorem IsRow.rd {w:World} {a:Option Addr} {len cap:Nat} {zs:List Int} (h:IsRow .u8 w a len cap zs):∃ l:List UInt8,len=l.length/\RdB w (.slice a len cap) l:=by
  rcases h with ⟨rfl,rfl,rfl,rfl⟩ | ⟨x,rfl,hlc,hm,hz,hcell,hwf⟩
  · exact ⟨[],rfl,.inl ⟨_,_,rfl,rfl,fun h=>by first | rfl | cases h⟩⟩
  · by_cases h0:len=0
    · subst h0;exact ⟨[],rfl,.inl ⟨_,_,rfl,rfl,fun h=>by first | rfl | cases h⟩⟩
    · obtain ⟨b,off,spot⟩:=x
      have hc0:=hcell 0 (by omega)
      have hspot:spot=none:=by simpa [Addr.add] using World.cell?_spot hc0
      subst hspot
      have hlen:((zs.take len).map (fun z=>UInt8.ofNat z.toNat)).length=len:=by simp;omega
      refine ⟨(zs.take len).map (fun z=>UInt8.ofNat z.toNat),hlen.symm,.inr ⟨b,off,cap,?_,by rw [hlen],by omega,hm,?_,?_⟩⟩
      · intro e;rw [e] at hlen;simp at hlen;omega
      · have:=World.block_lt_of_cell? w _ hc0;simpa [Addr.add] using this
      · intro i hi
        rw [hlen] at hi
        have hi':i < zs.length:=by omega
        have hc:=hcell i hi'
        have hb:=wf_u8 (hwf zs[i] (List.getElem_mem hi'))
        have hg:zs.getD i 0=zs[i]:=by simp [hi']
        rw [hg] at hc
        have hv:((((zs.take len).map (fun z=>UInt8.ofNat z.toNat))[i]'(by rw [hlen];exact hi)).toNat:Int)=zs[i]:=by
          simp only [List.getElem_map,List.getElem_take,UInt8.toNat_ofNat']
          omega
        rw [hv]
        have ea:(⟨b,off,none⟩:Addr).add i=⟨b,off+i,none⟩:=by
          by_cases hz:i=0
          · subst hz;simp [Addr.add]
          · simp [Addr.add,hz]
        rwa [ea] at hc
theorem big_any (v:Value) (l:List UInt8) (w:World) (hr:RdB w v l) (hl:l.length<=9223372036854775807) :
    Calls Tryz.prog 8 #[v] w fun e w'=>e=.returned (.bool (decide (1048576 < l.length)))/\w'=w:=by
  obtain ⟨a,cap,rfl⟩:=hr.shape
  clear hr
  by_cases h:1048576 < l.length
  · have hd:=hide (decide_eq_true h)
    go_enter Tryz.func8,Tryz.ntmps8
    go_wp2
    go_ret
    exact ⟨ret_bool (by rw [hd.out];simp;omega),rfl⟩
  · have hd:=hide (decide_eq_false h)
    go_enter Tryz.func8,Tryz.ntmps8
    go_wp2
    go_ret
    exact ⟨ret_bool (by rw [hd.out];simp;omega),rfl⟩
theorem OwnB.shape {base:Nat} {w:World} {v:Value} {l:List UInt8} (h:OwnB base w v l) (hl:l ≠ []):∃ g cap,v=.slice (some ⟨g,0,none⟩) l.length cap/\l.length<=cap/\cap<=9223372036854775807:=by
  rcases h.2 with ⟨hv,hn⟩ | ⟨g,cap,cur,hv,hb,hg,hnc,hcm,hcs,ht⟩
  · exact absurd (List.length_eq_zero_iff.1 hn) hl
  · exact ⟨g,cap,hv,hnc,by unfold maxLen at hcm;omega⟩
def tot (ls:List ByteArray):Nat:=(ls.map (fun s=>s.size)).sum
theorem tot_take:∀ (ls:List ByteArray) (k:Nat),tot (ls.take k)<=tot ls:=by
  intro ls
  induction ls with
  | nil=>intro k;simp [tot]
  | cons s t ih =>
    intro k
    cases k with
    | zero=>simp [tot]
    | succ k =>
      have:=ih k
      simp only [tot,List.take_succ_cons,List.map_cons,List.sum_cons] at this ⊢
      omega
theorem tot_at:∀ (ls:List ByteArray) (k:Nat) (h:k < ls.length),ls[k].size<=tot ls:=by
  intro ls
  induction ls with
  | nil=>intro k h;simp at h
  | cons s t ih =>
    intro k h
    cases k with
    | zero=>simp [tot]
    | succ k =>
      have:=ih k (by simpa using h)
      simp only [tot,List.getElem_cons_succ,List.map_cons,List.sum_cons] at this ⊢
      omega
def RdS (w:World) (v:Value) (l:List ByteArray):Prop :=
  (∃ a cap,v=.slice a 0 cap/\l=[]/\(a=none->cap=0)) \/
  ∃ b off cap,l ≠ []/\v=.slice (some ⟨b,off,none⟩) l.length cap/\l.length<=cap/\cap<=maxLen/\b < w.heap.size/\∀ i (h:i < l.length),w.cell? ⟨b,off+i,none⟩=some (.string l[i])
theorem RdS.shape {w:World} {v:Value} {l:List ByteArray} (h:RdS w v l):∃ a cap,v=.slice a l.length cap:=by
  rcases h with ⟨a,cap,rfl,rfl,-⟩ | ⟨b,off,cap,h0,rfl,_⟩
  · exact ⟨a,cap,rfl⟩
  · exact ⟨_,cap,rfl⟩
theorem RdS.below {B:Nat} {w w':World} {v:Value} {l:List ByteArray} (h:RdS w v l) (hb:Below B w w') (hB:w.heap.size<=B):RdS w' v l:=by
  rcases h with h | ⟨b,off,cap,h0,hv,h1,h2,h3,h4⟩
  · exact .inl h
  · exact .inr ⟨b,off,cap,h0,hv,h1,h2,by have:=hb.size;omega,fun i hi=>(hb.cell (p:=⟨b,off+i,none⟩) (by show b < B;omega)).trans (h4 i hi)⟩
theorem rd_one_str (w:World) (s:ByteArray):RdS (w.alloc (.cells #[.string s] 9)) (.slice (some ⟨w.heap.size,0,none⟩) 1 1) [s]:=by
  refine .inr ⟨w.heap.size,0,1,by simp,rfl,by simp,by unfold maxLen;omega,by simp,?_⟩
  intro i hi
  simp only [List.length_cons,List.length_nil] at hi
  have:i=0:=by omega
  subst this
  simp [World.cell?_alloc_at]
def OwnS (base:Nat) (w:World) (v:Value) (l:List ByteArray):Prop:=w.ownsRow base 9 1 v l.length (l.map Value.string)
theorem OwnS.rd {base:Nat} {w:World} {v:Value} {l:List ByteArray} (h:OwnS base w v l):RdS w v l:=by
  rcases h.2 with ⟨hv,hn⟩ | ⟨g,cap,cur,hv,hb,hg,hnc,hcm,hcs,ht⟩
  · exact .inl ⟨none,0,hv,List.length_eq_zero_iff.1 hn,fun _=>rfl⟩
  · by_cases hl:l=[]
    · subst hl;exact .inl ⟨_,_,hv,rfl,fun h=>by cases h⟩
    · refine .inr ⟨g,0,cap,hl,hv,hnc,hcm,?_,?_⟩
      · exact (Array.getElem?_eq_some_iff.1 hg).1
      · intro i hi
        have h':w.ownsRow base 9 1 (.slice (some ⟨g,0,none⟩) l.length cap) l.length (l.map Value.string):=hv ▸ h
        rw [show 0+i=i from by omega,h'.cellAt i (by omega)]
        simp [hi]
theorem OwnS.below {B base:Nat} {w w':World} {v:Value} {l:List ByteArray} (h:OwnS base w v l) (hb:Below B w w') (hB:w.heap.size<=B):OwnS base w' v l:=by
  refine ⟨h.1,?_⟩
  rcases h.2 with h' | ⟨g,cap,cur,hv,hbb,hg,r⟩
  · exact .inl h'
  · refine .inr ⟨g,cap,cur,hv,hbb,?_,r⟩
    have hlt:g < w.heap.size:=(Array.getElem?_eq_some_iff.1 hg).1
    rw [hb.block g (by omega)];exact hg
theorem OwnS.mono {base base':Nat} {w:World} {v:Value} {l:List ByteArray} (h:OwnS base w v l) (hB:base'<=base):OwnS base' w v l:=by
  refine ⟨h.1,?_⟩
  rcases h.2 with h' | ⟨g,cap,cur,hv,hbb,r⟩
  · exact .inl h'
  · exact .inr ⟨g,cap,cur,hv,by omega,r⟩
theorem OwnS.ge {base:Nat} {w:World} {v:Value} {l:List ByteArray} (h:OwnS base w v l):∀ k,v.ownBlock=some k->base<=k:=fun k hk=>(World.ownsRow.lt h k hk).1
theorem Tryz.infoStr:(Tryz.prog.info? 9).map (fun i=>(i.zero,i.size,i.bytes))=some (some (.string ByteArray.empty),1,16):=by kernel_rfl
theorem bytes_ne {a b:ByteArray} (h:a ≠ b):(a.toList == b.toList)=false:=by
  rw [beq_eq_false_iff_ne]
  intro e
  rw [ByteArray.toList_eq,ByteArray.toList_eq] at e
  exact h (ByteArray.ext (Array.toList_inj.1 e))
def szR (ls:List ByteArray) (m:Nat):Int:=if ls.length+tot ls<=m then (m:Int) - ls.length - tot ls else -1
def RdI (w:World) (v:Value) (l:List Int):Prop :=
  (∃ a cap,v=.slice a 0 cap/\l=[]/\(a=none->cap=0)) \/
  ∃ b off cap,l ≠ []/\v=.slice (some ⟨b,off,none⟩) l.length cap/\l.length<=cap/\cap<=maxLen/\b < w.heap.size/\∀ i (h:i < l.length),w.cell? ⟨b,off+i,none⟩=some (.int .i64 l[i])
theorem RdI.shape {w:World} {v:Value} {l:List Int} (h:RdI w v l):∃ a cap,v=.slice a l.length cap:=by
  rcases h with ⟨a,cap,rfl,rfl,-⟩ | ⟨b,off,cap,h0,rfl,_⟩
  · exact ⟨a,cap,rfl⟩
  · exact ⟨_,cap,rfl⟩
theorem RdI.below {B:Nat} {w w':World} {v:Value} {l:List Int} (h:RdI w v l) (hb:Below B w w') (hB:w.heap.size<=B):RdI w' v l:=by
  rcases h with h | ⟨b,off,cap,h0,hv,h1,h2,h3,h4⟩
  · exact .inl h
  · exact .inr ⟨b,off,cap,h0,hv,h1,h2,by have:=hb.size;omega,fun i hi=>(hb.cell (p:=⟨b,off+i,none⟩) (by show b < B;omega)).trans (h4 i hi)⟩
def OwnI (base:Nat) (w:World) (v:Value) (l:List Int):Prop:=w.ownsRow base 3 1 v l.length (l.map (Value.int .i64))
theorem OwnI.rd {base:Nat} {w:World} {v:Value} {l:List Int} (h:OwnI base w v l):RdI w v l:=by
  rcases h.2 with ⟨hv,hn⟩ | ⟨g,cap,cur,hv,hb,hg,hnc,hcm,hcs,ht⟩
  · exact .inl ⟨none,0,hv,List.length_eq_zero_iff.1 hn,fun _=>rfl⟩
  · by_cases hl:l=[]
    · subst hl;exact .inl ⟨_,_,hv,rfl,fun h=>by cases h⟩
    · refine .inr ⟨g,0,cap,hl,hv,hnc,hcm,?_,?_⟩
      · exact (Array.getElem?_eq_some_iff.1 hg).1
      · intro i hi
        have h':w.ownsRow base 3 1 (.slice (some ⟨g,0,none⟩) l.length cap) l.length (l.map (Value.int .i64)):=hv ▸ h
        rw [show 0+i=i from by omega,h'.cellAt i (by omega)]
        simp [hi]
theorem OwnI.below {B base:Nat} {w w':World} {v:Value} {l:List Int} (h:OwnI base w v l) (hb:Below B w w') (hB:w.heap.size<=B):OwnI base w' v l:=by
  refine ⟨h.1,?_⟩
  rcases h.2 with h' | ⟨g,cap,cur,hv,hbb,hg,r⟩
  · exact .inl h'
  · refine .inr ⟨g,cap,cur,hv,hbb,?_,r⟩
    have hlt:g < w.heap.size:=(Array.getElem?_eq_some_iff.1 hg).1
    rw [hb.block g (by omega)];exact hg
theorem OwnI.mono {base base':Nat} {w:World} {v:Value} {l:List Int} (h:OwnI base w v l) (hB:base'<=base):OwnI base' w v l:=by
  refine ⟨h.1,?_⟩
  rcases h.2 with h' | ⟨g,cap,cur,hv,hbb,r⟩
  · exact .inl h'
  · exact .inr ⟨g,cap,cur,hv,by omega,r⟩
theorem OwnI.kept {base:Nat} {w w':World} {v:Value} {l:List Int} {row:Option Nat} (h:OwnI base w v l) (hg:w.grownBy w' row) (hne:v.ownBlock=none\/v.ownBlock ≠ row):OwnI base w' v l:=World.ownsRow.kept h hg hne
theorem OwnI.ge {base:Nat} {w:World} {v:Value} {l:List Int} (h:OwnI base w v l):∀ k,v.ownBlock=some k->base<=k:=fun k hk=>(World.ownsRow.lt h k hk).1
theorem Tryz.infoI:(Tryz.prog.info? 3).map (fun i=>(i.zero,i.size,i.bytes))=some (some (.int .i64 0),1,8):=by kernel_rfl
theorem flat_len {α:Type} (sz:Nat):∀ (L:List (List α)),(∀ x ∈ L,x.length=sz)->L.flatten.length=L.length * sz
  | [],_=>by simp
  | x :: L,h=>by
    rw [List.flatten_cons,List.length_append,flat_len sz L (fun y hy=>h y (List.mem_cons_of_mem _ hy)),h x (List.mem_cons_self),List.length_cons,Nat.add_mul,Nat.one_mul]
    omega
theorem flat_get {α:Type} (sz:Nat):∀ (L:List (List α)) (i j:Nat) (hi:i < L.length),(∀ x ∈ L,x.length=sz)->j < sz->L.flatten[i * sz+j]?=L[i][j]?
  | [],i,j,hi,_,_=>by simp at hi
  | x :: L,i,j,hi,h,hj=>by
    have hx:=h x (List.mem_cons_self)
    cases i with
    | zero =>
      rw [List.flatten_cons,Nat.zero_mul,Nat.zero_add,List.getElem?_append_left (by omega)]
      rfl
    | succ i =>
      rw [List.flatten_cons,List.getElem?_append_right (by rw [hx,Nat.add_mul];omega),hx,show (i+1) * sz+j - sz=i * sz+j from by rw [Nat.add_mul];omega]
      exact flat_get sz L i j (by simpa using hi) (fun y hy=>h y (List.mem_cons_of_mem _ hy)) hj
theorem flat_set {α:Type} (sz:Nat) (u:α):∀ (L:List (List α)) (i j:Nat) (hi:i < L.length),(∀ x ∈ L,x.length=sz)->j < sz->L.flatten.set (i * sz+j) u=(L.set i (L[i].set j u)).flatten
  | [],i,j,hi,_,_=>by simp at hi
  | x :: L,i,j,hi,h,hj=>by
    have hx:=h x (List.mem_cons_self)
    cases i with
    | zero =>
      rw [List.flatten_cons,Nat.zero_mul,Nat.zero_add,List.set_append_left _ _ (by omega)]
      rfl
    | succ i =>
      rw [List.flatten_cons,List.set_append_right _ _ (by rw [hx,Nat.add_mul];omega),hx,show (i+1) * sz+j - sz=i * sz+j from by rw [Nat.add_mul];omega]
      rw [flat_set sz u L i j (by simpa using hi) (fun y hy=>h y (List.mem_cons_of_mem _ hy)) hj]
      rfl
def part {α β:Type} (f:α->List β) (z:List β) (l:List α) (k:Nat):List (List β):=(l.take k).map f ++ List.replicate (l.length - k) z
def Blk (W:World) (B:Nat) (t:TypeId) (cs:List Value):Prop:=W.heap[B]?=some (.cells cs.toArray t (0,0))
theorem Blk.lt {W:World} {B:Nat} {t:TypeId} {cs:List Value} (h:Blk W B t cs):B < W.heap.size:=(Array.getElem?_eq_some_iff.1 h).1
theorem Blk.cell {W:World} {B:Nat} {t:TypeId} {cs:List Value} (h:Blk W B t cs) (j:Nat):W.cell? ⟨B,j,none⟩=cs[j]?:=by simp [World.cell?,show W.heap[B]?=_ from h]
theorem Blk.frozen {W:World} {B:Nat} {t:TypeId} {cs:List Value} (h:Blk W B t cs) (j:Nat):W.frozen? ⟨B,j,none⟩=false:=by simp [World.frozen?,show W.heap[B]?=_ from h]
theorem Blk.new (W:World) (t:TypeId) (cs:List Value):Blk (W.alloc (.cells cs.toArray t)) W.heap.size t cs:=heap_alloc_new W _
theorem Blk.below {W V:World} {B K:Nat} {t:TypeId} {cs:List Value} (h:Blk W B t cs) (hb:Below K W V) (hK:B < K):Blk V B t cs:=(hb.block B hK).trans h
theorem grown_set (w:World) (g j:Nat) (u:Value):w.grownBy (w.setCell ⟨g,j,none⟩ u) (some g) :=
  ⟨rfl,rfl,rfl,by simp,fun k _ hk=>heap_setCell_other w ⟨g,j,none⟩ k u (fun e=>hk (by simp [e]))⟩
theorem row_set {base:Nat} {w:World} {e:TypeId} {size:Nat} {v:Value} {n:Nat} {xs:List Value} (h:w.ownsRow base e size v n xs) (g j:Nat) (u:Value) (hne:∀ k,v.ownBlock=some k->k ≠ g):(w.setCell ⟨g,j,none⟩ u).ownsRow base e size v n xs:=by
  refine World.ownsRow.kept h (grown_set w g j u) ?_
  cases hv:v.ownBlock with
  | none=>exact .inl rfl
  | some k=>exact .inr (fun e=>hne k hv (by injection e))
theorem row_below {B base:Nat} {w w':World} {e:TypeId} {size:Nat} {v:Value} {n:Nat} {xs:List Value} (h:w.ownsRow base e size v n xs) (hb:Below B w w') (hB:w.heap.size<=B):w'.ownsRow base e size v n xs:=by
  refine ⟨h.1,?_⟩
  rcases h.2 with h' | ⟨g,cap,cur,hv,hbb,hg,r⟩
  · exact .inl h'
  · refine .inr ⟨g,cap,cur,hv,hbb,?_,r⟩
    have hlt:g < w.heap.size:=(Array.getElem?_eq_some_iff.1 hg).1
    rw [hb.block g (by omega)];exact hg
def prt {α:Type} (L:List (List α)) (z:List α) (n:Nat):List (List α):=L ++ List.replicate (n - L.length) z
theorem flat_put5 {α:Type} (L:List (List α)) (i:Nat) (a b c d e:α) (hi:i < L.length) (h:∀ x ∈ L,x.length=5):((((L.flatten.set (i * 5) a).set (i * 5+1) b).set (i * 5+2) c).set (i * 5+3) d).set (i * 5+4) e=(L.set i [a,b,c,d,e]).flatten:=by
  have st:∀ (M:List (List α)) (y:List α) (j:Nat) (u:α),M.length=L.length->(∀ x ∈ M,x.length=5)->y.length=5->j < 5->(M.set i y).flatten.set (i * 5+j) u=(M.set i (y.set j u)).flatten:=by
    intro M y j u hM hx hy hj
    have hS:∀ x ∈ M.set i y,x.length=5:=fun x hm=>by
      rcases List.mem_or_eq_of_mem_set hm with h' | rfl
      · exact hx x h'
      · exact hy
    rw [flat_set 5 u (M.set i y) i j (by rw [List.length_set,hM];exact hi) hS hj,List.set_set]
    simp only [List.getElem_set_self]
  have hl:=h L[i] (List.getElem_mem hi)
  have e0:L=L.set i L[i]:=by simp
  have r0:=st L L[i] 0 a rfl h hl (by omega)
  rw [<- e0,Nat.add_zero] at r0
  rw [r0,st L _ 1 b rfl h (by simp [hl]) (by omega),st L _ 2 c rfl h (by simp [hl]) (by omega),st L _ 3 d rfl h (by simp [hl]) (by omega),st L _ 4 e rfl h (by simp [hl]) (by omega)]
  congr 2
  match hx:L[i],hl with
  | [y0,y1,y2,y3,y4],_=>rfl
theorem rows_apart {w:World} {b1 b2:Nat} {e1 e2:TypeId} {s1 s2:Nat} {v1 v2:Value} {n1 n2:Nat} {x1 x2:List Value} (h1:w.ownsRow b1 e1 s1 v1 n1 x1) (h2:w.ownsRow b2 e2 s2 v2 n2 x2) (he:e1 ≠ e2):∀ g,v2.ownBlock=some g->v1.ownBlock ≠ some g:=by
  intro g hg2 hg1
  rcases h1.2 with ⟨rfl,-⟩ | ⟨g1,c1,u1,rfl,-,k1,-⟩
  · simp [Value.ownBlock] at hg1
  · rcases h2.2 with ⟨rfl,-⟩ | ⟨g2,c2,u2,rfl,-,k2,-⟩
    · simp [Value.ownBlock] at hg2
    · simp only [Value.ownBlock,Option.some.injEq] at hg1 hg2
      subst hg1 hg2
      rw [k1] at k2
      simp only [Option.some.injEq,Obj.cells.injEq] at k2
      exact he k2.2.1
def tcV (r:Int) (vw vh:Value):Value:=.agg #[.int .i64 r,vw,vh]
theorem OwnS.olderC {base:Nat} {w:World} {v:Value} {l:List ByteArray} (h:OwnS base w v l) {g:Nat} (hg:g < base) (j:Nat) (u:Value):OwnS base (w.setCell ⟨g,j,none⟩ u) v l :=
  row_set h g j u (fun k hk=>by have:=h.ge k hk;omega)
theorem OwnI.olderC {base:Nat} {w:World} {v:Value} {l:List Int} (h:OwnI base w v l) {g:Nat} (hg:g < base) (j:Nat) (u:Value):OwnI base (w.setCell ⟨g,j,none⟩ u) v l :=
  row_set h g j u (fun k hk=>by have:=h.ge k hk;omega)
theorem Blk.setC {W:World} {B:Nat} {t:TypeId} {cs:List Value} (h:Blk W B t cs) (j:Nat) (u:Value):Blk (W.setCell ⟨B,j,none⟩ u) B t (cs.set j u):=by
  have e:=heap_setCell_same W B j cs.toArray t u h
  simpa [Blk] using e
theorem Blk.otherC {W:World} {B:Nat} {t:TypeId} {cs:List Value} (h:Blk W B t cs) (g j:Nat) (u:Value) (hne:B ≠ g):Blk (W.setCell ⟨g,j,none⟩ u) B t cs:=(heap_setCell_other W ⟨g,j,none⟩ B u hne).trans h
def highI (hs:List Int):Int:=hs.foldl (fun n x=>if n < x then x else n) 0
end Go.Proofs.YtohachldbpejpaaGreatDoor
