/- A block among others. -/
import Derived.Test.YtohachldbpejpaaGreatDoorZlTrSpec
import Derived.Test.YtohachldbpejpaaGreatDoorZlKsCopy
import Derived.Deep.Cut
set_option maxRecDepth 20000
set_option maxHeartbeats 8000000
namespace Go.Proofs.YtohachldbpejpaaGreatDoor
open Go.RowKit
set_option linter.unusedVariables false
theorem low_id {b:Bk} (h:blB b=true):0<=b.id:=by
  unfold blB inB at h
  simp only [Bool.and_eq_true,decide_eq_true_eq] at h
  omega
theorem root_qb {r b:Int} {ws:List ByteArray} (h:rootB r b ws=true):b=-1:=by
  unfold rootB at h
  simp only [Bool.and_eq_true,decide_eq_true_eq] at h
  omega
def qbAt (l:List Bk) (i:Nat):Int:=(l[i]?.map (·.qb)).getD (-1)
def idAt (l:List Bk) (i:Nat):Int:=(l[i]?.map (·.id)).getD 0
theorem qbAt_eq {l:List Bk} {i:Nat} (h:i < l.length):qbAt l i=l[i].qb:=by simp [qbAt,h]
theorem idAt_eq {l:List Bk} {i:Nat} (h:i < l.length):idAt l i=l[i].id:=by simp [idAt,h]
def upI (l:List Bk):Nat->Nat->List Nat
  | 0,_=>[]
  | n+1,i=>i :: (if atI l (qbAt l i) < 0 then [] else upI l n (atI l (qbAt l i)).toNat)
def upN (l:List Bk) (i:Nat):List Nat:=upI l (i+1) i
theorem tree_asc {l:List Bk} (h:treeP l):AscP l l.length:=asc_of (fun i hi _=>h.2 i hi)
theorem at_low {l:List Bk} (h:treeP l) {id:Int} (hi:id < 0):atI l id=-1 :=
  atI_eq (.inl ⟨rfl,fun j hj e=>by have:=low_id (h.2 j hj).1;omega⟩)
theorem par {l:List Bk} (h:treeP l) {i:Nat} (hi:i < l.length):(atI l l[i].qb=-1/\l[i].qb=-1)\/∃ j,∃ hj:j < i,atI l l[i].qb=(j:Int)/\(l[j]'(by omega)).id=l[i].qb:=by
  rcases (h.2 i hi).2.2.2 with r | ⟨j,hj,e,_⟩
  · have:=root_qb r
    exact .inl ⟨by rw [this];exact at_low h (by omega),this⟩
  · exact .inr ⟨j,hj,by rw [<- e];exact atI_asc (tree_asc h) (by omega),e⟩
theorem up_fuel {l:List Bk} (h:treeP l):∀ (i n m:Nat),i < l.length->i < n->i < m->upI l n i=upI l m i:=by
  intro i
  induction i using Nat.strongRecOn with
  | ind i ih =>
    intro n m hi hn hm
    match n,m,hn,hm with
    | n + 1,m+1,hn,hm =>
      rw [upI,upI,qbAt_eq hi]
      rcases par h hi with ⟨e,_⟩ | ⟨j,hj,e,_⟩
      · rw [e,if_pos (by omega),if_pos (by omega)]
      · rw [e,if_neg (by omega),if_neg (by omega)]
        simp only [Int.toNat_natCast]
        rw [ih j hj n m (by omega) (by omega) (by omega)]
theorem up_root {l:List Bk} (h:treeP l) {i:Nat} (hi:i < l.length) (e:atI l l[i].qb=-1):upN l i=[i]:=by
  rw [upN,upI,qbAt_eq hi,e,if_pos (by omega)]
theorem up_step {l:List Bk} (h:treeP l) {i j:Nat} (hi:i < l.length) (hj:j < i) (e:atI l l[i].qb=(j:Int)):upN l i=i :: upN l j:=by
  rw [upN,upI,qbAt_eq hi,e,if_neg (by omega),Int.toNat_natCast,up_fuel h j i (j+1) (by omega) hj (by omega)]
  rfl
theorem up_pos {l:List Bk} (i:Nat):0 < (upN l i).length:=by rw [upN,upI];simp
theorem up_mem {l:List Bk} (h:treeP l):∀ (i:Nat),i < l.length->∀ x ∈ upN l i,x<=i:=by
  intro i
  induction i using Nat.strongRecOn with
  | ind i ih =>
    intro hi x hx
    rcases par h hi with ⟨e,_⟩ | ⟨j,hj,e,_⟩
    · rw [up_root h hi e] at hx
      simp at hx;omega
    · rw [up_step h hi hj e] at hx
      rcases List.mem_cons.1 hx with rfl | hx
      · omega
      · have:=ih j hj (by omega) x hx;omega
theorem up_len {l:List Bk} (h:treeP l):∀ (i:Nat),i < l.length->(upN l i).length<=i+1:=by
  intro i
  induction i using Nat.strongRecOn with
  | ind i ih =>
    intro hi
    rcases par h hi with ⟨e,_⟩ | ⟨j,hj,e,_⟩
    · rw [up_root h hi e];simp
    · rw [up_step h hi hj e]
      have:=ih j hj (by omega)
      simp;omega
def chA (l:List Bk) (id:Int):List Nat:=if atI l id < 0 then [] else (upN l (atI l id).toNat).reverse
theorem at_lt {l:List Bk} {id:Int} (h:0<=atI l id):∃ k,∃ hk:k < l.length,atI l id=(k:Int)/\l[k].id=id:=by
  rcases atI_is l id with ⟨e,_⟩ | ⟨k,hk,e,f,_⟩
  · omega
  · exact ⟨k,hk,e,f⟩
theorem chA_none {l:List Bk} {id:Int} (h:atI l id < 0):chA l id=[]:=by rw [chA,if_pos h]
theorem chA_step {l:List Bk} (h:treeP l) {id:Int} {k:Nat} (hk:k < l.length) (e:atI l id=(k:Int)):chA l id=chA l l[k].qb ++ [k]:=by
  rw [chA,if_neg (by omega),e,Int.toNat_natCast]
  rcases par h hk with ⟨e2,_⟩ | ⟨j,hj,e2,_⟩
  · rw [up_root h hk e2,chA_none (by omega)];rfl
  · rw [up_step h hk hj e2,chA,e2,if_neg (by omega),Int.toNat_natCast,List.reverse_cons]
theorem chA_len {l:List Bk} (h:treeP l) (id:Int):(chA l id).length<=l.length:=by
  by_cases hn:atI l id < 0
  · rw [chA_none hn];simp
  · obtain ⟨k,hk,e,_⟩:=at_lt (l:=l) (id:=id) (by omega)
    rw [chA,if_neg hn,e,Int.toNat_natCast,List.length_reverse]
    have:=up_len h k hk
    omega
theorem chA_lt {l:List Bk} (h:treeP l) (id:Int):∀ x ∈ chA l id,x < l.length:=by
  intro x hx
  by_cases hn:atI l id < 0
  · rw [chA_none hn] at hx;simp at hx
  · obtain ⟨k,hk,e,_⟩:=at_lt (l:=l) (id:=id) (by omega)
    rw [chA,if_neg hn,e,Int.toNat_natCast,List.mem_reverse] at hx
    have:=up_mem h k hk x hx
    omega
def coA (l:List Bk) (id:Int):List Int:=if treeB l=true then (chA l id).map (idAt l) else []
def exB (l:List Bk) (a b:Int):Bool:=treeB l && (if a=-1 then (decide (b=-1) || decide (0<=atI l b)) else ((chA l b).map (idAt l)).any (fun x=>decide (x=a)))
def slen:Value->Nat
  | .slice _ n _=>n
  | _=>0
theorem RdKs.parts9 {w:World} {a:Option Addr} {cap:Nat} {l:List Bk} (h:RdKs w (.slice a l.length cap) l) (hl:0 < l.length):∃ b off,a=some ⟨b,off,none⟩/\b < w.heap.size/\∀ i (h:i < l.length),∃ bv,BkAt w b (off+i * 14) l[i] bv/\RdK w l[i] bv:=by
  rcases h with ⟨a',cap',e,rfl,hn⟩ | ⟨b,off,cap',h0,e,h1,h2,h3,h4⟩
  · simp at hl
  · simp only [Value.slice.injEq] at e
    exact ⟨b,off,e.1,h3,h4⟩
def ofN (i:Nat):Int:=(i:Int)
structure UpTo (l:List Bk) (id0 id:Int) (O:List Nat):Prop where
  all:chA l id0=chA l id ++ O
  there:O=[]\/id < 0\/0<=atI l id
theorem UpTo.next {l:List Bk} (ht:treeP l) {id0 id:Int} {O:List Nat} (h:UpTo l id0 id O) {k:Nat} (hk:k < l.length) (e:atI l id=(k:Int)):UpTo l id0 l[k].qb (k :: O):=by
  refine ⟨?_,?_⟩
  · rw [h.all,chA_step ht hk e,List.append_assoc];rfl
  · rcases par ht hk with ⟨_,q⟩ | ⟨j,hj,q,_⟩
    · exact .inr (.inl (by omega))
    · exact .inr (.inr (by omega))
theorem UpTo.len {l:List Bk} (ht:treeP l) {id0 id:Int} {O:List Nat} (h:UpTo l id0 id O):O.length<=l.length:=by
  have:=chA_len ht id0
  rw [h.all] at this
  simp at this
  omega
theorem specChain_any (v:Value) (l:List Bk) (id0:Int) (w:World) (hr:RdKs w v l) (hl:l.length<=4000000) (ht:treeP l) :
    Calls Tryz.prog 82 #[v,.int .i64 id0] w fun e w'=>∃ x,e=.returned x/\OwnI w.heap.size w' x ((chA l id0).map ofN)/\Below w.heap.size w w':=by
  obtain ⟨a,cap,rfl⟩:=hr.shape
  have Hr:=hide hr
  have Ht:=hide ht
  have HA:=hide (fun V (hV:Below w.heap.size w V) id=>specAt_any (.slice a l.length cap) l id V (hr.below hV (Nat.le_refl _)) hl)
  have HT:=hide (chA_len ht id0)
  clear hr ht
  go_enter Tryz.func82,Tryz.ntmps82
  go_wp2
  have o1:=own_nilI w w.heap.size (Nat.le_refl _)
  have b1:Below w.heap.size w (w.alloc (.cells #[] 3)):=(Below.refl _ w).alloc (Nat.le_refl _) _
  go_loopw [1,5] (fun iv ov wr=>∃ (id:Int) (O:List Nat),iv=.int .i64 id/\UpTo l id0 id O/\slen ov=O.length/\OwnI w.heap.size wr ov (O.map ofN)/\Below w.heap.size w wr) (fun _ ov _=>l.length - slen ov)
  case atStart=>exact ⟨id0,[],rfl,⟨by simp,.inl rfl⟩,rfl,o1,b1⟩
  case round =>
    clear o1 b1
    obtain ⟨id,O,rfl,hu,hs,ho,hb⟩:=hrel
    obtain ⟨oa,oc,rfl⟩:=ho.rd.shape
    have Hu:=hide hu
    have Ho:=hide ho
    clear hu ho hs
    by_cases hlow:id < 0
    · have HX:Hid (chA l id0=O):=hide (by rw [Hu.out.all,chA_none (by rw [at_low Ht.out hlow];omega)];rfl)
      go_wp2
      go_ret
      exact ⟨_,rfl,by rw [HX.out];exact Ho.out,hb⟩
    · have hge:0<=id:=by omega
      go_wp2_with fail
      refine (HA.out wr hb id).mono ?_
      rintro e w2 ⟨rfl,rfl⟩
      by_cases hn:atI l id < 0
      · have HX:Hid (chA l id0=[]):=hide (by
          rcases Hu.out.there with h | h | h
          · rw [Hu.out.all,chA_none hn,h];rfl
          · omega
          · omega)
        have HO:=hide (own_nilI w2 w.heap.size hb.size)
        have HB:=hide (hb.alloc (o:=.cells #[] 3) hb.size)
        go_wp2
        go_ret
        exact ⟨_,rfl,by rw [HX.out];exact HO.out,HB.out⟩
      · obtain ⟨k,hk,e,-⟩:=at_lt (l:=l) (id:=id) (by omega)
        have Hu2:=hide (Hu.out.next Ht.out hk e)
        have hm:=Hu2.out.len Ht.out
        obtain ⟨b,off,rfl,h3,hcell⟩:=Hr.out.parts9 (by omega)
        obtain ⟨lv,hat,-⟩:=hcell k hk
        have c5:=(hat.below hb h3).cells.2.2.2.2.2.1
        have h39:b < w2.heap.size:=by have:=hb.size;omega
        rw [e]
        have hk0:(0:Int)<=(k:Int):=by omega
        have hkl:(k:Int) < (l.length:Int):=by omega
        have HC:Hid (∀ V,Below w.heap.size w V->V.cell? ⟨b,off+k * 14+5,none⟩=some (.int .i64 l[k].qb)):=hide (fun V hV=>(hat.below hV h3).cells.2.2.2.2.2.1)
        have hO:O.length+1<=l.length:=by simpa using hm
        have HO1:=hide (own_oneI w2 w.heap.size (k:Int) hb.size)
        have HR1:=hide (Ho.out.rd.below ((Below.refl w2.heap.size w2).alloc (Nat.le_refl _) (.cells #[.int .i64 (k:Int)] 3)) (Nat.le_refl _))
        have HB1:=hide (hb.alloc (o:=.cells #[.int .i64 (k:Int)] 3) hb.size)
        clear hn hm hcell hat c5 Hu HA Hr
        generalize l[k].qb=qb at HC Hu2
        have hlen1:((O.map ofN).length:Nat)=O.length:=by simp
        rw [hlen1] at HR1
        have hdone:∀ v3 w3,OwnI w.heap.size w3 v3 ([(k:Int)] ++ O.map ofN)->slen v3=O.length+1:=fun v3 w3 h=>by
          obtain ⟨a3,c3,rfl⟩:=h.rd.shape
          simp [slen]
        have Hdone:=hide hdone
        clear hdone
        simp only
        go_wp2_with (at_builtin;refine app_ownIs _ rfl _ _ rfl w.heap.size _ _ [(k:Int)] (O.map ofN) rfl rfl HO1.out HR1.out (by simp;omega) (by have:=HB1.out.size;omega) ?_;intro v3 w3 ho3 hg3 hb3 _;have cc:=HC.out w3 (HB1.out.trans hb3))
        have HS3:=hide (Hdone.out v3 w3 ho3)
        have Ho3:=hide ho3
        clear ho3
        go_roundw
        case rel=>exact ⟨qb,k :: O,rfl,Hu2.out,by rw [HS3.out];rfl,Ho3.out,HB1.out.trans hb3⟩
        case measure=>rw [HS3.out];simp [slen];omega
theorem RdI.cellI {w:World} {a:Option Addr} {cap:Nat} {l:List Int} {n:Nat} (h:RdI w (.slice a n cap) l) (hn:n=l.length) {k:Nat} (hk:k < l.length):∃ b off,a=some ⟨b,off,none⟩/\b < w.heap.size/\w.cell? ⟨b,off+k,none⟩=some (.int .i64 l[k]):=by
  rcases h with ⟨a',cap',e,rfl,hn⟩ | ⟨b,off,cap',h0,e,h1,h2,h3,h4⟩
  · simp at hk
  · simp only [Value.slice.injEq] at e
    exact ⟨b,off,e.1,h3,h4 k hk⟩
theorem add_flatK (b off i:Nat):(⟨b,off,none⟩:Addr).add i=⟨b,off+i,none⟩:=by
  by_cases hz:i=0
  · subst hz;simp [Addr.add]
  · simp [Addr.add,hz]
theorem ownKs_grow {base:Nat} {w1 w w':World} {g cap:Nat} {l:List Bk} {Z:List (Bk × Bv)} {b:Bk} {bv:Bv} {v':Value} (hZ:Z.map (·.1)=l) (hrow:w1.ownsRow base 50 14 (.slice (some ⟨g,0,none⟩) l.length cap) l.length (Z.map bkP).flatten) (hk:Kvs base w1 g Z)
    (hb1:Below w1.heap.size w1 w) (hob:OwnK w1.heap.size w b bv) (hin:∀ k,bv.q.ownBlock=some k->bv.w.ownBlock ≠ some k) (hbase:base<=w1.heap.size)
    (ho':w'.ownsRow base 50 14 v' (l.length+1) ((Z.map bkP).flatten ++ bkC b bv)) (hgr:w.grownBy w' (some g)) (hl:v'.ownBlock=some g\/v'.ownBlock=some w.heap.size):OwnKs base w' v' (l ++ [b])/\Below base w w':=by
  have hk2:=hk.below hb1 (Nat.le_refl _)
  have hg:=World.ownsRow.lt hrow g rfl
  have hsz:=hb1.size
  have hlt:∀ i (hi:i < Z.length) k,Z[i].2.has k->k < w1.heap.size:=fun i hi k h=>((hk.own i hi).in9 k h).2
  have hbx:∀ k,bv.has k->w1.heap.size<=k/\k < w.heap.size:=fun k h=>hob.in9 k h
  refine ⟨?_,(Below.refl _ _).grown hgr (by omega) (fun k hk=>by cases hk;exact hg.1)⟩
  rcases ho'.2 with ⟨-,h0⟩ | ⟨g',cap',cur,hv',-⟩
  · omega
  · subst hv'
    have hcase:g'=g\/g'=w.heap.size:=by
      rcases hl with e | e
      · exact .inl (by simpa [Value.ownBlock] using e)
      · exact .inr (by simpa [Value.ownBlock] using e)
    have hk3:Kvs base w' g' Z:=by
      refine ⟨fun i hi=>(hk2.own i hi).grown9 hgr (hk2.far i hi),fun i hi=>?_,hk2.inner,hk2.apart⟩
      rcases hcase with rfl | rfl
      · exact hk2.far i hi
      · exact fun e=>by have:=hlt i hi _ e;omega
    have ho3:OwnK base w' b bv:=(hob.mono9 hbase).grown9 hgr (fun e=>by have:=(hbx g e).1;omega)
    refine ⟨g',cap',Z ++ [(b,bv)],by simp [hZ],by simp,?_,hk3.snoc (b,bv) ho3 (fun e=>?_) hin (fun i hi k h1 h2=>by have:=hlt i hi k h1;have:=(hbx k h2).1;omega)⟩
    · rw [List.length_append,List.map_append,List.flatten_append]
      simpa [bkP] using ho'
    · have:=hbx g' e
      rcases hcase with rfl | rfl
      · omega
      · omega
theorem run_appKs (w1 w:World) (ty:TypeId) (base:Nat) (v:Value) (G:Nat) (l:List Bk) (b:Bk) (bv:Bv) (hown:OwnKs base w1 v l) (hb1:Below w1.heap.size w1 w) (hblk:Blk w G 50 (bkC b bv))
    (hob:OwnK w1.heap.size w b bv) (hin:∀ k,bv.q.ownBlock=some k->bv.w.ownBlock ≠ some k) (hlen:l.length<=4000000) (hbase:base<=w1.heap.size) :
    ∃ v' w',Sem.run Tryz.prog (Builtin.append_ #[39,39] ty #[v,.slice (some ⟨G,0,none⟩) 1 1]) w=.ok v' w'/\OwnKs base w' v' (l ++ [b])/\Below base w w':=by
  obtain ⟨g,cap,Z,hZ,rfl,hrow,hk⟩:=hown
  have hone:∀ u ∈ bkC b bv,u.oneCell'=true:=List.all_eq_true.1 (bkC_one hob.rd)
  obtain ⟨i0,hi,hz0,hz1,hz2⟩:=info_parts Tryz.infoBk
  obtain ⟨v',w',hr,h2,h3,h4,h5⟩:=run_append_own_at (P:=Tryz.prog) w base 39 ty 50 i0 _ 14 208 Tryz.underlying39 hi hz0 hz1 hz2 rfl (by decide) _ l.length (Z.map bkP).flatten (row_below hrow hb1 (Nat.le_refl _)) ⟨G,0,none⟩ 1 1 (bkC b bv) rfl (fun j u hj=>by rw [add_flatK,Nat.zero_add,hblk.cell j];exact hj) (fun u hu=>hone u hu) (by unfold maxLen;omega) (by omega) (by have:=hb1.size;omega)
  obtain ⟨q1,q2⟩:=ownKs_grow hZ hrow hk hb1 hob hin hbase h2 h3 h5
  exact ⟨v',w',hr,q1,q2⟩
theorem step_appKs {ops:Array Oper} {o:Oper} {a:Act} {w:World} {K:Act->World->Prop} {Q:Exit->Act->World->Prop} {E:Prop} (w1:World) (hgd:o.guard=none) (s x:Operand)
    (ho:o.op=.call { callee:=.builtin .append,args:=#[s,x],argTypes:=#[39,39] })
    (base:Nat) (v:Value) (G:Nat) (l:List Bk) (b:Bk) (bv:Bv) (hs:a.eval s=v) (hx:a.eval x=.slice (some ⟨G,0,none⟩) 1 1) (hown:OwnKs base w1 v l) (hb1:Below w1.heap.size w1 w) (hblk:Blk w G 50 (bkC b bv))
    (hob:OwnK w1.heap.size w b bv) (hin:∀ k,bv.q.ownBlock=some k->bv.w.ownBlock ≠ some k) (hlen:l.length<=4000000) (hbase:base<=w1.heap.size)
    (h:∀ v' w',OwnKs base w' v' (l ++ [b])->Below base w w'->K (a.put o.dst v') w'):if Region.wanted o (yielded ops a.tmps)=true then Oper.wp Tryz.prog o a w K Q else E:=by
  have hw:Region.wanted o (yielded ops a.tmps)=true:=by simp [Region.wanted,hgd]
  rw [if_pos hw]
  obtain ⟨v',w',hr,h2,h3⟩:=run_appKs w1 w o.type base v G l b bv hown hb1 hblk hob hin hlen hbase
  unfold Oper.wp execOp
  simp only [ho,resolve,invoke,builtin,Sem.run_bind,Sem.run_pure,Result.andThen_ok,List.map_toArray,List.map_cons,List.map_nil,hs,hx,hr]
  exact h v' w' h2 h3
theorem app_ownKs {ops:Array Oper} {rest:List Oper} {o:Oper} {a:Act} {Q:Exit->Act->World->Prop} (w1 w:World) (hgd:o.guard=none) (s x:Operand)
    (ho:o.op=.call { callee:=.builtin .append,args:=#[s,x],argTypes:=#[39,39] })
    (base:Nat) (v:Value) (G:Nat) (l:List Bk) (b:Bk) (bv:Bv) (hs:a.eval s=v) (hx:a.eval x=.slice (some ⟨G,0,none⟩) 1 1) (hown:OwnKs base w1 v l) (hb1:Below w1.heap.size w1 w) (hblk:Blk w G 50 (bkC b bv))
    (hob:OwnK w1.heap.size w b bv) (hin:∀ k,bv.q.ownBlock=some k->bv.w.ownBlock ≠ some k) (hlen:l.length<=4000000) (hbase:base<=w1.heap.size)
    (h:∀ v' w',OwnKs base w' v' (l ++ [b])->Below base w w'->wpList Tryz.prog ops Q rest (a.put o.dst v') w'):wpList Tryz.prog ops Q (o :: rest) a w:=by
  obtain ⟨g,cap,Z,hZ,rfl,hrow,hk⟩:=hown
  have hone:∀ u ∈ bkC b bv,u.oneCell'=true:=List.all_eq_true.1 (bkC_one hob.rd)
  obtain ⟨i0,hi,hz0,hz1,hz2⟩:=info_parts Tryz.infoBk
  refine wpList_append_own_at w hgd s x 39 ho base 50 i0 _ 14 208 Tryz.underlying39 hi hz0 hz1 hz2 rfl (by decide) _ l.length (Z.map bkP).flatten hs (row_below hrow hb1 (Nat.le_refl _)) ⟨G,0,none⟩ 1 1 (bkC b bv) hx rfl (fun j u hj=>by rw [add_flatK,Nat.zero_add,hblk.cell j];exact hj) (fun u hu=>hone u hu) (by unfold maxLen;omega) (by omega) (by have:=hb1.size;omega) ?_
  intro v' w' ho' hgr hn hl
  obtain ⟨q1,q2⟩:=ownKs_grow hZ hrow hk hb1 hob hin hbase ho' hgr hl
  exact h v' w' q1 q2
theorem own_nilKs (w:World) (base:Nat) (h:base<=w.heap.size):OwnKs base (w.alloc (.cells #[] 50)) (.slice (some ⟨w.heap.size,0,none⟩) 0 0) []:=by
  refine ⟨w.heap.size,0,[],rfl,rfl,?_,Kvs.nil _ _ _⟩
  exact World.ownsRow_lit w #[] 0 h (by unfold maxLen;omega) (by simp)
theorem specCopyKs_any (v:Value) (l:List Bk) (w:World) (hr:RdKs w v l) (hl:l.length<=3999999) (hf:∀ b ∈ l,FewK b) :
    Calls Tryz.prog 177 #[v] w fun e w'=>∃ v',e=.returned v'/\OwnKs w.heap.size w' v' l/\Below w.heap.size w w':=by
  obtain ⟨a,cap,rfl⟩:=hr.shape
  have Hr:=hide hr
  have Hf:=hide hf
  have o1:=own_nilKs w w.heap.size (Nat.le_refl _)
  have b1:Below w.heap.size w (w.alloc (.cells #[] 50)):=(Below.refl _ w).alloc (Nat.le_refl _) _
  clear hr hf
  go_enter Tryz.func177,Tryz.ntmps177
  go_wp2
  go_loopw [4,3] (fun iv ov wr=>∃ k:Nat,k<=l.length/\iv=.int .i64 (k:Int)/\OwnKs w.heap.size wr ov (l.take k)/\Below w.heap.size w wr) (fun iv _ _=>l.length - (intOf iv).toNat)
  case atStart=>exact ⟨0,Nat.zero_le _,rfl,o1,b1⟩
  case round =>
    clear o1 b1
    obtain ⟨k,hk,rfl,ho,hb⟩:=hrel
    by_cases hlt:k < l.length
    · obtain ⟨b,off,rfl,h3,hcell⟩:=Hr.out.parts9 (by omega)
      obtain ⟨lv,hat,hrl⟩:=hcell k hlt
      obtain ⟨c0,c1,c2,c3,c4,c5,c6,c7,c8,c9,c10,c11,c12,c13⟩:=(hat.below hb h3).cells
      have HC:=hide (specCopied_any l[k] lv wr (hrl.below hb (Nat.le_refl _)) (Hf.out _ (List.getElem_mem hlt)))
      have Hsh:=hide hrl.shapes9
      have HY:Hid (l.take k ++ [l[k]]=l.take (k+1)):=hide (by rw [List.take_succ_eq_append_getElem hlt])
      have hki:(k:Int) < (l.length:Int):=by omega
      have hk0:(0:Int)<=(k:Int):=by omega
      have hln:(l.take k).length=k:=by simp;omega
      have Hln:=hide hln
      obtain ⟨oa,oc,hv0⟩:=ho.rd.shape
      rw [hln] at hv0
      subst hv0
      have Ho:=hide ho
      have Hb:=hide hb
      clear hat hrl hcell ho hb hln
      generalize l[k]=ak at c0 c1 c2 c3 c4 c5 c6 c7 c8 c9 c10 c11 c12 c13 HC Hsh HY
      obtain ⟨aq,cq,aw,cw,ah,ch,at_,ct,an,cn,rfl⟩:=Hsh.out
      clear Hsh
      obtain ⟨id',ep,rd,md,qr,qb,qw,tr,tw,th,ts,en,nx,rt⟩:=ak
      simp only [bkV] at c0 c1 c2 c3 c4 c5 c6 c7 c8 c9 c10 c11 c12 c13 HC
      go_wp2_with fail
      refine HC.out.mono ?_
      rintro e w2 ⟨v2,rfl,o2,hin,hb2⟩
      obtain ⟨aq2,cq2,aw2,cw2,ah2,ch2,at2,ct2,an2,cn2,rfl⟩:=o2.rd.shapes9
      simp only at o2 hin ⊢
      obtain ⟨w3,hw3⟩:∃ x,w2.alloc (.cells #[.int .i64 id',.int .i64 ep,.int .i64 rd,.string md,.int .i64 qr,.int .i64 qb,.slice aq2 qw.length cq2,.int .i64 tr,.slice aw2 tw.length cw2,.slice ah2 th.length ch2,.slice at2 ts.length ct2,.bool en,.slice an2 nx.length cn2,.string rt] 50)=x:=⟨_,rfl⟩
      have b3:Below w2.heap.size w2 w3:=by rw [<- hw3];exact (Below.refl _ w2).alloc (Nat.le_refl _) _
      have K3:Hid (Blk w3 w2.heap.size 50 (bkC ⟨id',ep,rd,md,qr,qb,qw,tr,tw,th,ts,en,nx,rt⟩ ⟨.slice aq2 qw.length cq2,.slice aw2 tw.length cw2,.slice ah2 th.length ch2,.slice at2 ts.length ct2,.slice an2 nx.length cn2⟩)):=hide (by rw [<- hw3];exact Blk.new w2 _ _)
      have O3:=hide (o2.below9 b3 (Nat.le_refl _))
      have B3:=hide (hb2.trans (b3.mono hb2.size))
      have HB3:=hide (Hb.out.trans (B3.out.mono Hb.out.size))
      have Hin:=hide hin
      clear o2 hb2 b3 hin HC c0 c1 c2 c3 c4 c5 c6 c7 c8 c9 c10 c11 c12 c13
      go_wp2_with (at_builtin;(try rw [hw3]);refine app_ownKs wr w3 rfl _ _ rfl w.heap.size (.slice oa k oc) w2.heap.size (l.take k) ⟨id',ep,rd,md,qr,qb,qw,tr,tw,th,ts,en,nx,rt⟩ ⟨.slice aq2 qw.length cq2,.slice aw2 tw.length cw2,.slice ah2 th.length ch2,.slice at2 ts.length ct2,.slice an2 nx.length cn2⟩ rfl rfl Ho.out B3.out K3.out O3.out Hin.out (by have:=Hln.out;omega) Hb.out.size ?_;intro v5 w5 ho5 hb5)
      have HO5:Hid (OwnKs w.heap.size w5 v5 (l.take (k+1))):=hide (by rw [<- HY.out];exact ho5)
      go_roundw
      case rel=>exact ⟨k+1,by omega,by go_num,HO5.out,HB3.out.trans hb5⟩
      case measure=>simp [intOf];omega
    · obtain rfl:k=l.length:=by omega
      rw [List.take_length] at ho
      have Ho:=hide ho
      obtain ⟨oa,oc,rfl⟩:=ho.rd.shape
      clear ho
      go_wp2
      go_ret
      exact ⟨_,rfl,Ho.out,hb⟩
def insK (k:Nat) (b:Bk) (l:List Bk):List Bk:=l.take k ++ b :: l.drop k
theorem insK_len {k:Nat} {b:Bk} {l:List Bk}:(insK k b l).length=l.length+1:=by
  unfold insK
  rw [List.length_append,List.length_cons,List.length_take,List.length_drop]
  omega
theorem insK_all (b:Bk) (l:List Bk):insK l.length b l=l ++ [b]:=by simp [insK]
theorem insK_mem {k:Nat} {b:Bk} {l:List Bk}:∀ x ∈ insK k b l,x=b\/x ∈ l:=by
  intro x hx
  unfold insK at hx
  rcases List.mem_append.1 hx with h | h
  · exact .inr (List.mem_of_mem_take h)
  · rcases List.mem_cons.1 h with h | h
    · exact .inl h
    · exact .inr (List.mem_of_mem_drop h)
theorem insK_get {k:Nat} {b:Bk} {l:List Bk} (hk:k<=l.length) (i:Nat):(insK k b l)[i]?=if i < k then l[i]? else if i=k then some b else l[i - 1]?:=by
  unfold insK
  by_cases h1:i < k
  · rw [if_pos h1,List.getElem?_append_left (by simp;omega),List.getElem?_take,if_pos h1]
  · rw [if_neg h1,List.getElem?_append_right (by simp;omega),List.length_take,Nat.min_eq_left hk]
    by_cases h2:i=k
    · subst h2;rw [if_pos rfl,Nat.sub_self];rfl
    · rw [if_neg h2]
      obtain ⟨d,rfl⟩:∃ d,i=k+1+d:=⟨i - k - 1,by omega⟩
      rw [show k+1+d - k=d+1 from by omega,List.getElem?_cons_succ,List.getElem?_drop]
      congr 1
      omega
theorem insK_at {k:Nat} {b:Bk} {l:List Bk} (hk:k<=l.length) (h:k < (insK k b l).length):(insK k b l)[k]=b:=by
  have:=insK_get (b:=b) hk k
  rw [if_neg (by omega),if_pos rfl,List.getElem?_eq_getElem h] at this
  exact Option.some.inj this
theorem insK_pre {k:Nat} {b:Bk} {l:List Bk} (hk:k < l.length) (h:k < (insK (k+1) b l).length):(insK (k+1) b l)[k]=l[k]:=by
  have:=insK_get (b:=b) (k:=k+1) (l:=l) (by omega) k
  rw [if_pos (by omega),List.getElem?_eq_getElem h,List.getElem?_eq_getElem hk] at this
  exact Option.some.inj this
theorem insK_swap {k:Nat} {b:Bk} {l:List Bk} (hk:k < l.length):((insK (k+1) b l).set k b).set (k+1) l[k]=insK k b l:=by
  apply List.ext_getElem?
  intro i
  have hl1:(insK (k+1) b l).length=l.length+1:=insK_len
  rw [insK_get (by omega),List.getElem?_set]
  by_cases e1:k+1=i
  · subst e1
    rw [if_pos rfl,if_pos (by simp [hl1];omega),if_neg (by omega),if_neg (by omega),Nat.add_sub_cancel,List.getElem?_eq_getElem hk]
  · rw [if_neg e1,List.getElem?_set]
    by_cases e2:k=i
    · subst e2
      rw [if_pos rfl,if_pos (by omega),if_neg (by omega),if_pos rfl]
    · rw [if_neg e2,insK_get (by omega)]
      by_cases h3:i < k
      · rw [if_pos (by omega),if_pos h3]
      · rw [if_neg (by omega),if_neg (by omega),if_neg h3,if_neg (by omega)]
def buF (l:List Bk) (d:Int):Nat->Nat
  | 0=>0
  | k+1=>if d < idAt l k then buF l d k else k+1
theorem buF_le (l:List Bk) (d:Int):∀ k,buF l d k<=k
  | 0=>Nat.le_refl _
  | k+1=>by
    have:=buF_le l d k
    unfold buF
    split <;> omega
def adS (l:List Bk) (b:Bk):List Bk × Bool :=
  if 0<=atI l b.id then (l,false) else if treeB (insK (buF l b.id l.length) b l)=true then (insK (buF l b.id l.length) b l,true) else (l,false)
theorem Blk.newK (W:World) (t:TypeId) (cs:List Value) (n:Nat) (h:n=W.heap.size):Blk (W.alloc (.cells cs.toArray t)) n t cs:=by subst h;exact Blk.new W t cs
theorem OwnKs.mono9L {base base':Nat} {w:World} {v:Value} {l:List Bk} (h:OwnKs base w v l) (hB:base'<=base):OwnKs base' w v l:=by
  obtain ⟨g,cap,Z,hZ,rfl,hr,hk⟩:=h
  refine ⟨g,cap,Z,hZ,rfl,⟨hr.1,?_⟩,⟨fun i hi=>(hk.own i hi).mono9 hB,hk.far,hk.inner,hk.apart⟩⟩
  rcases hr.2 with h' | ⟨g',cap',cur,hv,hbb,r⟩
  · exact .inl h'
  · exact .inr ⟨g',cap',cur,hv,by omega,r⟩
def bkN:Bk:=⟨0,0,0,⟨#[]⟩,0,0,[],0,[],[],[],false,[],⟨#[]⟩⟩
theorem Kvs.swap {base:Nat} {w:World} {g:Nat} {Z:List (Bk × Bv)} (h:Kvs base w g Z) {i j:Nat} (hi:i < Z.length) (hj:j < Z.length) (hij:i ≠ j):Kvs base w g ((Z.set i Z[j]).set j Z[i]):=by
  have hm:∀ k (hk:k < ((Z.set i Z[j]).set j Z[i]).length),∃ k',∃ hk':k' < Z.length,((Z.set i Z[j]).set j Z[i])[k]=Z[k']/\((k=j/\k'=i)\/(k ≠ j/\k=i/\k'=j)\/(k ≠ j/\k ≠ i/\k'=k)):=fun k hk=>by
    have hk2:k < Z.length:=by simpa using hk
    rw [List.getElem_set]
    by_cases e1:j=k
    · subst e1;rw [if_pos rfl];exact ⟨i,hi,rfl,.inl ⟨rfl,rfl⟩⟩
    · rw [if_neg e1,List.getElem_set]
      by_cases e2:i=k
      · subst e2;rw [if_pos rfl];exact ⟨j,hj,rfl,.inr (.inl ⟨by omega,rfl,rfl⟩)⟩
      · rw [if_neg e2];exact ⟨k,hk2,rfl,.inr (.inr ⟨by omega,by omega,rfl⟩)⟩
  refine ⟨fun k hk=>?_,fun k hk=>?_,fun k hk=>?_,fun k m hk hm2 hkm x hx=>?_⟩
  · obtain ⟨k',hk',e,-⟩:=hm k hk
    rw [e];exact h.own k' hk'
  · obtain ⟨k',hk',e,-⟩:=hm k hk
    rw [e];exact h.far k' hk'
  · obtain ⟨k',hk',e,-⟩:=hm k hk
    rw [e];exact h.inner k' hk'
  · obtain ⟨k',hk',e,e9⟩:=hm k hk
    obtain ⟨m',hm',f,f9⟩:=hm m hm2
    rw [e] at hx
    rw [f]
    exact h.apart k' m' hk' hm' (by omega) x hx
structure SwP (base:Nat) (wd:World) (g n cap m:Nat) (Z:List (Bk × Bv)) (c1 c2:List Value) (wA wB wC wD:World):Prop where
  a:wd.alloc (.cells #[.int .i64 0,.int .i64 0,.int .i64 0,.string { data:=#[] },.int .i64 0,.int .i64 0,.slice none 0 0,.int .i64 0,.slice none 0 0,.slice none 0 0,.slice none 0 0,.bool false,.slice none 0 0,.string { data:=#[] }] 50)=wA
  b:wA.setCells wd.heap.size 0 c1=wB
  c:wB.setCells g (m * 14) c2=wC
  d:wC.setCells g ((m+1) * 14) c1=wD
  l1:c1.length=14
  l2:c2.length=14
  o1:c1.all (·.oneCell')=true
  o2:c2.all (·.oneCell')=true
  r1:wd.rangeAt g (m * 14) c1
  tA:wA.there wd.heap.size 0 14
  r2:wB.rangeAt g ((m+1) * 14) c2
  t1:wB.there g (m * 14) 14
  r3:wC.rangeAt wd.heap.size 0 c1
  t2:wC.there g ((m+1) * 14) 14
  bel:Below base wd wD
  own:∀ L,(((Z.map (·.1)).set m ((Z.map (·.1))[m+1]?.getD bkN)).set (m+1) ((Z.map (·.1))[m]?.getD bkN))=L->OwnKs base wD (.slice (some ⟨g,0,none⟩) n cap) L
theorem swap_mem {base:Nat} {wd:World} {g n cap m:Nat} {Z:List (Bk × Bv)} (hrow:wd.ownsRow base 50 14 (.slice (some ⟨g,0,none⟩) n cap) n (Z.map bkP).flatten) (hkv:Kvs base wd g Z) (hZl:Z.length=n) (hm:m+1 < Z.length) :
    ∃ c1 c2 wA wB wC wD,SwP base wd g n cap m Z c1 c2 wA wB wC wD:=by
  have hgl:=World.ownsRow.lt hrow g rfl
  have hmz:m < Z.length:=by omega
  have hfl:(Z.map bkP).flatten.length=14 * n:=by rw [flat_len 14 _ (bkP_sz Z),List.length_map,hZl];omega
  have bA:Below wd.heap.size wd (wd.alloc (.cells #[.int .i64 0,.int .i64 0,.int .i64 0,.string { data:=#[] },.int .i64 0,.int .i64 0,.slice none 0 0,.int .i64 0,.slice none 0 0,.slice none 0 0,.slice none 0 0,.bool false,.slice none 0 0,.string { data:=#[] }] 50)):=(Below.refl _ wd).alloc (Nat.le_refl _) _
  have kA:Blk (wd.alloc (.cells #[.int .i64 0,.int .i64 0,.int .i64 0,.string { data:=#[] },.int .i64 0,.int .i64 0,.slice none 0 0,.int .i64 0,.slice none 0 0,.slice none 0 0,.slice none 0 0,.bool false,.slice none 0 0,.string { data:=#[] }] 50)) wd.heap.size 50 bkZ:=Blk.new wd _ _
  obtain ⟨wA,hwA⟩:∃ x,wd.alloc (.cells #[.int .i64 0,.int .i64 0,.int .i64 0,.string { data:=#[] },.int .i64 0,.int .i64 0,.slice none 0 0,.int .i64 0,.slice none 0 0,.slice none 0 0,.slice none 0 0,.bool false,.slice none 0 0,.string { data:=#[] }] 50)=x:=⟨_,rfl⟩
  rw [hwA] at bA kA
  obtain ⟨c1,hc1⟩:∃ c,bkC Z[m].1 Z[m].2=c:=⟨_,rfl⟩
  obtain ⟨c2,hc2⟩:∃ c,bkC Z[m+1].1 Z[m+1].2=c:=⟨_,rfl⟩
  have l1:c1.length=14:=by rw [<- hc1];rfl
  have l2:c2.length=14:=by rw [<- hc2];rfl
  have o1:c1.all (·.oneCell')=true:=by rw [<- hc1];exact bkC_one (hkv.own m hmz).rd
  have o2:c2.all (·.oneCell')=true:=by rw [<- hc2];exact bkC_one (hkv.own (m+1) hm).rd
  have tA:wA.there wd.heap.size 0 14:=fun j hj=>⟨by rw [Nat.zero_add,kA.cell j,List.getElem?_eq_getElem (show j < bkZ.length from hj)];rfl,by rw [Nat.zero_add];exact kA.frozen j⟩
  have rng:∀ (w:World) (i:Nat) (hi:i < Z.length) (xs:List Value),w.ownsRow base 50 14 (.slice (some ⟨g,0,none⟩) n cap) n (Z.map bkP).flatten->bkC Z[i].1 Z[i].2=xs->w.rangeAt g (i * 14) xs:=fun w i hi xs hr hx j v hv=>by
    have hj:j < 14:=by have:=(List.getElem?_eq_some_iff.1 hv).1;rw [<- hx] at this;exact this
    have h9:=rowP_at hr hZl i hi j hj
    rw [Nat.zero_add] at h9
    rw [h9,hx];exact hv
  have r1:=rng wd m hmz c1 hrow hc1
  have bB:=putC_below (B:=wd.heap.size) (Nat.le_refl _) c1 wA 0
  have hrowA:=row_below hrow bA (Nat.le_refl _)
  have hneX:∀ k,(Value.slice (some ⟨g,0,none⟩) n cap).ownBlock=some k->k ≠ wd.heap.size:=fun k hk=>by
    have e9:g=k:=by simpa [Value.ownBlock] using hk
    omega
  have hrowB:(wA.setCells wd.heap.size 0 c1).ownsRow base 50 14 (.slice (some ⟨g,0,none⟩) n cap) n (Z.map bkP).flatten:=World.ownsRow.kept hrowA (putC_grown wd.heap.size c1 wA 0) (.inr (fun e=>hneX wd.heap.size e rfl))
  have hkA:=hkv.below bA (Nat.le_refl _)
  have hkB:Kvs base (wA.setCells wd.heap.size 0 c1) g Z:=⟨fun i hi=>(hkA.own i hi).grown9 (putC_grown wd.heap.size c1 wA 0) (fun e=>by have:=((hkv.own i hi).in9 _ e).2;omega),hkA.far,hkA.inner,hkA.apart⟩
  have r3B:(wA.setCells wd.heap.size 0 c1).rangeAt wd.heap.size 0 c1:=World.rangeAt_setCells_same wA wd.heap.size 0 c1 (by rw [l1];exact tA)
  obtain ⟨wB,hwB⟩:∃ x,wA.setCells wd.heap.size 0 c1=x:=⟨_,rfl⟩
  rw [hwB] at hrowB hkB r3B bB
  have r2:=rng wB (m+1) hm c2 hrowB hc2
  have t1:wB.there g (m * 14) 14:=row_there hrowB (by rw [hfl];omega)
  have gC:=putC_grown g c2 wB (m * 14)
  have bC:=putC_below (B:=base) hgl.1 c2 wB (m * 14)
  have hrowC:=putC_row c2 wB (m * 14) _ hrowB
  have r3:(wB.setCells g (m * 14) c2).rangeAt wd.heap.size 0 c1:=World.rangeAt_setCells_apart r3B g (m * 14) c2 (.inl (by omega))
  obtain ⟨wC,hwC⟩:∃ x,wB.setCells g (m * 14) c2=x:=⟨_,rfl⟩
  rw [hwC] at gC bC hrowC r3
  have t2:wC.there g ((m+1) * 14) 14:=row_there hrowC (by rw [setAll_len,hfl];omega)
  have gD:=putC_grown g c1 wC ((m+1) * 14)
  have bD:=putC_below (B:=base) hgl.1 c1 wC ((m+1) * 14)
  have hrowD:=putC_row c1 wC ((m+1) * 14) _ hrowC
  obtain ⟨wD,hwD⟩:∃ x,wC.setCells g ((m+1) * 14) c1=x:=⟨_,rfl⟩
  rw [hwD] at gD bD hrowD
  have eF:setAll (setAll (Z.map bkP).flatten (m * 14) c2) ((m+1) * 14) c1=(((Z.set m Z[m+1]).set (m+1) Z[m]).map bkP).flatten:=by
    rw [setAll_flat 14 _ (Z.map bkP) m (by simpa using hmz) (bkP_sz Z) l2,<- hc2]
    have h2:(Z.map bkP).set m (bkC Z[m+1].1 Z[m+1].2)=(Z.set m Z[m+1]).map bkP:=by rw [List.map_set];rfl
    rw [h2,setAll_flat 14 _ ((Z.set m Z[m+1]).map bkP) (m+1) (by simpa using hm) (bkP_sz _) l1,<- hc1,List.map_set (f:=bkP) (l:=Z.set m Z[m+1])]
    rfl
  rw [eF] at hrowD
  refine ⟨c1,c2,wA,wB,wC,wD,⟨hwA,hwB,hwC,hwD,l1,l2,o1,o2,r1,tA,r2,t1,r3,t2,?_,fun L hL=>?_⟩⟩
  · exact ((bA.mono (by omega)).trans (bB.mono (by omega))).trans (bC.trans bD)
  · have hk4:=((hkB.grown gC).grown gD).swap hmz hm (by omega)
    have hLl:L.length=n:=by rw [<- hL];simp [hZl]
    refine ⟨g,cap,(Z.set m Z[m+1]).set (m+1) Z[m],?_,by rw [hLl],by rw [hLl];exact hrowD,hk4⟩
    rw [<- hL,List.map_set,List.map_set]
    simp [hm,hmz]
theorem specAddTo_any (v:Value) (l:List Bk) (b:Bk) (bv:Bv) (w:World) (hr:RdKs w v l) (hrb:RdK w b bv) (hl:l.length<=3999998) (hf:∀ x ∈ l,FewK x) (hfb:FewK b) (hbd:∀ x ∈ l,-9223372036854775808<=x.tr/\x.tr<=9223372036854775807) (hbb:-9223372036854775808<=b.tr/\b.tr<=9223372036854775807) :
    Calls Tryz.prog 122 #[v,bkV b bv] w fun e w'=>∃ v',e=.returned (.tuple #[v',.bool (adS l b).2])/\OwnKs w.heap.size w' v' (adS l b).1/\Below w.heap.size w w':=by
  obtain ⟨a,cap,rfl⟩:=hr.shape
  obtain ⟨aq,cq,aw,cw,ah,ch,at_,ct,an,cn,rfl⟩:=hrb.shapes9
  have HCp:=hide (fun V (hV:Below w.heap.size w V)=>specCopyKs_any (.slice a l.length cap) l V (hr.below hV (Nat.le_refl _)) (by omega) hf)
  have HAt:=hide (fun V (hV:Below w.heap.size w V)=>specAt_any (.slice a l.length cap) l b.id V (hr.below hV (Nat.le_refl _)) (by omega))
  have HCb:=hide (fun V (hV:Below w.heap.size w V)=>specCopied_any b _ V (hrb.below hV (Nat.le_refl _)) hfb)
  have HTr:Hid (∀ (k:Nat) V v,RdKs V v (insK k b l)->Calls Tryz.prog 72 #[v] V fun e w'=>e=.returned (.bool (treeB (insK k b l)))/\Below V.heap.size V w'):=hide (fun k V v h=>specTreeOk_any v (insK k b l) V h (by rw [insK_len];omega) (fun x hx=>by rcases insK_mem x hx with rfl | h;exact hfb;exact hf x h) (fun x hx=>by rcases insK_mem x hx with rfl | h;exact hbb;exact hbd x h))
  have HP:Hid (∀ (P:List Bk) (q:Bool),adS l b=(P,q)->∀ v' w',OwnKs w.heap.size w' v' P->Below w.heap.size w w'->∃ v'',(Ending.returned (.tuple #[v',.bool q])=.returned (.tuple #[v'',.bool (adS l b).2]))/\OwnKs w.heap.size w' v'' (adS l b).1/\Below w.heap.size w w'):=hide (fun P q h v' w' ho hb=>⟨v',by rw [h],by rw [h];exact ho,hb⟩)
  have HA0:Hid (0<=atI l b.id->adS l b=(l,false)):=hide (fun h=>by unfold adS;rw [if_pos h])
  have HA1:Hid (¬ 0<=atI l b.id->treeB (insK (buF l b.id l.length) b l)=false->adS l b=(l,false)):=hide (fun h h2=>by unfold adS;rw [if_neg h,h2,if_neg (by simp)])
  have HA2:Hid (¬ 0<=atI l b.id->treeB (insK (buF l b.id l.length) b l)=true->adS l b=(insK (buF l b.id l.length) b l,true)):=hide (fun h h2=>by unfold adS;rw [if_neg h,if_pos h2])
  clear hr hrb hf hfb hbd hbb
  obtain ⟨id,ep,rd,md,qr,qb,qw,tr,tw,th,ts,en,nx,rt⟩:=b
  simp only at HAt HCb HA0 HA1 HA2
  obtain ⟨B,hB⟩:∃ B:Bk,⟨id,ep,rd,md,qr,qb,qw,tr,tw,th,ts,en,nx,rt⟩=B:=⟨_,rfl⟩
  have HBd:=hide hB
  obtain ⟨w1,hw1⟩:∃ x,w.alloc (.cells #[.int .i64 id,.int .i64 ep,.int .i64 rd,.string md,.int .i64 qr,.int .i64 qb,.slice aq qw.length cq,.int .i64 tr,.slice aw tw.length cw,.slice ah th.length ch,.slice at_ ts.length ct,.bool en,.slice an nx.length cn,.string rt] 50)=x:=⟨_,rfl⟩
  have b1:Below w.heap.size w w1:=by rw [<- hw1];exact (Below.refl _ w).alloc (Nat.le_refl _) _
  have k1:Blk w1 w.heap.size 50 [.int .i64 id,.int .i64 ep,.int .i64 rd,.string md,.int .i64 qr,.int .i64 qb,.slice aq qw.length cq,.int .i64 tr,.slice aw tw.length cw,.slice ah th.length ch,.slice at_ ts.length ct,.bool en,.slice an nx.length cn,.string rt]:=by rw [<- hw1];exact Blk.new w _ _
  have x0:=k1.cell 0
  simp only [List.getElem?_cons_zero] at x0
  have B1:=hide b1
  have K1:=hide k1
  have hs1:=b1.size
  simp only [bkV] at HCb ⊢
  rw [hB] at HTr HP HA0 HA1 HA2 ⊢
  clear b1 k1 hB
  go_enter Tryz.func122,Tryz.ntmps122
  go_wp2_with fail
  refine (HAt.out w1 B1.out).mono ?_
  rintro e w2 ⟨rfl,rfl⟩
  by_cases hat:0<=atI l id
  · have HE:=hide (HA0.out hat)
    clear HA1 HA2 HTr HCb
    go_wp2_with fail
    refine (HCp.out w2 B1.out).mono ?_
    rintro e w3 ⟨v3,rfl,o3,hb3⟩
    have HO:=hide (o3.mono9L B1.out.size)
    have HB:=hide (B1.out.trans (hb3.mono B1.out.size))
    clear o3 hb3
    go_wp2
    go_ret2
    exact HP.out l false HE.out _ _ HO.out HB.out
  · have hat2:atI l id < 0:=by omega
    have HN1:=hide (HA1.out (by first | exact hat | omega))
    have HN2:=hide (HA2.out (by first | exact hat | omega))
    clear HA0 HA1 HA2 HAt
    clear hat
    go_upto_region 3 with fail
    have y0:=K1.out.cell 0
    have y1:=K1.out.cell 1
    have y2:=K1.out.cell 2
    have y3:=K1.out.cell 3
    have y4:=K1.out.cell 4
    have y5:=K1.out.cell 5
    have y6:=K1.out.cell 6
    have y7:=K1.out.cell 7
    have y8:=K1.out.cell 8
    have y9:=K1.out.cell 9
    have y10:=K1.out.cell 10
    have y11:=K1.out.cell 11
    have y12:=K1.out.cell 12
    have y13:=K1.out.cell 13
    simp only [List.getElem?_cons_zero,List.getElem?_cons_succ] at y0 y1 y2 y3 y4 y5 y6 y7 y8 y9 y10 y11 y12 y13
    have bD:Below w2.heap.size w2 w2.drew:=(Below.refl _ w2).drew
    go_region_law ((first
      | (refine step_appKs w3 rfl _ _ rfl w2.heap.size v3 w4.heap.size l ⟨id,ep,rd,md,qr,qb,qw,tr,tw,th,ts,en,nx,rt⟩ ⟨.slice aq4 qw.length cq4,.slice aw4 tw.length cw4,.slice ah4 th.length ch4,.slice at4 ts.length ct4,.slice an4 nx.length cn4⟩ (by rfl) (by rfl) o3 B4 (Blk.newK w4 _ [.int .i64 id,.int .i64 ep,.int .i64 rd,.string md,.int .i64 qr,.int .i64 qb,.slice aq4 qw.length cq4,.int .i64 tr,.slice aw4 tw.length cw4,.slice ah4 th.length ch4,.slice at4 ts.length ct4,.bool en,.slice an4 nx.length cn4,.string rt] _ rfl) O4 hin4 (by omega) hz3 ?_;intro v5 w5 o5 hb5)
      | (go_simp;go_at_call 178;refine (HCb.out w3 B3).mono ?_;rintro e w4 ⟨v4,rfl,o4,hin4,hb4⟩;have hsh:=o4.rd.shapes9;obtain ⟨aq4,cq4,aw4,cw4,ah4,ch4,at4,ct4,an4,cn4,hv4⟩:=hsh;subst hv4;have B4:=hb4.trans ((Below.refl w4.heap.size w4).alloc (Nat.le_refl _) (.cells #[.int .i64 id,.int .i64 ep,.int .i64 rd,.string md,.int .i64 qr,.int .i64 qb,.slice aq4 qw.length cq4,.int .i64 tr,.slice aw4 tw.length cw4,.slice ah4 th.length ch4,.slice at4 ts.length ct4,.bool en,.slice an4 nx.length cn4,.string rt] 50) |>.mono hb4.size);have O4:=o4.below9 ((Below.refl w4.heap.size w4).alloc (Nat.le_refl _) (.cells #[.int .i64 id,.int .i64 ep,.int .i64 rd,.string md,.int .i64 qr,.int .i64 qb,.slice aq4 qw.length cq4,.int .i64 tr,.slice aw4 tw.length cw4,.slice ah4 th.length ch4,.slice at4 ts.length ct4,.bool en,.slice an4 nx.length cn4,.string rt] 50)) (Nat.le_refl _))
      | (go_simp;go_at_call 177;refine (HCp.out w2.drew B1.out.drew).mono ?_;rintro e w3 ⟨v3,rfl,o3,hb3⟩;have hz3:=hb3.size;have B3:=B1.out.drew.trans (hb3.mono B1.out.size);have k3:=K1.out.below (bD.trans (hb3.mono bD.size)) K1.out.lt;have u0:=k3.cell 0;have u1:=k3.cell 1;have u2:=k3.cell 2;have u3:=k3.cell 3;have u4:=k3.cell 4;have u5:=k3.cell 5;have u6:=k3.cell 6;have u7:=k3.cell 7;have u8:=k3.cell 8;have u9:=k3.cell 9;have u10:=k3.cell 10;have u11:=k3.cell 11;have u12:=k3.cell 12;have u13:=k3.cell 13;simp only [List.getElem?_cons_zero,List.getElem?_cons_succ] at u0 u1 u2 u3 u4 u5 u6 u7 u8 u9 u10 u11 u12 u13)))
    all_goals

      have o5b:OwnKs w2.heap.size w5 v5 (insK l.length B l):=by rw [insK_all,<- HBd.out];exact o5
      obtain ⟨a5,c5,hv5⟩:=o5b.rd.shape
      rw [insK_len] at hv5
      subst hv5
      have bAll:=((bD.trans (hb3.mono bD.size)).trans (B4.mono (by have:=bD.size;have:=hb3.size;omega))).trans hb5
      have O5:=hide o5b
      have K5:=hide (K1.out.below bAll K1.out.lt)
      have B5:=hide (B1.out.trans (bAll.mono B1.out.size))
      have hx1:=K1.out.lt
      have Hbb:=hide (buF_le l id l.length)
      clear o5 o5b bAll hb5 B4 O4 hin4 o3 hb3 hz3 B3 k3 bD y0 y1 y2 y3 y4 y5 y6 y7 y8 y9 y10 y11 y12 y13 u0 u1 u2 u3 u4 u5 u6 u7 u8 u9 u10 u11 u12 u13 hb4 o4 x0 K1 HCb
      go_wp2
      go_loopw [7] (fun kv wr=>∃ k:Nat,k<=l.length/\kv=.int .i64 (k:Int)/\OwnKs w2.heap.size wr (.slice a5 (l.length+1) c5) (insK k B l)/\Below w.heap.size w wr/\Blk wr w.heap.size 50 [.int .i64 id,.int .i64 ep,.int .i64 rd,.string md,.int .i64 qr,.int .i64 qb,.slice aq qw.length cq,.int .i64 tr,.slice aw tw.length cw,.slice ah th.length ch,.slice at_ ts.length ct,.bool en,.slice an nx.length cn,.string rt]/\buF l id k=buF l id l.length) (fun kv _=>(intOf kv).toNat)
      case atStart=>exact ⟨l.length,Nat.le_refl _,by go_num,O5.out,B5.out,K5.out,rfl⟩
      case round =>
        clear O5 K5 B5
        obtain ⟨k,hk,rfl,ho,hb,kb,hbu⟩:=hrel
        have z0:=kb.cell 0
        simp only [List.getElem?_cons_zero] at z0
        have hwz:=kb.lt
        rcases k with _ | m
        · have Hk9:Hid (buF l id 0=0):=hide rfl
          have Hbu:=hide hbu
          have Ho:=hide ho
          have Hb:=hide hb
          clear ho hb kb hbu
          have hz:((0:Nat):Int)=0:=rfl
          rw [hz]
          clear hz
          go_upto_region 5 with fail
          refine wp_region_quiet_below (by kernel_rfl) (by kernel_rfl) ?_
          repeat (go_big_quiet_step (fail))
          refine wpQuiet_nil ?_
          rintro wd ⟨⟨dq,osq⟩,hwd⟩
          have bD9:Below wr.heap.size wr wd:=by rw [hwd];exact below_regrown wr dq osq
          clear hwd
          have HTk:=hide (HTr.out (0) wd _ (Ho.out.rd.below bD9 (Nat.le_refl _)))
          have HbD:=hide (Hb.out.trans (bD9.mono Hb.out.size))
          have HOd:=hide (Ho.out.below bD9 (Nat.le_refl _))
          clear bD9
          go_wp2_with fail
          refine HTk.out.mono ?_
          rintro e w6 ⟨rfl,hb6⟩
          have HB6:=hide (HbD.out.trans (hb6.mono HbD.out.size))
          have HO6:=hide (HOd.out.below hb6 (Nat.le_refl _))
          clear hb6 HTk HTr HbD HOd Ho Hb
          cases htb:treeB (insK (0) B l)
          · have HE:=hide (HN1.out (by rw [<- Hbu.out,Hk9.out];exact htb))
            clear htb HN1 HN2 HO6
            go_wp2_with fail
            refine (HCp.out w6 HB6.out).mono ?_
            rintro e w7 ⟨v7,rfl,o7,hb7⟩
            have HO:=hide (o7.mono9L HB6.out.size)
            have HBx:=hide (HB6.out.trans (hb7.mono HB6.out.size))
            obtain ⟨a7,c7,rfl⟩:=o7.rd.shape
            clear o7 hb7
            go_wp2
            go_ret2
            exact HP.out l false HE.out _ _ HO.out HBx.out
          · have HE:=hide (HN2.out (by rw [<- Hbu.out,Hk9.out];exact htb))
            have HX:=hide (HO6.out.mono9L (show w.heap.size<=w2.heap.size from hs1))
            rw [<- Hbu.out,Hk9.out] at HE
            clear htb HN1 HN2 HO6
            go_wp2
            go_ret2
            exact HP.out _ true HE.out _ _ HX.out HB6.out
        · have hml:m < l.length:=by omega
          have hsub:wrap64 (((m+1:Nat):Int) - 1)=(m:Int):=by unfold wrap64;omega
          have hsb2:IntKind.i64.wrap (((m+1:Nat):Int) - 1)=(m:Int):=by rw [IntKind.wrap_i64];omega
          have hmi:(m:Int) < ((l.length+1:Nat):Int):=by omega
          have hm0:(0:Int)<=(m:Int):=by omega
          have hmi1:((m+1:Nat):Int) < ((l.length+1:Nat):Int):=by omega
          have hm01:(0:Int)<=((m+1:Nat):Int):=by omega
          have hmp:(0:Int) < ((m+1:Nat):Int):=by omega
          have Ho:=hide ho
          obtain ⟨g,capZ,Z,hZ,hvZ,hrow,hkv⟩:=ho
          rw [insK_len] at hvZ hrow
          simp only [Value.slice.injEq,true_and] at hvZ
          obtain ⟨rfl,rfl⟩:=hvZ
          have hZl:Z.length=l.length+1:=by have:=congrArg List.length hZ;rw [List.length_map,insK_len] at this;exact this
          have hat1:=rowP_at hrow hZl m (by omega)
          have hat2x:=rowP_at hrow hZl (m+1) (by omega)
          have eZ1:Z[m].1=l[m]:=by
            have h9:=insK_pre (b:=B) hml (by rw [insK_len];omega)
            rw [<- h9]
            simp only [<- hZ,List.getElem_map]
          have eZ2:Z[m+1].1=B:=by
            have h9:=insK_at (b:=B) (k:=m+1) (l:=l) (by omega) (by rw [insK_len];omega)
            rw [<- h9]
            simp only [<- hZ,List.getElem_map]
          rw [Nat.zero_add] at hat1 hat2x
          have i1:=hat1.cells.1
          rw [eZ1] at i1
          have Hk9n:Hid (¬ id < l[m].id->buF l id (m+1)=m+1):=hide (fun h=>by show (if id < idAt l m then buF l id m else m+1)=m+1;rw [idAt_eq hml,if_neg h])
          have Hk9y:Hid (id < l[m].id->buF l id (m+1)=buF l id m):=hide (fun h=>by show (if id < idAt l m then buF l id m else m+1)=buF l id m;rw [idAt_eq hml,if_pos h])
          have hgw:=(World.ownsRow.lt hrow g rfl)
          by_cases hgt:id < l[m].id
          · have Hk9:=hide (Hk9y.out hgt)
            have hgt2:decide (id < l[m].id)=true:=decide_eq_true hgt
            have HSw:Hid ((((Z.map (·.1)).set m ((Z.map (·.1))[m+1]?.getD bkN)).set (m+1) ((Z.map (·.1))[m]?.getD bkN))=insK m B l):=hide (by
              have g1:(insK (m+1) B l)[m+1]?=some B:=by rw [insK_get (by omega),if_neg (by omega),if_pos rfl]
              have g2:(insK (m+1) B l)[m]?=some l[m]:=by rw [insK_get (by omega),if_pos (by omega),List.getElem?_eq_getElem hml]
              rw [hZ,g1,g2];exact insK_swap hml)
            have ci:=fun (d:Nat) (os:Array Obj)=>cell_regrown i1 d os
            have cz:=fun (d:Nat) (os:Array Obj)=>cell_regrown z0 d os
            have Hhat1:=hide hat1
            have Hhat2:=hide hat2x
            have Hrow:=hide hrow
            have Hkv:=hide hkv
            have Hkb:=hide kb
            have Hb:=hide hb
            have Hbu:=hide hbu
            generalize l[m].id=dm at i1 hgt hgt2 ci
            clear hrow hkv kb hb hbu hat1 hat2x Hk9n Hk9y eZ1 eZ2 hZ Ho
            go_upto_region 5 with fail
            refine wp_region_quiet_below (by kernel_rfl) (by kernel_rfl) ?_
            repeat (go_big_quiet_step (fail))
            refine wpQuiet_nil ?_
            rintro wd ⟨⟨dq,osq⟩,hwd⟩
            have bD9:Below wr.heap.size wr wd:=by rw [hwd];exact below_regrown wr dq osq
            clear hwd ci cz i1 z0 hgt hgt2
            have hZm:m < Z.length:=by omega
            have hZm1:m+1 < Z.length:=by omega
            obtain ⟨c1,c2,wA,wB,wC,wD,SW⟩:=swap_mem (row_below Hrow.out bD9 (Nat.le_refl _)) (Hkv.out.below bD9 (Nat.le_refl _)) hZl hZm1
            have HBd:=hide (Hb.out.trans (bD9.mono Hb.out.size))
            have HO10:=hide (SW.own _ HSw.out)
            have HB10:=hide (HBd.out.trans (SW.bel.mono hs1))
            have HK10:=hide ((Hkb.out.below bD9 Hkb.out.lt).below SW.bel hx1)
            have hwA:=SW.a
            have SWh:=hide SW
            have e14:c1.toArray.size=14:=by simpa using SW.l1
            have e24:c2.toArray.size=14:=by simpa using SW.l2
            have hi14:(Tryz.prog.info? 50).map (·.size)=some 14:=by kernel_rfl
            have Hi1:=hide (show (Tryz.prog.info? 50).map (·.size)=some c1.length by rw [SW.l1];exact hi14)
            have Hi2:=hide (show (Tryz.prog.info? 50).map (·.size)=some c2.length by rw [SW.l2];exact hi14)
            have Hj1:=hide (show (Tryz.prog.info? 50).map (·.size)=some c1.toArray.size by rw [e14];exact hi14)
            have Hj2:=hide (show (Tryz.prog.info? 50).map (·.size)=some c2.toArray.size by rw [e24];exact hi14)
            have HtA:=hide (show wA.there wd.heap.size 0 c1.toArray.size by rw [e14];exact SW.tA)
            have Ht1:=hide (show wB.there g (m * 14) c2.toArray.size by rw [e24];exact SW.t1)
            have Ht2:=hide (show wC.there g ((m+1) * 14) c1.toArray.size by rw [e14];exact SW.t2)
            have Ho1:=hide (all_oneCell_toArray (List.all_eq_true.1 SW.o1))
            have Ho2:=hide (all_oneCell_toArray (List.all_eq_true.1 SW.o2))
            have eB:wA.setCells wd.heap.size 0 c1.toArray.toList=wB:=by rw [List.toList_toArray];exact SW.b
            have eC:wB.setCells g (m * 14) c2.toArray.toList=wC:=by rw [List.toList_toArray];exact SW.c
            have eD:wC.setCells g ((m+1) * 14) c1.toArray.toList=wD:=by rw [List.toList_toArray];exact SW.d
            have EB:=hide eB
            have EC:=hide eC
            have ED:=hide eD
            clear SW eB eC eD hi14 e14 e24 Hhat1 Hhat2 Hrow Hkv Hkb bD9 HBd
            have Hbu2:Hid (buF l id m=buF l id l.length):=hide (by rw [<- Hk9.out];exact Hbu.out)
            go_wp2_with (first
              | (refine wpList_load_mid rfl 50 _ rfl g (m * 14) rfl c1 _ SWh.out.r1 Tryz.underlying50 rfl Hi1.out ?_)
              | (refine wpList_store_mid rfl 50 _ _ rfl wd.heap.size 0 c1.toArray rfl rfl HtA.out Hj1.out Ho1.out ?_;rw [EB.out])
              | (refine wpList_load_mid rfl 50 _ rfl g ((m+1) * 14) rfl c2 _ SWh.out.r2 Tryz.underlying50 rfl Hi2.out ?_)
              | (refine wpList_store_mid rfl 50 _ _ rfl g (m * 14) c2.toArray rfl rfl Ht1.out Hj2.out Ho2.out ?_;rw [EC.out])
              | (refine wpList_load_mid rfl 50 _ rfl wd.heap.size 0 rfl c1 _ SWh.out.r3 Tryz.underlying50 rfl Hi1.out ?_)
              | (refine wpList_store_mid rfl 50 _ _ rfl g ((m+1) * 14) c1.toArray rfl rfl Ht2.out Hj1.out Ho1.out ?_;rw [ED.out]))
            go_roundw
            case rel=>exact ⟨m,by omega,by go_num,HO10.out,HB10.out,HK10.out,Hbu2.out⟩
            case measure=>simp [intOf];try omega
          · have Hk9:=hide (Hk9n.out hgt)
            have Hbu:=hide hbu
            have Hb:=hide hb
            have hgt2:decide (id < l[m].id)=false:=decide_eq_false hgt
            generalize l[m].id=dm at i1 hgt hgt2
            clear hb kb hbu hrow hkv hat1 hat2x Hk9n Hk9y eZ1 eZ2 hZ
            have ci:=fun (d:Nat) (os:Array Obj)=>cell_regrown i1 d os
            have cz:=fun (d:Nat) (os:Array Obj)=>cell_regrown z0 d os
            go_upto_region 5 with fail
            refine wp_region_quiet_below (by kernel_rfl) (by kernel_rfl) ?_
            repeat (go_big_quiet_step (fail))
            refine wpQuiet_nil ?_
            rintro wd ⟨⟨dq,osq⟩,hwd⟩
            have bD9:Below wr.heap.size wr wd:=by rw [hwd];exact below_regrown wr dq osq
            clear hwd ci cz
            have HTk:=hide (HTr.out (m+1) wd _ (Ho.out.rd.below bD9 (Nat.le_refl _)))
            have HbD:=hide (Hb.out.trans (bD9.mono Hb.out.size))
            have HOd:=hide (Ho.out.below bD9 (Nat.le_refl _))
            clear bD9
            go_wp2_with fail
            refine HTk.out.mono ?_
            rintro e w6 ⟨rfl,hb6⟩
            have HB6:=hide (HbD.out.trans (hb6.mono HbD.out.size))
            have HO6:=hide (HOd.out.below hb6 (Nat.le_refl _))
            clear hb6 HTk HTr HbD HOd Ho Hb
            cases htb:treeB (insK (m+1) B l)
            · have HE:=hide (HN1.out (by rw [<- Hbu.out,Hk9.out];exact htb))
              clear htb HN1 HN2 HO6
              go_wp2_with fail
              refine (HCp.out w6 HB6.out).mono ?_
              rintro e w7 ⟨v7,rfl,o7,hb7⟩
              have HO:=hide (o7.mono9L HB6.out.size)
              have HBx:=hide (HB6.out.trans (hb7.mono HB6.out.size))
              obtain ⟨a7,c7,rfl⟩:=o7.rd.shape
              clear o7 hb7
              go_wp2
              go_ret2
              exact HP.out l false HE.out _ _ HO.out HBx.out
            · have HE:=hide (HN2.out (by rw [<- Hbu.out,Hk9.out];exact htb))
              have HX:=hide (HO6.out.mono9L (show w.heap.size<=w2.heap.size from hs1))
              rw [<- Hbu.out,Hk9.out] at HE
              clear htb HN1 HN2 HO6
              go_wp2
              go_ret2
              exact HP.out _ true HE.out _ _ HX.out HB6.out
end Go.Proofs.YtohachldbpejpaaGreatDoor
