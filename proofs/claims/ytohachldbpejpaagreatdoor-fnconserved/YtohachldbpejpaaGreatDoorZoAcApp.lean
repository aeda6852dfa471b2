/- Appending to rows of accounts and of what leaves, which are the call's own. -/
import Derived.Test.YtohachldbpejpaaGreatDoorZoAcMem
namespace Go.Proofs.YtohachldbpejpaaGreatDoor
open Go.RowKit
set_option linter.unusedVariables false
abbrev Ac:=ByteArray × Int × Int × Int × List (Int × Int)
def acV (a:Ac) (lv:Value):Value:=.agg #[.string a.1,.int .i64 a.2.1,.int .i64 a.2.2.1,.int .i64 a.2.2.2.1,lv]
def szAc (a:Ac) (m:Int):Int:=if m - a.1.size < 0 then -1 else if m - a.1.size - a.2.2.2.2.length < 0 then -1 else m - a.1.size - a.2.2.2.2.length
structure AcAt (w:World) (b o:Nat) (a:Ac) (lv:Value):Prop where
  c0:w.cell? ⟨b,o,none⟩=some (.string a.1)
  c1:w.cell? ⟨b,o+1,none⟩=some (.int .i64 a.2.1)
  c2:w.cell? ⟨b,o+2,none⟩=some (.int .i64 a.2.2.1)
  c3:w.cell? ⟨b,o+3,none⟩=some (.int .i64 a.2.2.2.1)
  c4:w.cell? ⟨b,o+4,none⟩=some lv
theorem AcAt.below {w w':World} {B b o:Nat} {a:Ac} {lv:Value} (h:AcAt w b o a lv) (hb:Below B w w') (hB:b < B):AcAt w' b o a lv :=
  ⟨(hb.cell (p:=⟨b,o,none⟩) hB).trans h.c0,(hb.cell (p:=⟨b,o+1,none⟩) hB).trans h.c1,(hb.cell (p:=⟨b,o+2,none⟩) hB).trans h.c2,(hb.cell (p:=⟨b,o+3,none⟩) hB).trans h.c3,(hb.cell (p:=⟨b,o+4,none⟩) hB).trans h.c4⟩
def RdA (w:World) (v:Value) (l:List Ac):Prop :=
  (∃ a cap,v=.slice a 0 cap/\l=[]/\(a=none->cap=0)) \/
  ∃ b off cap,l ≠ []/\v=.slice (some ⟨b,off,none⟩) l.length cap/\l.length<=cap/\cap<=maxLen/\b < w.heap.size /\
    ∀ i (h:i < l.length),∃ lv,AcAt w b (off+i * 5) l[i] lv/\RdL w lv l[i].2.2.2.2
theorem RdA.shape {w:World} {v:Value} {l:List Ac} (h:RdA w v l):∃ a cap,v=.slice a l.length cap:=by
  rcases h with ⟨a,cap,rfl,rfl,-⟩ | ⟨b,off,cap,h0,rfl,_⟩
  · exact ⟨a,cap,rfl⟩
  · exact ⟨_,cap,rfl⟩
theorem RdA.below {B:Nat} {w w':World} {v:Value} {l:List Ac} (h:RdA w v l) (hb:Below B w w') (hB:w.heap.size<=B):RdA w' v l:=by
  rcases h with h | ⟨b,off,cap,h0,hv,h1,h2,h3,h4⟩
  · exact .inl h
  · refine .inr ⟨b,off,cap,h0,hv,h1,h2,by have:=hb.size;omega,fun i hi=>?_⟩
    obtain ⟨lv,k1,k2⟩:=h4 i hi
    exact ⟨lv,k1.below hb (by omega),k2.below hb hB⟩
def acC (q:Ac × Value):List Value:=[.string q.1.1,.int .i64 q.1.2.1,.int .i64 q.1.2.2.1,.int .i64 q.1.2.2.2.1,q.2]
def acZ:List Value:=[.string { data:=#[] },.int .i64 0,.int .i64 0,.int .i64 0,.slice none 0 0]
theorem acM_sz (l:List (Ac × Value)):∀ x ∈ l.map acC,x.length=5:=fun x hx=>by obtain ⟨p,_,rfl⟩:=List.mem_map.1 hx;rfl
structure Lvs (base:Nat) (w:World) (g:Nat) (Z:List (Ac × Value)):Prop where
  own:∀ i (h:i < Z.length),OwnL base w Z[i].2 Z[i].1.2.2.2.2
  far:∀ i (h:i < Z.length) k,Z[i].2.ownBlock=some k->k ≠ g
  apart:∀ i j (hi:i < Z.length) (hj:j < Z.length),i ≠ j->∀ k,Z[i].2.ownBlock=some k->Z[j].2.ownBlock ≠ some k
def OwnA (base:Nat) (w:World) (v:Value) (l:List Ac):Prop :=
  ∃ (g cap:Nat) (Z:List (Ac × Value)),Z.map (·.1)=l/\v=.slice (some ⟨g,0,none⟩) l.length cap/\w.ownsRow base 105 5 v l.length (Z.map acC).flatten/\Lvs base w g Z
theorem OwnA.rd {base:Nat} {w:World} {v:Value} {l:List Ac} (h:OwnA base w v l):RdA w v l:=by
  obtain ⟨g,cap,Z,hZ,rfl,ho,hl⟩:=h
  have hlen:Z.length=l.length:=by rw [<- hZ];simp
  by_cases hn:l=[]
  · subst hn;exact .inl ⟨_,_,rfl,rfl,fun h=>by cases h⟩
  · rcases ho.2 with ⟨hv,_⟩ | ⟨g',cap',cur,hv,hb,hg,hnc,hcm,hcs,ht⟩
    · cases hv
    · simp only [Value.slice.injEq,Option.some.injEq,Addr.mk.injEq,and_true,true_and] at hv
      obtain ⟨rfl,rfl⟩:=hv
      refine .inr ⟨g,0,cap,hn,rfl,hnc,hcm,(Array.getElem?_eq_some_iff.1 hg).1,fun i hi=>?_⟩
      have hi':i < Z.length:=by omega
      have e:l[i]=Z[i].1:=by subst hZ;simp
      refine ⟨Z[i].2,?_,by rw [e];exact (hl.own i hi').rd⟩
      have cell:∀ j,j < 5->w.cell? ⟨g,0+i * 5+j,none⟩=(acC Z[i])[j]?:=fun j hj=>by
        rw [Nat.zero_add,ho.cellAt (i * 5+j) (by omega),flat_get 5 (Z.map acC) i j (by simpa using hi') (acM_sz Z) hj]
        simp
      rw [e]
      exact ⟨by have:=cell 0 (by omega);simpa [acC] using this,by have:=cell 1 (by omega);simpa [acC] using this,by have:=cell 2 (by omega);simpa [acC] using this,by have:=cell 3 (by omega);simpa [acC] using this,by have:=cell 4 (by omega);simpa [acC] using this⟩
theorem Lvs.below {B base:Nat} {w w':World} {g:Nat} {Z:List (Ac × Value)} (h:Lvs base w g Z) (hb:Below B w w') (hB:w.heap.size<=B):Lvs base w' g Z :=
  ⟨fun i hi=>(h.own i hi).below hb hB,h.far,h.apart⟩
theorem Lvs.set {base:Nat} {w:World} {g:Nat} {Z:List (Ac × Value)} (h:Lvs base w g Z) (j:Nat) (u:Value):Lvs base (w.setCell ⟨g,j,none⟩ u) g Z :=
  ⟨fun i hi=>row_set (h.own i hi) g j u (h.far i hi),h.far,h.apart⟩
theorem Lvs.snoc {base:Nat} {w:World} {g:Nat} {Z:List (Ac × Value)} (h:Lvs base w g Z) (q:Ac × Value) (ho:OwnL base w q.2 q.1.2.2.2.2) (hf:∀ k,q.2.ownBlock=some k->k ≠ g)
    (hn:∀ i (hi:i < Z.length) k,Z[i].2.ownBlock=some k->q.2.ownBlock ≠ some k):Lvs base w g (Z ++ [q]):=by
  have at1:∀ i (hi:i < (Z ++ [q]).length),(∃ h':i < Z.length,(Z ++ [q])[i]=Z[i])\/(i=Z.length/\(Z ++ [q])[i]=q):=fun i hi=>by
    by_cases h':i < Z.length
    · exact .inl ⟨h',List.getElem_append_left h'⟩
    · have e:i=Z.length:=by simp at hi;omega
      subst e
      exact .inr ⟨rfl,by simp⟩
  refine ⟨fun i hi=>?_,fun i hi k hk=>?_,fun i j hi hj hij k hk=>?_⟩
  · rcases at1 i hi with ⟨h',e⟩ | ⟨_,e⟩
    · rw [e];exact h.own i h'
    · rw [e];exact ho
  · rcases at1 i hi with ⟨h',e⟩ | ⟨_,e⟩
    · rw [e] at hk;exact h.far i h' k hk
    · rw [e] at hk;exact hf k hk
  · rcases at1 i hi with ⟨h',e⟩ | ⟨ei,e⟩ <;> rcases at1 j hj with ⟨h2,e2⟩ | ⟨ej,e2⟩
    · rw [e] at hk;rw [e2];exact h.apart i j h' h2 hij k hk
    · rw [e] at hk;rw [e2];exact hn i h' k hk
    · rw [e] at hk;rw [e2];exact fun e3=>hn j h2 k e3 hk
    · omega
theorem OwnA.below {B base:Nat} {w w':World} {v:Value} {l:List Ac} (h:OwnA base w v l) (hb:Below B w w') (hB:w.heap.size<=B):OwnA base w' v l:=by
  obtain ⟨g,cap,Z,hZ,hv,ho,hl⟩:=h
  exact ⟨g,cap,Z,hZ,hv,row_below ho hb hB,hl.below hb hB⟩
theorem Tryz.infoAc:(Tryz.prog.info? 105).map (fun i=>(i.zero,i.size,i.bytes))=some (some (.agg #[.string { data:=#[] },.int .i64 0,.int .i64 0,.int .i64 0,.slice none 0 0]),5,64):=by kernel_rfl
theorem add_flat (b off i:Nat):(⟨b,off,none⟩:Addr).add i=⟨b,off+i,none⟩:=by
  by_cases hz:i=0
  · subst hz;simp [Addr.add]
  · simp [Addr.add,hz]
theorem own_nilL (w:World) (base:Nat) (h:base<=w.heap.size):OwnL base (w.alloc (.cells #[] 107)) (.slice (some ⟨w.heap.size,0,none⟩) 0 0) [] :=
  World.ownsRow_lit w #[] 0 h (by unfold maxLen;omega) (by simp)
theorem own_noneL (w:World) (base:Nat):OwnL base w (.slice none 0 0) []:=World.ownsRow_nil w base _ _
theorem OwnL.alloc {base:Nat} {w:World} {v:Value} {l:List (Int × Int)} (h:OwnL base w v l) (o:Obj):OwnL base (w.alloc o) v l:=World.ownsRow.alloc h o
theorem rdL_cells {w:World} {b off:Nat} {k:List (Int × Int)} (h4:∀ i (h:i < k.length),w.cell? ⟨b,off+i * 2,none⟩=some (.int .i64 k[i].1)/\w.cell? ⟨b,off+i * 2+1,none⟩=some (.int .i64 k[i].2)) :
    ∀ j u,(k.map lvC).flatten[j]?=some u->w.cell? ((⟨b,off,none⟩:Addr).add j)=some u:=by
  intro j u hj
  have hjl:j < (k.map lvC).flatten.length:=(List.getElem?_eq_some_iff.1 hj).1
  rw [flat_len 2 _ (lvM_sz k),List.length_map] at hjl
  have hi:j / 2 < k.length:=by omega
  have e:=flat_get 2 (k.map lvC) (j / 2) (j % 2) (by simpa using hi) (lvM_sz k) (by omega)
  rw [show j / 2 * 2+j % 2=j from by omega] at e
  rw [e] at hj
  rw [add_flat]
  rcases Nat.mod_two_eq_zero_or_one j with h | h
  · rw [h] at hj
    rw [show off+j=off+j / 2 * 2 from by omega,(h4 (j / 2) hi).1]
    simpa [lvC] using hj
  · rw [h] at hj
    rw [show off+j=off+j / 2 * 2+1 from by omega,(h4 (j / 2) hi).2]
    simpa [lvC] using hj
theorem app_ownL {ops:Array Oper} {rest:List Oper} {o:Oper} {a:Act} {Q:Exit->Act->World->Prop} (w:World) (hgd:o.guard=none) (s x:Operand)
    (ho:o.op=.call { callee:=.builtin .append,args:=#[s,x],argTypes:=#[103,103] })
    (base:Nat) (v vx:Value) (l k:List (Int × Int)) (hs:a.eval s=v) (hx:a.eval x=vx) (hown:OwnL base w v l) (hrd:RdL w vx k)
    (hlen:l.length+k.length<=100000000) (hbase:base<=w.heap.size)
    (h:∀ v' w',OwnL base w' v' (l ++ k)->Below base w w'->wpList Tryz.prog ops Q rest (a.put o.dst v') w'):wpList Tryz.prog ops Q (o :: rest) a w:=by
  obtain ⟨i0,hi,hz0,hz1,hz2⟩:=info_parts Tryz.infoLv
  have hbel:∀ w',w.grownBy w' v.ownBlock->Below base w w':=fun w' hg=>(Below.refl _ _).grown hg hbase (fun k hk=>(hown.ge k hk))
  rcases hrd with ⟨ax,cap,rfl,rfl,hnil⟩ | ⟨b,off,cap,h0,rfl,h1,h2,h3,h4⟩
  · cases ax with
    | none =>
      have hc:cap=0:=hnil rfl
      subst hc
      refine wpList_append_own_none hgd s x 103 ho base 107 i0 2 Tryz.underlying103 hi v l.length (l.map lvC).flatten hs hown hx ?_
      exact h v w (by simpa [OwnL] using hown) (Below.refl _ _)
    | some ad =>
      refine wpList_append_own w hgd s x 103 ho base 107 i0 (.agg #[.int .i64 0,.int .i64 0]) 2 16 Tryz.underlying103 hi hz0 hz1 hz2 rfl (by decide) v l.length (l.map lvC).flatten hs hown ad 0 cap [] hx rfl (by intro j u hj;simp at hj) (by intro u hu;simp at hu) (by unfold maxLen;simp at hlen;omega) (by simp at hlen;omega) hbase ?_
      intro v' w' ho' hg _
      exact h v' w' (by simpa [OwnL] using ho') (hbel w' hg)
  · refine wpList_append_own w hgd s x 103 ho base 107 i0 (.agg #[.int .i64 0,.int .i64 0]) 2 16 Tryz.underlying103 hi hz0 hz1 hz2 rfl (by decide) v l.length (l.map lvC).flatten hs hown ⟨b,off,none⟩ k.length cap (k.map lvC).flatten hx (by rw [flat_len 2 _ (lvM_sz k),List.length_map]) (rdL_cells h4) ?_ (by unfold maxLen;omega) (by omega) hbase ?_
    · intro u hu
      obtain ⟨c,hc,hu⟩:=List.mem_flatten.1 hu
      obtain ⟨p,_,rfl⟩:=List.mem_map.1 hc
      simp only [lvC,List.mem_cons,List.not_mem_nil,or_false] at hu
      rcases hu with rfl | rfl <;> rfl
    · intro v' w' ho' hg _
      exact h v' w' (by simpa [OwnL] using ho') (hbel w' hg)
def RowA (base:Nat) (w:World) (v:Value) (Z:List (Ac × Value)):Prop:=w.ownsRow base 105 5 v Z.length (Z.map acC).flatten
theorem app_ownA {ops:Array Oper} {rest:List Oper} {o:Oper} {a:Act} {Q:Exit->Act->World->Prop} (w:World) (hgd:o.guard=none) (s x:Operand)
    (ho:o.op=.call { callee:=.builtin .append,args:=#[s,x],argTypes:=#[24,24] })
    (base:Nat) (v:Value) (B:Nat) (Z:List (Ac × Value)) (q:Ac × Value) (hs:a.eval s=v) (hx:a.eval x=.slice (some ⟨B,0,none⟩) 1 1) (hown:RowA base w v Z) (hblk:Blk w B 105 (acC q)) (h1:q.2.oneCell'=true)
    (hlen:Z.length<=100000000) (hbase:base<=w.heap.size)
    (h:∀ v' w',RowA base w' v' (Z ++ [q])->w.grownBy w' v.ownBlock->v' ≠ .slice none 0 0->(v'.ownBlock=v.ownBlock\/v'.ownBlock=some w.heap.size)->wpList Tryz.prog ops Q rest (a.put o.dst v') w'):wpList Tryz.prog ops Q (o :: rest) a w:=by
  obtain ⟨i0,hi,hz0,hz1,hz2⟩:=info_parts Tryz.infoAc
  refine wpList_append_own_at w hgd s x 24 ho base 105 i0 (.agg #[.string { data:=#[] },.int .i64 0,.int .i64 0,.int .i64 0,.slice none 0 0]) 5 64 Tryz.underlying24 hi hz0 hz1 hz2 rfl (by decide) v Z.length (Z.map acC).flatten hs hown ⟨B,0,none⟩ 1 1 (acC q) hx rfl ?_ ?_ (by unfold maxLen;omega) (by omega) hbase ?_
  · intro j u hj
    rw [add_flat,Nat.zero_add,hblk.cell j]
    exact hj
  · intro u hu
    simp only [acC,List.mem_cons,List.not_mem_nil,or_false] at hu
    rcases hu with rfl | rfl | rfl | rfl | rfl
    · rfl
    · rfl
    · rfl
    · rfl
    · exact h1
  · intro v' w' ho' hg hn hl
    refine h v' w' ?_ hg ?_ hl
    · unfold RowA
      rw [List.length_append,List.map_append,List.flatten_append]
      simpa using ho'
    · intro e
      have:=(hn.1 e).2
      omega
theorem RowA.below {B base:Nat} {w w':World} {v:Value} {Z:List (Ac × Value)} (h:RowA base w v Z) (hb:Below B w w') (hB:w.heap.size<=B):RowA base w' v Z:=row_below h hb hB
theorem RowA.ge {base:Nat} {w:World} {v:Value} {Z:List (Ac × Value)} (h:RowA base w v Z):∀ k,v.ownBlock=some k->base<=k:=fun k hk=>(World.ownsRow.lt h k hk).1
theorem RowA.lt {base:Nat} {w:World} {v:Value} {Z:List (Ac × Value)} (h:RowA base w v Z):∀ k,v.ownBlock=some k->k < w.heap.size:=fun k hk=>(World.ownsRow.lt h k hk).2
theorem RowA.shape {base:Nat} {w:World} {v:Value} {Z:List (Ac × Value)} (h:RowA base w v Z) (hn:v ≠ .slice none 0 0):∃ g cap,v=.slice (some ⟨g,0,none⟩) Z.length cap:=by
  rcases h.2 with ⟨hv,_⟩ | ⟨g,cap,cur,hv,_⟩
  · exact absurd hv hn
  · exact ⟨g,cap,hv⟩
theorem row_nilA (w:World) (base:Nat) (h:base<=w.heap.size):RowA base (w.alloc (.cells #[] 105)) (.slice (some ⟨w.heap.size,0,none⟩) 0 0) [] :=
  World.ownsRow_lit w #[] 0 h (by unfold maxLen;omega) (by simp)
theorem Lvs.nil (base:Nat) (w:World) (g:Nat):Lvs base w g []:=⟨fun i h=>by simp at h,fun i h=>by simp at h,fun i j h=>by simp at h⟩
theorem Lvs.mono {base base':Nat} {w:World} {g:Nat} {Z:List (Ac × Value)} (h:Lvs base w g Z) (hB:base'<=base):Lvs base' w g Z:=⟨fun i hi=>(h.own i hi).mono hB,h.far,h.apart⟩
theorem Lvs.grown {base:Nat} {w w':World} {g:Nat} {Z:List (Ac × Value)} (h:Lvs base w g Z) (hg:w.grownBy w' (some g)):Lvs base w' g Z :=
  ⟨fun i hi=>(h.own i hi).kept hg (.inr fun e=>h.far i hi g e rfl),h.far,h.apart⟩
theorem Lvs.move {base:Nat} {w w':World} {g g':Nat} {Z:List (Ac × Value)} (h:Lvs base w g Z) (hg:w.grownBy w' (some g)) (hl:g'=g\/w.heap.size<=g'):Lvs base w' g' Z :=
  ⟨fun i hi=>(h.own i hi).kept hg (.inr fun e=>h.far i hi g e rfl),fun i hi k hk=>by
    rcases hl with rfl | hl
    · exact h.far i hi k hk
    · have:=(h.own i hi).lt k hk;omega,h.apart⟩
theorem OwnA.of_row {base:Nat} {w:World} {g cap:Nat} {Z:List (Ac × Value)} (ho:RowA base w (.slice (some ⟨g,0,none⟩) Z.length cap) Z) (hl:Lvs base w g Z):OwnA base w (.slice (some ⟨g,0,none⟩) Z.length cap) (Z.map (·.1)) :=
  ⟨g,cap,Z,rfl,by simp,by simpa [RowA] using ho,hl⟩
theorem Blk.new' (W:World) (t:TypeId) (cs:List Value) (n:Nat) (h:n=W.heap.size):Blk (W.alloc (.cells cs.toArray t)) n t cs:=by subst h;exact Blk.new W t cs
theorem rowA_step {base:Nat} {w2 w3 w4:World} {g:Nat} {Z:List (Ac × Value)} {q:Ac × Value} {v':Value} (hL:Lvs base w2 g Z) (hq:OwnL base w2 q.2 q.1.2.2.2.2) (hf:∀ k,q.2.ownBlock=some k->k ≠ g)
    (hn:∀ i (hi:i < Z.length) k,Z[i].2.ownBlock=some k->q.2.ownBlock ≠ some k) (h23:Below w2.heap.size w2 w3) (hg:w3.grownBy w4 (some g)) (hrow:RowA base w4 v' (Z ++ [q])) (hnn:v' ≠ .slice none 0 0) (hl:v'.ownBlock=some g\/v'.ownBlock=some w3.heap.size) :
    ∃ g' cap',v'=.slice (some ⟨g',0,none⟩) (Z ++ [q]).length cap'/\Lvs base w4 g' (Z ++ [q]):=by
  obtain ⟨g',cap',rfl⟩:=hrow.shape hnn
  refine ⟨g',cap',rfl,((hL.snoc q hq hf hn).below h23 (Nat.le_refl _)).move hg ?_⟩
  rcases hl with h | h
  · exact .inl (by simpa [Value.ownBlock] using h)
  · exact .inr (by have:g'=w3.heap.size:=by simpa [Value.ownBlock] using h
                   omega)
end Go.Proofs.YtohachldbpejpaaGreatDoor
