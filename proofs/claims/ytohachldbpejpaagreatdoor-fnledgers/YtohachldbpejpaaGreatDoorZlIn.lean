/- Whether a number lies between two others. -/
import Derived.Test.YtohachldbpejpaaGreatDoorZlCtVal
import Derived.Maps.AppendAt
import Derived.Laws.AppendOwnNone
namespace Go.Proofs.YtohachldbpejpaaGreatDoor
open Go.RowKit
set_option linter.unusedVariables false
abbrev Tr:=Int × Int × ByteArray
def trV (p:Tr):Value:=.agg #[.int .i64 p.1,.int .i64 p.2.1,.string p.2.2]
def trC (p:Tr):List Value:=[.int .i64 p.1,.int .i64 p.2.1,.string p.2.2]
structure TrAt (w:World) (b o:Nat) (p:Tr):Prop where
  c0:w.cell? ⟨b,o,none⟩=some (.int .i64 p.1)
  c1:w.cell? ⟨b,o+1,none⟩=some (.int .i64 p.2.1)
  c2:w.cell? ⟨b,o+2,none⟩=some (.string p.2.2)
def RdR (w:World) (v:Value) (l:List Tr):Prop :=
  (∃ a cap,v=.slice a 0 cap/\l=[]/\(a=none->cap=0)) \/
  ∃ b off cap,l ≠ []/\v=.slice (some ⟨b,off,none⟩) l.length cap/\l.length<=cap/\cap<=maxLen/\b < w.heap.size/\∀ i (h:i < l.length),TrAt w b (off+i * 3) l[i]
def OwnR (t:TypeId) (base:Nat) (w:World) (v:Value) (l:List Tr):Prop:=w.ownsRow base t 3 v l.length (l.map trC).flatten
theorem Blk.newR (W:World) (t:TypeId) (cs:List Value) (n:Nat) (h:n=W.heap.size):Blk (W.alloc (.cells cs.toArray t)) n t cs:=by subst h;exact Blk.new W t cs
abbrev Vl:=ByteArray × Int
def RdV (w:World) (v:Value) (l:List Vl):Prop :=
  (∃ a cap,v=.slice a 0 cap/\l=[]/\(a=none->cap=0)) \/
  ∃ b off cap,l ≠ []/\v=.slice (some ⟨b,off,none⟩) l.length cap/\l.length<=cap/\cap<=maxLen/\b < w.heap.size /\
    ∀ i (h:i < l.length),w.cell? ⟨b,off+i * 2,none⟩=some (.string l[i].1)/\w.cell? ⟨b,off+i * 2+1,none⟩=some (.int .i64 l[i].2)
theorem RdV.shape {w:World} {v:Value} {l:List Vl} (h:RdV w v l):∃ a cap,v=.slice a l.length cap:=by
  rcases h with ⟨a,cap,rfl,rfl,-⟩ | ⟨b,off,cap,h0,rfl,_⟩
  · exact ⟨a,cap,rfl⟩
  · exact ⟨_,cap,rfl⟩
theorem RdV.below {B:Nat} {w w':World} {v:Value} {l:List Vl} (h:RdV w v l) (hb:Below B w w') (hB:w.heap.size<=B):RdV w' v l:=by
  rcases h with h | ⟨b,off,cap,h0,hv,h1,h2,h3,h4⟩
  · exact .inl h
  · exact .inr ⟨b,off,cap,h0,hv,h1,h2,by have:=hb.size;omega,fun i hi=>⟨(hb.cell (p:=⟨b,off+i * 2,none⟩) (by show b < B;omega)).trans (h4 i hi).1,(hb.cell (p:=⟨b,off+i * 2+1,none⟩) (by show b < B;omega)).trans (h4 i hi).2⟩⟩
def vlC (p:Vl):List Value:=[.string p.1,.int .i64 p.2]
def OwnV (base:Nat) (w:World) (v:Value) (l:List Vl):Prop:=w.ownsRow base 124 2 v l.length (l.map vlC).flatten
theorem Tryz.infoVl:(Tryz.prog.info? 124).map (fun i=>(i.zero,i.size,i.bytes))=some (some (.agg #[.string { data:=#[] },.int .i64 0]),2,24):=by kernel_rfl
theorem vlM_sz (l:List Vl):∀ x ∈ l.map vlC,x.length=2:=fun x hx=>by obtain ⟨p,_,rfl⟩:=List.mem_map.1 hx;rfl
theorem OwnV.rd {base:Nat} {w:World} {v:Value} {l:List Vl} (h:OwnV base w v l):RdV w v l:=by
  rcases h.2 with ⟨hv,hn⟩ | ⟨g,cap,cur,hv,hb,hg,hnc,hcm,hcs,ht⟩
  · exact .inl ⟨none,0,hv,List.length_eq_zero_iff.1 hn,fun _=>rfl⟩
  · by_cases hl:l=[]
    · subst hl;exact .inl ⟨_,_,hv,rfl,fun h=>by cases h⟩
    · refine .inr ⟨g,0,cap,hl,hv,hnc,hcm,(Array.getElem?_eq_some_iff.1 hg).1,?_⟩
      intro i hi
      have h':w.ownsRow base 124 2 (.slice (some ⟨g,0,none⟩) l.length cap) l.length (l.map vlC).flatten:=hv ▸ h
      have e0:=flat_get 2 (l.map vlC) i 0 (by simpa using hi) (vlM_sz l) (by omega)
      have e1:=flat_get 2 (l.map vlC) i 1 (by simpa using hi) (vlM_sz l) (by omega)
      rw [Nat.zero_add,h'.cellAt (i * 2) (by omega),h'.cellAt (i * 2+1) (by omega)]
      rw [Nat.add_zero] at e0
      rw [e0,e1]
      simp [vlC]
theorem OwnV.mono {base base':Nat} {w:World} {v:Value} {l:List Vl} (h:OwnV base w v l) (hB:base'<=base):OwnV base' w v l:=by
  refine ⟨h.1,?_⟩
  rcases h.2 with h' | ⟨g,cap,cur,hv,hbb,r⟩
  · exact .inl h'
  · exact .inr ⟨g,cap,cur,hv,by omega,r⟩
theorem OwnV.ge {base:Nat} {w:World} {v:Value} {l:List Vl} (h:OwnV base w v l):∀ k,v.ownBlock=some k->base<=k:=fun k hk=>(World.ownsRow.lt h k hk).1
theorem OwnV.below {B base:Nat} {w w':World} {v:Value} {l:List Vl} (h:OwnV base w v l) (hb:Below B w w') (hB:w.heap.size<=B):OwnV base w' v l:=row_below h hb hB
theorem add_flatV (b off i:Nat):(⟨b,off,none⟩:Addr).add i=⟨b,off+i,none⟩:=by
  by_cases hz:i=0
  · subst hz;simp [Addr.add]
  · simp [Addr.add,hz]
theorem own_nilV (w:World) (base:Nat) (h:base<=w.heap.size):OwnV base (w.alloc (.cells #[] 124)) (.slice (some ⟨w.heap.size,0,none⟩) 0 0) [] :=
  World.ownsRow_lit w #[] 0 h (by unfold maxLen;omega) (by simp)
theorem OwnV.alloc {base:Nat} {w:World} {v:Value} {l:List Vl} (h:OwnV base w v l) (o:Obj):OwnV base (w.alloc o) v l:=World.ownsRow.alloc h o
theorem rdV_cells {w:World} {b off:Nat} {k:List Vl} (h4:∀ i (h:i < k.length),w.cell? ⟨b,off+i * 2,none⟩=some (.string k[i].1)/\w.cell? ⟨b,off+i * 2+1,none⟩=some (.int .i64 k[i].2)) :
    ∀ j u,(k.map vlC).flatten[j]?=some u->w.cell? ((⟨b,off,none⟩:Addr).add j)=some u:=by
  intro j u hj
  have hjl:j < (k.map vlC).flatten.length:=(List.getElem?_eq_some_iff.1 hj).1
  rw [flat_len 2 _ (vlM_sz k),List.length_map] at hjl
  have hi:j / 2 < k.length:=by omega
  have e:=flat_get 2 (k.map vlC) (j / 2) (j % 2) (by simpa using hi) (vlM_sz k) (by omega)
  rw [show j / 2 * 2+j % 2=j from by omega] at e
  rw [e] at hj
  rw [add_flatV]
  rcases Nat.mod_two_eq_zero_or_one j with h | h
  · rw [h] at hj
    rw [show off+j=off+j / 2 * 2 from by omega,(h4 (j / 2) hi).1]
    simpa [vlC] using hj
  · rw [h] at hj
    rw [show off+j=off+j / 2 * 2+1 from by omega,(h4 (j / 2) hi).2]
    simpa [vlC] using hj
theorem app_ownV {ops:Array Oper} {rest:List Oper} {o:Oper} {a:Act} {Q:Exit->Act->World->Prop} (w:World) (hgd:o.guard=none) (s x:Operand)
    (ho:o.op=.call { callee:=.builtin .append,args:=#[s,x],argTypes:=#[48,48] })
    (base:Nat) (v vx:Value) (l k:List Vl) (hs:a.eval s=v) (hx:a.eval x=vx) (hown:OwnV base w v l) (hrd:RdV w vx k)
    (hlen:l.length+k.length<=100000000) (hbase:base<=w.heap.size)
    (h:∀ v' w',OwnV base w' v' (l ++ k)->w.grownBy w' v.ownBlock->Below base w w'->wpList Tryz.prog ops Q rest (a.put o.dst v') w'):wpList Tryz.prog ops Q (o :: rest) a w:=by
  obtain ⟨i0,hi,hz0,hz1,hz2⟩:=info_parts Tryz.infoVl
  have hbel:∀ w',w.grownBy w' v.ownBlock->Below base w w':=fun w' hg=>(Below.refl _ _).grown hg hbase (fun k hk=>(hown.ge k hk))
  rcases hrd with ⟨ax,cap,rfl,rfl,hnil⟩ | ⟨b,off,cap,h0,rfl,h1,h2,h3,h4⟩
  · cases ax with
    | none =>
      have hc:cap=0:=hnil rfl
      subst hc
      refine wpList_append_own_none hgd s x 48 ho base 124 i0 2 Tryz.underlying48 hi v l.length (l.map vlC).flatten hs hown hx ?_
      exact h v w (by simpa [OwnV] using hown) (World.grownBy.refl _ _) (Below.refl _ _)
    | some ad =>
      refine wpList_append_own w hgd s x 48 ho base 124 i0 (.agg #[.string { data:=#[] },.int .i64 0]) 2 24 Tryz.underlying48 hi hz0 hz1 hz2 rfl (by decide) v l.length (l.map vlC).flatten hs hown ad 0 cap [] hx rfl (by intro j u hj;simp at hj) (by intro u hu;simp at hu) (by unfold maxLen;simp at hlen;omega) (by simp at hlen;omega) hbase ?_
      intro v' w' ho' hg _
      exact h v' w' (by simpa [OwnV] using ho') hg (hbel w' hg)
  · refine wpList_append_own w hgd s x 48 ho base 124 i0 (.agg #[.string { data:=#[] },.int .i64 0]) 2 24 Tryz.underlying48 hi hz0 hz1 hz2 rfl (by decide) v l.length (l.map vlC).flatten hs hown ⟨b,off,none⟩ k.length cap (k.map vlC).flatten hx (by rw [flat_len 2 _ (vlM_sz k),List.length_map]) (rdV_cells h4) ?_ (by unfold maxLen;omega) (by omega) hbase ?_
    · intro u hu
      obtain ⟨c,hc,hu⟩:=List.mem_flatten.1 hu
      obtain ⟨p,_,rfl⟩:=List.mem_map.1 hc
      simp only [vlC,List.mem_cons,List.not_mem_nil,or_false] at hu
      rcases hu with rfl | rfl <;> rfl
    · intro v' w' ho' hg _
      exact h v' w' (by simpa [OwnV] using ho') hg (hbel w' hg)
def sumV (f:Vl->Int) (l:List Vl):Int:=l.foldl (fun s p=>wrap64 (s+f p)) 0
def hasN (ns:List ByteArray) (s:ByteArray):Bool:=ns.any (fun t=>decide (t=s))
def wtN (ns:List ByteArray) (p:Vl):Int:=if hasN ns p.1=true then p.2 else 0
def weightV (l:List Vl) (ns:List ByteArray):Int:=sumV (wtN ns) l
def totalV (l:List Vl):Int:=sumV (·.2) l
def leadV (l:List Vl) (r:Int):ByteArray:=if l.length=0\/r < 0 then ByteArray.empty else (l.getD (r.toNat % l.length) (ByteArray.empty,0)).1
def inB (x a b:Int):Bool:=decide (a<=x/\x<=b)
theorem l1In_any (x a b:Int) (w:World) :
    Calls Tryz.prog 181 #[.int .i64 x,.int .i64 a,.int .i64 b] w fun e w'=>e=.returned (.bool (inB x a b))/\w'=w:=by
  by_cases h1:a<=x
  · by_cases h2:x<=b
    · have e:Hid (inB x a b=true):=hide (by simp [inB,h1,h2])
      go_enter Tryz.func181,Tryz.ntmps181
      go_wp2
      go_ret
      rw [e.out];exact ⟨rfl,rfl⟩
    · have e:Hid (inB x a b=false):=hide (by simp [inB,h1,h2])
      go_enter Tryz.func181,Tryz.ntmps181
      go_wp2
      go_ret
      rw [e.out];exact ⟨rfl,rfl⟩
  · have e:Hid (inB x a b=false):=hide (by simp [inB,h1])
    go_enter Tryz.func181,Tryz.ntmps181
    go_wp2
    go_ret
    rw [e.out];exact ⟨rfl,rfl⟩
end Go.Proofs.YtohachldbpejpaaGreatDoor
