/- The model's certificates of leavings. -/
import Derived.Test.YtohachldbpejpaaGreatDoorZmCtVal
set_option maxRecDepth 20000
set_option maxHeartbeats 1000000
namespace Go.Proofs.YtohachldbpejpaaGreatDoor
open Go.RowKit
set_option linter.unusedVariables false
abbrev Tr:=Int × Int × ByteArray
def trV (p:Tr):Value:=.agg #[.int .i64 p.1,.int .i64 p.2.1,.string p.2.2]
def trC (p:Tr):List Value:=[.int .i64 p.1,.int .i64 p.2.1,.string p.2.2]
structure TrAt (w:World) (b o:Nat) (p:Tr):Prop where
  c0:w.cell? ⟨b,o,none⟩=some (.int .i64 p.1)
  c1:w.cell? ⟨b,o+1,none⟩=some (.int .i64 p.2.1)
  c2:w.cell? ⟨b,o+2,none⟩=some (.string p.2.2)
def RdR (w:World) (v:Value) (l:List Tr):Prop :=
  (∃ a cap,v=.slice a 0 cap/\l=[]/\(a=none->cap=0)) \/
  ∃ b off cap,l ≠ []/\v=.slice (some ⟨b,off,none⟩) l.length cap/\l.length<=cap/\cap<=maxLen/\b < w.heap.size/\∀ i (h:i < l.length),TrAt w b (off+i * 3) l[i]
def OwnR (t:TypeId) (base:Nat) (w:World) (v:Value) (l:List Tr):Prop:=w.ownsRow base t 3 v l.length (l.map trC).flatten
theorem add_flatR (b off i:Nat):(⟨b,off,none⟩:Addr).add i=⟨b,off+i,none⟩:=by
  by_cases hz:i=0
  · subst hz;simp [Addr.add]
  · simp [Addr.add,hz]
theorem Blk.newR (W:World) (t:TypeId) (cs:List Value) (n:Nat) (h:n=W.heap.size):Blk (W.alloc (.cells cs.toArray t)) n t cs:=by subst h;exact Blk.new W t cs
abbrev Vl:=ByteArray × Int
def RdV (w:World) (v:Value) (l:List Vl):Prop :=
  (∃ a cap,v=.slice a 0 cap/\l=[]/\(a=none->cap=0)) \/
  ∃ b off cap,l ≠ []/\v=.slice (some ⟨b,off,none⟩) l.length cap/\l.length<=cap/\cap<=maxLen/\b < w.heap.size /\
    ∀ i (h:i < l.length),w.cell? ⟨b,off+i * 2,none⟩=some (.string l[i].1)/\w.cell? ⟨b,off+i * 2+1,none⟩=some (.int .i64 l[i].2)
theorem RdV.shape {w:World} {v:Value} {l:List Vl} (h:RdV w v l):∃ a cap,v=.slice a l.length cap:=by
  rcases h with ⟨a,cap,rfl,rfl,-⟩ | ⟨b,off,cap,h0,rfl,_⟩
  · exact ⟨a,cap,rfl⟩
  · exact ⟨_,cap,rfl⟩
theorem RdV.below {B:Nat} {w w':World} {v:Value} {l:List Vl} (h:RdV w v l) (hb:Below B w w') (hB:w.heap.size<=B):RdV w' v l:=by
  rcases h with h | ⟨b,off,cap,h0,hv,h1,h2,h3,h4⟩
  · exact .inl h
  · exact .inr ⟨b,off,cap,h0,hv,h1,h2,by have:=hb.size;omega,fun i hi=>⟨(hb.cell (p:=⟨b,off+i * 2,none⟩) (by show b < B;omega)).trans (h4 i hi).1,(hb.cell (p:=⟨b,off+i * 2+1,none⟩) (by show b < B;omega)).trans (h4 i hi).2⟩⟩
def vlC (p:Vl):List Value:=[.string p.1,.int .i64 p.2]
def OwnV (base:Nat) (w:World) (v:Value) (l:List Vl):Prop:=w.ownsRow base 124 2 v l.length (l.map vlC).flatten
theorem Tryz.infoVl:(Tryz.prog.info? 124).map (fun i=>(i.zero,i.size,i.bytes))=some (some (.agg #[.string { data:=#[] },.int .i64 0]),2,24):=by kernel_rfl
theorem vlC_sz (p:Vl):(vlC p).length=2:=rfl
theorem vlP_sz (l:List Vl) (k:Nat):∀ x ∈ part vlC [Value.string { data:=#[] },Value.int .i64 0] l k,x.length=2:=part_sz 2 _ _ _ _ vlC_sz rfl
theorem vlM_sz (l:List Vl):∀ x ∈ l.map vlC,x.length=2:=fun x hx=>by obtain ⟨p,_,rfl⟩:=List.mem_map.1 hx;rfl
theorem OwnV.rd {base:Nat} {w:World} {v:Value} {l:List Vl} (h:OwnV base w v l):RdV w v l:=by
  rcases h.2 with ⟨hv,hn⟩ | ⟨g,cap,cur,hv,hb,hg,hnc,hcm,hcs,ht⟩
  · exact .inl ⟨none,0,hv,List.length_eq_zero_iff.1 hn,fun _=>rfl⟩
  · by_cases hl:l=[]
    · subst hl;exact .inl ⟨_,_,hv,rfl,fun h=>by cases h⟩
    · refine .inr ⟨g,0,cap,hl,hv,hnc,hcm,(Array.getElem?_eq_some_iff.1 hg).1,?_⟩
      intro i hi
      have h':w.ownsRow base 124 2 (.slice (some ⟨g,0,none⟩) l.length cap) l.length (l.map vlC).flatten:=hv ▸ h
      have e0:=flat_get 2 (l.map vlC) i 0 (by simpa using hi) (vlM_sz l) (by omega)
      have e1:=flat_get 2 (l.map vlC) i 1 (by simpa using hi) (vlM_sz l) (by omega)
      rw [Nat.zero_add,h'.cellAt (i * 2) (by omega),h'.cellAt (i * 2+1) (by omega)]
      rw [Nat.add_zero] at e0
      rw [e0,e1]
      simp [vlC]
theorem OwnV.mono {base base':Nat} {w:World} {v:Value} {l:List Vl} (h:OwnV base w v l) (hB:base'<=base):OwnV base' w v l:=by
  refine ⟨h.1,?_⟩
  rcases h.2 with h' | ⟨g,cap,cur,hv,hbb,r⟩
  · exact .inl h'
  · exact .inr ⟨g,cap,cur,hv,by omega,r⟩
theorem OwnV.ge {base:Nat} {w:World} {v:Value} {l:List Vl} (h:OwnV base w v l):∀ k,v.ownBlock=some k->base<=k:=fun k hk=>(World.ownsRow.lt h k hk).1
theorem OwnV.lt {base:Nat} {w:World} {v:Value} {l:List Vl} (h:OwnV base w v l):∀ k,v.ownBlock=some k->k < w.heap.size:=fun k hk=>(World.ownsRow.lt h k hk).2
theorem OwnV.below {B base:Nat} {w w':World} {v:Value} {l:List Vl} (h:OwnV base w v l) (hb:Below B w w') (hB:w.heap.size<=B):OwnV base w' v l:=row_below h hb hB
theorem toVal_any (x:ByteArray) (y:Int) (w:World):Calls Tryz.prog 150 #[.agg #[.string x,.int .i64 y]] w fun e w'=>e=.returned (.agg #[.string x,.int .i64 y])/\Below w.heap.size w w':=by
  go_enter Tryz.func150,Tryz.ntmps150
  go_wp2
  refine bodyPost_ret (v:=.agg #[.string x,.int .i64 y]) (by simp [results,Tryz.f150,go_sem]) rfl ?_
  exact ⟨rfl,((((Below.refl _ w).alloc (Nat.le_refl _) _).alloc (by simp) _).alloc (by simp;omega) _)⟩
theorem toValS_any (v:Value) (l:List Vl) (w:World) (hr:RdV w v l) (hl:l.length<=4000000) :
    Calls Tryz.prog 90 #[v] w fun e w'=>∃ v',e=.returned v'/\OwnV w.heap.size w' v' l/\Below w.heap.size w w':=by
  obtain ⟨i0,hi,hz0,hz1,hz2⟩:=info_parts Tryz.infoVl
  rcases hr with ⟨a,cap,rfl,rfl,-⟩ | ⟨b,off,cap,h0,rfl,h1,h2,h3,h4⟩
  · go_enter Tryz.func90,Tryz.ntmps90
    go_wp2_with (refine wpList_make_full _ rfl _ _ 48 rfl w.heap.size 124 i0 (.agg #[.string { data:=#[] },.int .i64 0]) 2 Tryz.underlying48 hi hz0 hz1 .i64 .i64 _ _ 0 rfl rfl rfl rfl (by omega) (by unfold maxLen;omega) (Nat.le_refl _) ?_;intro w1 hown hgrow)
    have hb1:Below w.heap.size w w1:=(Below.refl _ _).grown hgrow (Nat.le_refl _) (by intro k hk;cases hk)
    refine wp_loop_rounds 1 ?_
    rw [rounds_succ]
    go_wp2
    go_ret
    have ho':OwnV w.heap.size w1 (.slice (some ⟨w.heap.size,0,none⟩) 0 0) []:=by
      have e:=made_flat (Value.agg #[.string { data:=#[] },.int .i64 0]).cells 2 0 rfl (by omega)
      rw [e] at hown
      exact hown
    exact ⟨_,rfl,ho',hb1⟩
  · go_enter Tryz.func90,Tryz.ntmps90
    go_wp2_with (refine wpList_make_full _ rfl _ _ 48 rfl w.heap.size 124 i0 (.agg #[.string { data:=#[] },.int .i64 0]) 2 Tryz.underlying48 hi hz0 hz1 .i64 .i64 _ _ l.length rfl rfl rfl rfl (by rw [hz2];omega) (by unfold maxLen;omega) (Nat.le_refl _) ?_;intro w1 hown hgrow)
    have hb1:Below w.heap.size w w1:=(Below.refl _ _).grown hgrow (Nat.le_refl _) (by intro k hk;cases hk)
    go_loopw [4] (fun i wr=>∃ k:Nat,k<=l.length/\i=.int .i64 k/\wr.ownsRow w.heap.size 124 2 (.slice (some ⟨w.heap.size,0,none⟩) l.length l.length) l.length (part vlC [Value.string { data:=#[] },Value.int .i64 0] l k).flatten/\Below w.heap.size w wr)
      (fun i _=>l.length - (intOf i).toNat)
    case atStart =>
      refine ⟨0,Nat.zero_le _,rfl,?_,hb1⟩
      rw [part_zero]
      have e:=made_flat (Value.agg #[.string { data:=#[] },.int .i64 0]).cells 2 l.length rfl (by omega)
      rw [e] at hown
      exact hown
    case round =>
      obtain ⟨k,hk,rfl,ho,hb⟩:=hrel
      clear hown hgrow hb1
      by_cases hlt:k < l.length
      · obtain ⟨d1,d2⟩:=h4 k hlt
        have hc1:wr.cell? ⟨b,off+k * 2,none⟩=some (.string l[k].1):=(hb.cell (p:=⟨b,off+k * 2,none⟩) h3).trans d1
        have hc2:wr.cell? ⟨b,off+k * 2+1,none⟩=some (.int .i64 l[k].2):=(hb.cell (p:=⟨b,off+k * 2+1,none⟩) h3).trans d2
        have hli:(k:Int) < (l.length:Int):=by omega
        have Hput:=hide (flat_put2 (part vlC [Value.string { data:=#[] },Value.int .i64 0] l k) k (.string l[k].1) (.int .i64 l[k].2) (by rw [part_len _ _ _ _ hk];exact hlt) (vlP_sz l k))
        have Hnext:=hide (part_next vlC [Value.string { data:=#[] },Value.int .i64 0] l k hlt)
        have Hz0:=hide (flat_get 2 (part vlC [Value.string { data:=#[] },Value.int .i64 0] l k) k 0 (by rw [part_len _ _ _ _ hk];exact hlt) (vlP_sz l k) (by omega))
        have Hz1:=hide (flat_get 2 (part vlC [Value.string { data:=#[] },Value.int .i64 0] l k) k 1 (by rw [part_len _ _ _ _ hk];exact hlt) (vlP_sz l k) (by omega))
        rw [part_at _ _ _ _ hlt] at Hz0 Hz1
        have Hvl:Hid (vlC l[k]=[.string l[k].1,.int .i64 l[k].2]):=hide rfl
        have hlb:w.heap.size < wr.heap.size:=((World.ownsRow.lt ho w.heap.size rfl)).2
        clear d1 d2 h4
        generalize l[k].1=x at hc1 Hput Hvl
        generalize l[k].2=y at hc2 Hput Hvl
        go_wp2_with (go_at_call 150;refine (toVal_any _ _ _).mono ?_;rintro e w2 ⟨rfl,hb2⟩;have ho2:=row_below ho hb2 (Nat.le_refl _);have q0:=ho2.cellAt (k * 2) (by omega);have q1:=ho2.cellAt (k * 2+1) (by omega);have f0:=ho2.frozenAt (k * 2);have f1:=ho2.frozenAt (k * 2+1);rw [<- Nat.add_zero (k * 2),Hz0.out] at q0;rw [Hz1.out] at q1;rw [Nat.add_zero] at q0;simp only [List.getElem?_cons_zero,List.getElem?_cons_succ] at q0 q1)
        go_roundw
        case rel =>
          refine ⟨k+1,by omega,by go_num,?_,((hb.trans (hb2.mono hb.size)).setCell (p:=⟨w.heap.size,k * 2,none⟩) (Nat.le_refl _) _).setCell (p:=⟨w.heap.size,k * 2+1,none⟩) (Nat.le_refl _) _⟩
          have s1:=(ho2.stored (k * 2) (.string x)).1
          have s2:=(s1.stored (k * 2+1) (.int .i64 y)).1
          rw [Hput.out,<- Hvl.out,Hnext.out] at s2
          exact s2
        case measure=>simp [intOf];omega
      · have e:k=l.length:=by omega
        subst e
        rw [part_all] at ho
        go_wp2
        go_ret
        exact ⟨_,rfl,ho,hb⟩
theorem add_flatV (b off i:Nat):(⟨b,off,none⟩:Addr).add i=⟨b,off+i,none⟩:=by
  by_cases hz:i=0
  · subst hz;simp [Addr.add]
  · simp [Addr.add,hz]
theorem own_nilV (w:World) (base:Nat) (h:base<=w.heap.size):OwnV base (w.alloc (.cells #[] 124)) (.slice (some ⟨w.heap.size,0,none⟩) 0 0) [] :=
  World.ownsRow_lit w #[] 0 h (by unfold maxLen;omega) (by simp)
theorem OwnV.alloc {base:Nat} {w:World} {v:Value} {l:List Vl} (h:OwnV base w v l) (o:Obj):OwnV base (w.alloc o) v l:=World.ownsRow.alloc h o
theorem rdV_cells {w:World} {b off:Nat} {k:List Vl} (h4:∀ i (h:i < k.length),w.cell? ⟨b,off+i * 2,none⟩=some (.string k[i].1)/\w.cell? ⟨b,off+i * 2+1,none⟩=some (.int .i64 k[i].2)) :
    ∀ j u,(k.map vlC).flatten[j]?=some u->w.cell? ((⟨b,off,none⟩:Addr).add j)=some u:=by
  intro j u hj
  have hjl:j < (k.map vlC).flatten.length:=(List.getElem?_eq_some_iff.1 hj).1
  rw [flat_len 2 _ (vlM_sz k),List.length_map] at hjl
  have hi:j / 2 < k.length:=by omega
  have e:=flat_get 2 (k.map vlC) (j / 2) (j % 2) (by simpa using hi) (vlM_sz k) (by omega)
  rw [show j / 2 * 2+j % 2=j from by omega] at e
  rw [e] at hj
  rw [add_flatV]
  rcases Nat.mod_two_eq_zero_or_one j with h | h
  · rw [h] at hj
    rw [show off+j=off+j / 2 * 2 from by omega,(h4 (j / 2) hi).1]
    simpa [vlC] using hj
  · rw [h] at hj
    rw [show off+j=off+j / 2 * 2+1 from by omega,(h4 (j / 2) hi).2]
    simpa [vlC] using hj
theorem app_ownV {ops:Array Oper} {rest:List Oper} {o:Oper} {a:Act} {Q:Exit->Act->World->Prop} (w:World) (hgd:o.guard=none) (s x:Operand)
    (ho:o.op=.call { callee:=.builtin .append,args:=#[s,x],argTypes:=#[48,48] })
    (base:Nat) (v vx:Value) (l k:List Vl) (hs:a.eval s=v) (hx:a.eval x=vx) (hown:OwnV base w v l) (hrd:RdV w vx k)
    (hlen:l.length+k.length<=100000000) (hbase:base<=w.heap.size)
    (h:∀ v' w',OwnV base w' v' (l ++ k)->w.grownBy w' v.ownBlock->Below base w w'->wpList Tryz.prog ops Q rest (a.put o.dst v') w'):wpList Tryz.prog ops Q (o :: rest) a w:=by
  obtain ⟨i0,hi,hz0,hz1,hz2⟩:=info_parts Tryz.infoVl
  have hbel:∀ w',w.grownBy w' v.ownBlock->Below base w w':=fun w' hg=>(Below.refl _ _).grown hg hbase (fun k hk=>(hown.ge k hk))
  rcases hrd with ⟨ax,cap,rfl,rfl,hnil⟩ | ⟨b,off,cap,h0,rfl,h1,h2,h3,h4⟩
  · cases ax with
    | none =>
      have hc:cap=0:=hnil rfl
      subst hc
      refine wpList_append_own_none hgd s x 48 ho base 124 i0 2 Tryz.underlying48 hi v l.length (l.map vlC).flatten hs hown hx ?_
      exact h v w (by simpa [OwnV] using hown) (World.grownBy.refl _ _) (Below.refl _ _)
    | some ad =>
      refine wpList_append_own w hgd s x 48 ho base 124 i0 (.agg #[.string { data:=#[] },.int .i64 0]) 2 24 Tryz.underlying48 hi hz0 hz1 hz2 rfl (by decide) v l.length (l.map vlC).flatten hs hown ad 0 cap [] hx rfl (by intro j u hj;simp at hj) (by intro u hu;simp at hu) (by unfold maxLen;simp at hlen;omega) (by simp at hlen;omega) hbase ?_
      intro v' w' ho' hg _
      exact h v' w' (by simpa [OwnV] using ho') hg (hbel w' hg)
  · refine wpList_append_own w hgd s x 48 ho base 124 i0 (.agg #[.string { data:=#[] },.int .i64 0]) 2 24 Tryz.underlying48 hi hz0 hz1 hz2 rfl (by decide) v l.length (l.map vlC).flatten hs hown ⟨b,off,none⟩ k.length cap (k.map vlC).flatten hx (by rw [flat_len 2 _ (vlM_sz k),List.length_map]) (rdV_cells h4) ?_ (by unfold maxLen;omega) (by omega) hbase ?_
    · intro u hu
      obtain ⟨c,hc,hu⟩:=List.mem_flatten.1 hu
      obtain ⟨p,_,rfl⟩:=List.mem_map.1 hc
      simp only [vlC,List.mem_cons,List.not_mem_nil,or_false] at hu
      rcases hu with rfl | rfl <;> rfl
    · intro v' w' ho' hg _
      exact h v' w' (by simpa [OwnV] using ho') hg (hbel w' hg)
theorem rd_one_v (w:World) (g:Nat) (x:ByteArray) (y:Int) (hg:g=w.heap.size):RdV (w.alloc (.cells #[.string x,.int .i64 y] 124)) (.slice (some ⟨g,0,none⟩) 1 1) [(x,y)]:=by
  subst hg
  refine .inr ⟨w.heap.size,0,1,by simp,rfl,by simp,by unfold maxLen;omega,by simp,?_⟩
  intro i hi
  simp only [List.length_cons,List.length_nil] at hi
  have:i=0:=by omega
  subst this
  exact ⟨by rw [World.cell?_alloc_at _ _ _ _ rfl];rfl,by rw [World.cell?_alloc_at _ _ _ _ rfl];rfl⟩
def sumV (f:Vl->Int) (l:List Vl):Int:=l.foldl (fun s p=>wrap64 (s+f p)) 0
def hasN (ns:List ByteArray) (s:ByteArray):Bool:=ns.any (fun t=>decide (t=s))
def wtN (ns:List ByteArray) (p:Vl):Int:=if hasN ns p.1=true then p.2 else 0
def weightV (l:List Vl) (ns:List ByteArray):Int:=sumV (wtN ns) l
def totalV (l:List Vl):Int:=sumV (·.2) l
def leadV (l:List Vl) (r:Int):ByteArray:=if l.length=0\/r < 0 then ByteArray.empty else (l.getD (r.toNat % l.length) (ByteArray.empty,0)).1
def okAt (ls:List ByteArray) (i:Nat):Bool:=nmB (ls.getD i ByteArray.empty) && (decide (i=0) || Op.bytesLess (ls.getD (i - 1) ByteArray.empty).toList (ls.getD i ByteArray.empty).toList)
def nmsB (ls:List ByteArray):Bool:=(List.range ls.length).all (okAt ls) && decide (ls.length<=20)
theorem nms_no (ls:List ByteArray) (k:Nat) (h:k < ls.length) (hk:okAt ls k=false):nmsB ls=false:=by
  unfold nmsB
  rw [Bool.and_eq_false_iff]
  left
  rw [Bool.eq_false_iff];intro ha
  rw [List.all_eq_true] at ha
  have:=ha k (by simpa using h)
  rw [hk] at this;cases this
theorem nms_yes (ls:List ByteArray) (h:∀ j,j < ls.length->okAt ls j=true):nmsB ls=decide (ls.length<=20):=by
  unfold nmsB
  have:(List.range ls.length).all (okAt ls)=true:=by
    rw [List.all_eq_true];intro j hj;exact h j (by simpa using hj)
  rw [this];rfl
theorem okAt_eq (ls:List ByteArray) (k:Nat) (s:ByteArray) (h:k < ls.length) (hs:ls[k]=s):okAt ls k=(nmB s && (decide (k=0) || Op.bytesLess (ls.getD (k - 1) ByteArray.empty).toList s.toList)):=by
  have:ls.getD k ByteArray.empty=s:=by rw [List.getD_eq_getElem?_getD,List.getElem?_eq_getElem h,<- hs];rfl
  unfold okAt;rw [this]
theorem specNamesOk_any (v:Value) (ls:List ByteArray) (w:World) (hr:RdS w v ls) (hl:ls.length<=4000000) (hs:∀ s ∈ ls,s.size<=maxLen) :
    Calls Tryz.prog 216 #[v] w fun e w'=>e=.returned (.bool (nmsB ls))/\Sm w w':=by
  rcases hr with ⟨a,cap,rfl,rfl,-⟩ | ⟨b,off,cap,h0,rfl,h1,h2,h3,h4⟩
  · go_enter Tryz.func216,Tryz.ntmps216
    go_wp2
    refine wp_loop_rounds 1 ?_
    rw [rounds_succ]
    go_wp2
    go_ret
    exact ⟨rfl,Sm.refl _⟩
  · have H4 := hide h4
    have Hs:=hide hs
    clear h4 hs
    go_enter Tryz.func216,Tryz.ntmps216
    go_wp2
    go_loopw [3] (fun i wr=>∃ k:Nat,k<=ls.length/\i=.int .i64 k/\(∀ j,j < k->okAt ls j=true)/\Sm w wr) (fun i _=>ls.length - (intOf i).toNat)
    case atStart=>exact ⟨0,Nat.zero_le _,rfl,fun j hj=>by omega,Sm.refl _⟩
    case round =>
      obtain ⟨k,hk,rfl,hall,hsm⟩:=hrel
      have Hall:=hide hall
      have Hsm:=hide hsm
      by_cases hlt:k < ls.length
      · have hc : wr.cell? ⟨b,off+k,none⟩=some (.string ls[k]):=(hsm.cell _).trans (H4.out k hlt)
        have hsz:=Hs.out ls[k] (List.getElem_mem hlt)
        have Hok:=hide (okAt_eq ls k ls[k] hlt rfl)
        have Hno:=hide (nms_no ls k hlt)
        have hli:(k:Int) < (ls.length:Int):=by omega
        have hprev:k ≥ 1->wr.cell? ⟨b,off+(k - 1),none⟩=some (.string (ls.getD (k - 1) ByteArray.empty)):=fun hk1=>by
          have h:=(hsm.cell _).trans (H4.out (k - 1) (by omega))
          rw [h];rw [List.getD_eq_getElem?_getD,List.getElem?_eq_getElem (by omega)];rfl
        clear hall hsm
        generalize ls[k]=s at hc hsz Hok
        generalize ls.getD (k - 1) ByteArray.empty=p at hprev Hok
        have Hq:=hide (fun w=>specNameOk_any s w hsz)
        clear hsz
        cases hn:nmB s
        · have hf:=hide (Hno.out (by rw [Hok.out,hn];rfl))
          rw [hn] at Hq
          clear hn hprev
          go_wp2
          go_quiet ((go_at_call 182;exact Calls.quiet_of_same (Hq.out _)))
          go_wp2
          go_ret
          exact ⟨ret_bool hf.out.symm,Hsm.out.drewN _⟩
        · rw [hn] at Hq
          by_cases hk1:k < 1
          · have hd:decide (0 < k)=false:=by simp;omega
            have hd2:decide ((0:Int) < (k:Int))=false:=by simp;omega
            have Hnx:Hid (okAt ls k=true):=hide (by rw [Hok.out,hn,show k=0 from by omega];rfl)
            clear hn hprev
            go_wp2
            go_quiet ((go_at_call 182;exact Calls.quiet_of_same (Hq.out _)))
            go_wp2
            go_roundw
            case rel=>exact ⟨k+1,by omega,by go_num,fun j hj=>by
                          by_cases hjk:j=k
                          · subst hjk;exact Hnx.out
                          · exact Hall.out j (by omega),Hsm.out.drewN _⟩
            case measure=>simp [intOf];omega
          · have hcp:=hprev (by omega)
            clear hprev
            have hpos:(0:Int) < (k:Int):=by omega
            have hposN:0 < k:=by omega
            have hd1:decide (0 < k)=true:=by simp;omega
            have hix:((k:Int) - 1).toNat=k - 1:=by omega
            have hix1:(0:Int)<=(k:Int) - 1:=by omega
            have hix2:(k:Int) - 1 < (ls.length:Int):=by omega
            cases hless:Op.bytesLess p.toList s.toList
            · have hf:=hide (Hno.out (by rw [Hok.out,hn,hless];simp;omega))
              clear hn
              go_wp2
              go_quiet ((go_at_call 182;exact Calls.quiet_of_same (Hq.out _)))
              go_wp2
              go_ret
              exact ⟨ret_bool hf.out.symm,Hsm.out.drewN _⟩
            · have Hnx:Hid (okAt ls k=true):=hide (by rw [Hok.out,hn,hless];simp)
              clear hn
              go_wp2
              go_quiet ((go_at_call 182;exact Calls.quiet_of_same (Hq.out _)))
              go_wp2
              go_roundw
              case rel=>exact ⟨k+1,by omega,by go_num,fun j hj=>by
                            by_cases hjk:j=k
                            · subst hjk;exact Hnx.out
                            · exact Hall.out j (by omega),Hsm.out.drewN _⟩
              case measure=>simp [intOf];omega
      · have hf:=hide (nms_yes ls (fun j hj=>Hall.out j (by omega)))
        clear hall hsm
        go_wp2
        go_ret
        exact ⟨ret_bool (by rw [hf.out,Bool.eq_iff_iff];simp only [decide_eq_true_eq];omega),Hsm.out⟩
theorem implNamesOk_any (v:Value) (ls:List ByteArray) (w:World) (hr:RdS w v ls) (hl:ls.length<=4000000) (hs:∀ s ∈ ls,s.size<=maxLen) :
    Calls Tryz.prog 218 #[v] w fun e w'=>e=.returned (.bool (nmsB ls))/\w'=w:=by
  by_cases h20:20 < ls.length
  · have hf:Hid (nmsB ls=false):=hide (by unfold nmsB;rw [decide_eq_false (by omega)];simp)
    obtain ⟨a,cap,rfl⟩:=hr.shape
    clear hr hs
    go_enter Tryz.func218,Tryz.ntmps218
    go_wp2
    go_ret
    exact ⟨ret_bool hf.out.symm,rfl⟩
  rcases hr with ⟨a,cap,rfl,rfl,-⟩ | ⟨b,off,cap,h0,rfl,h1,h2,h3,h4⟩
  · go_enter Tryz.func218,Tryz.ntmps218
    go_wp2
    refine wp_loop_rounds 1 ?_
    rw [rounds_succ]
    go_wp2
    go_ret
    exact ⟨rfl,rfl⟩
  · have H4 := hide h4
    have Hs:=hide hs
    clear h4 hs
    go_enter Tryz.func218,Tryz.ntmps218
    go_wp2
    go_loop [10] (fun i=>∃ k:Nat,k<=ls.length/\i=.int .i64 k/\(∀ j,j < k->okAt ls j=true)) (fun i=>ls.length - (intOf i).toNat)
    case atStart=>exact ⟨0,Nat.zero_le _,rfl,fun j hj=>by omega⟩
    case round =>
      obtain ⟨k,hk,rfl,hall⟩:=hrel
      have Hall:=hide hall
      by_cases hlt:k < ls.length
      · have hc : w.cell? ⟨b,off+k,none⟩=some (.string ls[k]):=H4.out k hlt
        have hsz:=Hs.out ls[k] (List.getElem_mem hlt)
        have Hok:=hide (okAt_eq ls k ls[k] hlt rfl)
        have Hno:=hide (nms_no ls k hlt)
        have hli:(k:Int) < (ls.length:Int):=by omega
        have hprev:k ≥ 1->w.cell? ⟨b,off+(k - 1),none⟩=some (.string (ls.getD (k - 1) ByteArray.empty)):=fun hk1=>by
          rw [H4.out (k - 1) (by omega)];rw [List.getD_eq_getElem?_getD,List.getElem?_eq_getElem (by omega)];rfl
        clear hall
        generalize ls[k]=s at hc hsz Hok
        generalize ls.getD (k - 1) ByteArray.empty=p at hprev Hok
        have Hq:=hide (fun w=>implNameOk_any s w hsz)
        clear hsz
        cases hn:nmB s
        · have hf:=hide (Hno.out (by rw [Hok.out,hn];rfl))
          rw [hn] at Hq
          clear hn hprev
          go_wp2_with (go_at_call 163;refine (Hq.out _).mono ?_;rintro e w' ⟨rfl,rfl⟩)
          go_ret
          exact ⟨ret_bool hf.out.symm,rfl⟩
        · rw [hn] at Hq
          by_cases hk1:k < 1
          · have Hnx:Hid (okAt ls k=true):=hide (by rw [Hok.out,hn,show k=0 from by omega];rfl)
            clear hn hprev
            go_wp2_with (go_at_call 163;refine (Hq.out _).mono ?_;rintro e w' ⟨rfl,rfl⟩)
            go_round
            case rel=>exact ⟨k+1,by omega,by go_num,fun j hj=>by
                          by_cases hjk:j=k
                          · subst hjk;exact Hnx.out
                          · exact Hall.out j (by omega)⟩
            case measure=>simp [intOf];omega
          · have hcp:=hprev (by omega)
            clear hprev
            have hpos:(0:Int) < (k:Int):=by omega
            have hposN:0 < k:=by omega
            have hix:((k:Int) - 1).toNat=k - 1:=by omega
            have hix1:(0:Int)<=(k:Int) - 1:=by omega
            have hix2:(k:Int) - 1 < (ls.length:Int):=by omega
            cases hless:Op.bytesLess p.toList s.toList
            · have hf:=hide (Hno.out (by rw [Hok.out,hn,hless];simp;omega))
              clear hn
              go_wp2_with (go_at_call 163;refine (Hq.out _).mono ?_;rintro e w' ⟨rfl,rfl⟩)
              go_ret
              exact ⟨ret_bool hf.out.symm,rfl⟩
            · have Hnx:Hid (okAt ls k=true):=hide (by rw [Hok.out,hn,hless];simp)
              clear hn
              go_wp2_with (go_at_call 163;refine (Hq.out _).mono ?_;rintro e w' ⟨rfl,rfl⟩)
              go_round
              case rel=>exact ⟨k+1,by omega,by go_num,fun j hj=>by
                            by_cases hjk:j=k
                            · subst hjk;exact Hnx.out
                            · exact Hall.out j (by omega)⟩
              case measure=>simp [intOf];omega
      · have hf:=hide (nms_yes ls (fun j hj=>Hall.out j (by omega)))
        clear hall
        go_wp2
        go_ret
        exact ⟨ret_bool (by rw [hf.out,eq_comm,decide_eq_true_eq];omega),rfl⟩
def ModV (l:List Vl):Prop:=(0<=totalV l/\totalV l<=1000000000)/\∀ ns,0<=weightV l ns/\weightV l ns<=1000000000
def qcV (r b:Int) (vw:Value):Value:=.agg #[.int .i64 r,.int .i64 b,vw]
def rootB (r b:Int) (ns:List ByteArray):Bool:=decide (r=0) && (decide (b=-1) && decide (ns.length=0))
def allV (l:List Vl) (ns:List ByteArray):Bool:=ns.all (fun s=>hasN (l.map (·.1)) s) && nmsB ns
def quoB (l:List Vl) (ns:List ByteArray):Bool:=decide (2 * totalV l < 3 * weightV l ns)
def qcB (l:List Vl) (r b:Int) (ns:List ByteArray):Bool:=rootB r b ns || (inB r 1 10000 && (inB b 0 100000 && (allV l ns && quoB l ns)))
theorem specL8Root_any (r b:Int) (vw:Value) (ws:List ByteArray) (w:World) (hrw:RdS w vw ws) (hlw:ws.length<=4000000) :
    Calls Tryz.prog 135 #[qcV r b vw] w fun e w'=>e=.returned (.bool (rootB r b ws))/\Below w.heap.size w w':=by
  obtain ⟨a,c,rfl⟩:=hrw.shape
  clear hrw
  simp only [qcV]
  have HB:=hide ((Below.refl _ w).alloc (Nat.le_refl _) (.cells #[.int .i64 r,.int .i64 b,.slice a ws.length c] 44))
  by_cases h1:r=0
  · by_cases h2:b=-1
    · by_cases h3:ws.length=0
      · have Hf:Hid (rootB r b ws=true):=hide (by unfold rootB;rw [decide_eq_true h1,decide_eq_true h2,decide_eq_true h3];rfl)
        have h3i:((ws.length:Int) == 0)=true:=by rw [beq_iff_eq];omega
        subst h1 h2
        generalize rootB 0 (-1) ws=X at Hf ⊢
        clear h3
        go_enter Tryz.func135,Tryz.ntmps135
        go_wp2
        go_ret
        exact ⟨ret_bool Hf.out.symm,HB.out⟩
      · have Hf:Hid (rootB r b ws=false):=hide (by unfold rootB;rw [decide_eq_false h3,Bool.and_false,Bool.and_false])
        have h3i:((ws.length:Int) == 0)=false:=by rw [beq_eq_false_iff_ne];omega
        subst h1 h2
        generalize rootB 0 (-1) ws=X at Hf ⊢
        go_enter Tryz.func135,Tryz.ntmps135
        go_wp2
        go_ret
        exact ⟨ret_bool Hf.out.symm,HB.out⟩
    · have Hf:Hid (rootB r b ws=false):=hide (by unfold rootB;rw [decide_eq_false h2,Bool.false_and,Bool.and_false])
      have h2i:(b == -1)=false:=by rw [beq_eq_false_iff_ne];exact h2
      subst h1
      generalize rootB 0 b ws=X at Hf ⊢
      clear h2
      go_enter Tryz.func135,Tryz.ntmps135
      go_wp2
      go_ret
      exact ⟨ret_bool Hf.out.symm,HB.out⟩
  · have Hf:Hid (rootB r b ws=false):=hide (by unfold rootB;rw [decide_eq_false h1,Bool.false_and])
    have h1i:(r == 0)=false:=by rw [beq_eq_false_iff_ne];exact h1
    generalize rootB r b ws=X at Hf ⊢
    clear h1
    go_enter Tryz.func135,Tryz.ntmps135
    go_wp2
    go_ret
    exact ⟨ret_bool Hf.out.symm,HB.out⟩
end Go.Proofs.YtohachldbpejpaaGreatDoor
namespace Go.Proofs.YtohachldbpejpaaGreatDoor
open Go.RowKit Go.Sort
set_option linter.unusedVariables false
def noneB (r:Int) (ws:List ByteArray) (hs:List Int):Bool:=decide (r=0) && (decide (ws.length=0) && decide (hs.length=0))
def hisB (r:Int) (hs:List Int):Bool:=hs.all (fun h=>inB h 0 (r - 1))
def tcB (l:List Vl) (r:Int) (ws:List ByteArray) (hs:List Int):Bool:=noneB r ws hs || (inB r 1 10000 && (allV l ws && (quoB l ws && (decide (hs.length=ws.length) && hisB r hs))))
theorem specL8None_any (r:Int) (vw vh:Value) (ws:List ByteArray) (hs:List Int) (w:World) (hrw:RdS w vw ws) (hrh:RdI w vh hs) (hlw:ws.length<=4000000) (hlh:hs.length<=4000000) :
    Calls Tryz.prog 217 #[tcV r vw vh] w fun e w'=>e=.returned (.bool (noneB r ws hs))/\Below w.heap.size w w':=by
  obtain ⟨a,c,rfl⟩:=hrw.shape
  obtain ⟨a2,c2,rfl⟩:=hrh.shape
  clear hrw hrh
  simp only [tcV]
  have HB:=hide ((Below.refl _ w).alloc (Nat.le_refl _) (.cells #[.int .i64 r,.slice a ws.length c,.slice a2 hs.length c2] 47))
  by_cases h1:r=0
  · by_cases h2:ws.length=0
    · by_cases h3:hs.length=0
      · have Hf:Hid (noneB r ws hs=true):=hide (by unfold noneB;rw [decide_eq_true h1,decide_eq_true h2,decide_eq_true h3];rfl)
        have h2i:((ws.length:Int) == 0)=true:=by rw [beq_iff_eq];omega
        have h3i:((hs.length:Int) == 0)=true:=by rw [beq_iff_eq];omega
        subst h1
        generalize noneB 0 ws hs=X at Hf ⊢
        clear h2 h3
        go_enter Tryz.func217,Tryz.ntmps217
        go_wp2
        go_ret
        exact ⟨ret_bool Hf.out.symm,HB.out⟩
      · have Hf:Hid (noneB r ws hs=false):=hide (by unfold noneB;rw [decide_eq_false h3,Bool.and_false,Bool.and_false])
        have h2i:((ws.length:Int) == 0)=true:=by rw [beq_iff_eq];omega
        have h3i:((hs.length:Int) == 0)=false:=by rw [beq_eq_false_iff_ne];omega
        subst h1
        generalize noneB 0 ws hs=X at Hf ⊢
        clear h2 h3
        go_enter Tryz.func217,Tryz.ntmps217
        go_wp2
        go_ret
        exact ⟨ret_bool Hf.out.symm,HB.out⟩
    · have Hf:Hid (noneB r ws hs=false):=hide (by unfold noneB;rw [decide_eq_false h2,Bool.false_and,Bool.and_false])
      have h2i:((ws.length:Int) == 0)=false:=by rw [beq_eq_false_iff_ne];omega
      subst h1
      generalize noneB 0 ws hs=X at Hf ⊢
      clear h2
      go_enter Tryz.func217,Tryz.ntmps217
      go_wp2
      go_ret
      exact ⟨ret_bool Hf.out.symm,HB.out⟩
  · have Hf:Hid (noneB r ws hs=false):=hide (by unfold noneB;rw [decide_eq_false h1,Bool.false_and])
    have h1i:(r == 0)=false:=by rw [beq_eq_false_iff_ne];exact h1
    generalize noneB r ws hs=X at Hf ⊢
    clear h1
    go_enter Tryz.func217,Tryz.ntmps217
    go_wp2
    go_ret
    exact ⟨ret_bool Hf.out.symm,HB.out⟩
theorem his_no (r:Int) (hs:List Int) (k:Nat) (h:k < hs.length) (hk:inB hs[k] 0 (r - 1)=false):hisB r hs=false:=by
  unfold hisB
  rw [List.all_eq_false]
  exact ⟨hs[k],List.getElem_mem _,by simp [hk]⟩
theorem his_yes (r:Int) (hs:List Int) (h:∀ j (hj:j < hs.length),inB hs[j] 0 (r - 1)=true):hisB r hs=true:=by
  unfold hisB
  rw [List.all_eq_true]
  intro x hx
  obtain ⟨j,hj,rfl⟩:=List.mem_iff_getElem.1 hx
  exact h j hj
theorem RdI.at {w:World} {a:Option Addr} {cap k:Nat} {l:List Int} (h:RdI w (.slice a l.length cap) l) (hk:k < l.length) :
    ∃ b off,a=some ⟨b,off,none⟩/\l.length<=cap/\cap<=maxLen/\b < w.heap.size/\w.cell? ⟨b,off+k,none⟩=some (.int .i64 l[k]):=by
  rcases h with ⟨a',cap',e,rfl,-⟩ | ⟨b,off,cap',h0,e,h1,h2,h3,h4⟩
  · simp at hk
  · simp only [Value.slice.injEq] at e
    obtain ⟨rfl,-,rfl⟩:=e
    exact ⟨b,off,rfl,h1,h2,h3,h4 k hk⟩
theorem sameC_regrown {P:Program} {f:FuncId} {args:Array Value} {w:World} {d:Nat} {os:Array Obj} {v:Value}
    (h:Calls P f args (grow (redrawn w d) os) fun e w'=>e=.returned v/\w'=grow (redrawn w d) os):Calls P f args (grow (redrawn w d) os) fun e w''=>e=.returned v/\∃ p:Regrown,w''=grow (redrawn w p.d) p.os :=
  h.mono fun _ _ ⟨he,hw⟩=>⟨he,⟨⟨d,os⟩,hw⟩⟩
end Go.Proofs.YtohachldbpejpaaGreatDoor
