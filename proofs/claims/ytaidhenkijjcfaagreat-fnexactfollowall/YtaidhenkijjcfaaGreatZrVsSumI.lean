/- What those who vote weigh, by the landed code. -/
import Derived.Test.YtaidhenkijjcfaaGreatZrVsEq
set_option maxRecDepth 20000
set_option maxHeartbeats 1000000
namespace Go.Proofs.YtaidhenkijjcfaaGreat
open Go.RowKit
set_option linter.unusedVariables false
abbrev Tr:=Int × Int × ByteArray
def trV (p:Tr):Value:=.agg #[.int .i64 p.1,.int .i64 p.2.1,.string p.2.2]
def trC (p:Tr):List Value:=[.int .i64 p.1,.int .i64 p.2.1,.string p.2.2]
structure TrAt (w:World) (b o:Nat) (p:Tr):Prop where
  c0:w.cell? ⟨b,o,none⟩=some (.int .i64 p.1)
  c1:w.cell? ⟨b,o+1,none⟩=some (.int .i64 p.2.1)
  c2:w.cell? ⟨b,o+2,none⟩=some (.string p.2.2)
theorem TrAt.below {w w':World} {B b o:Nat} {p:Tr} (h:TrAt w b o p) (hb:Below B w w') (hB:b < B):TrAt w' b o p :=
  ⟨(hb.cell (p:=⟨b,o,none⟩) hB).trans h.c0,(hb.cell (p:=⟨b,o+1,none⟩) hB).trans h.c1,(hb.cell (p:=⟨b,o+2,none⟩) hB).trans h.c2⟩
def RdR (w:World) (v:Value) (l:List Tr):Prop :=
  (∃ a cap,v=.slice a 0 cap/\l=[]/\(a=none->cap=0)) \/
  ∃ b off cap,l ≠ []/\v=.slice (some ⟨b,off,none⟩) l.length cap/\l.length<=cap/\cap<=maxLen/\b < w.heap.size/\∀ i (h:i < l.length),TrAt w b (off+i * 3) l[i]
theorem RdR.shape {w:World} {v:Value} {l:List Tr} (h:RdR w v l):∃ a cap,v=.slice a l.length cap:=by
  rcases h with ⟨a,cap,rfl,rfl,-⟩ | ⟨b,off,cap,h0,rfl,_⟩
  · exact ⟨a,cap,rfl⟩
  · exact ⟨_,cap,rfl⟩
theorem RdR.below {B:Nat} {w w':World} {v:Value} {l:List Tr} (h:RdR w v l) (hb:Below B w w') (hB:w.heap.size<=B):RdR w' v l:=by
  rcases h with h | ⟨b,off,cap,h0,hv,h1,h2,h3,h4⟩
  · exact .inl h
  · exact .inr ⟨b,off,cap,h0,hv,h1,h2,by have:=hb.size;omega,fun i hi=>(h4 i hi).below hb (by omega)⟩
theorem trM_sz (l:List Tr):∀ x ∈ l.map trC,x.length=3:=fun x hx=>by obtain ⟨p,_,rfl⟩:=List.mem_map.1 hx;rfl
def OwnR (t:TypeId) (base:Nat) (w:World) (v:Value) (l:List Tr):Prop:=w.ownsRow base t 3 v l.length (l.map trC).flatten
theorem OwnR.rd {t:TypeId} {base:Nat} {w:World} {v:Value} {l:List Tr} (h:OwnR t base w v l):RdR w v l:=by
  rcases h.2 with ⟨rfl,hn⟩ | ⟨g,cap,cur,rfl,hb,hg,hnc,hcm,hcs,ht⟩
  · have:l=[]:=List.length_eq_zero_iff.1 hn
    subst this
    exact .inl ⟨_,_,rfl,rfl,fun _=>rfl⟩
  · by_cases hn:l=[]
    · subst hn;exact .inl ⟨_,_,rfl,rfl,fun h=>by cases h⟩
    · refine .inr ⟨g,0,cap,hn,rfl,hnc,hcm,(Array.getElem?_eq_some_iff.1 hg).1,fun i hi=>?_⟩
      have cell:∀ j,j < 3->w.cell? ⟨g,0+i * 3+j,none⟩=(trC l[i])[j]?:=fun j hj=>by
        rw [Nat.zero_add,World.ownsRow.cellAt h (i * 3+j) (by omega),flat_get 3 (l.map trC) i j (by simpa using hi) (trM_sz l) hj]
        simp
      exact ⟨by have:=cell 0 (by omega);simpa [trC] using this,by have:=cell 1 (by omega);simpa [trC] using this,by have:=cell 2 (by omega);simpa [trC] using this⟩
theorem Blk.newR (W:World) (t:TypeId) (cs:List Value) (n:Nat) (h:n=W.heap.size):Blk (W.alloc (.cells cs.toArray t)) n t cs:=by subst h;exact Blk.new W t cs
theorem add_flatV (b off i:Nat):(⟨b,off,none⟩:Addr).add i=⟨b,off+i,none⟩:=by
  by_cases hz:i=0
  · subst hz;simp [Addr.add]
  · simp [Addr.add,hz]
theorem own_nilV (w:World) (base:Nat) (h:base<=w.heap.size):OwnV base (w.alloc (.cells #[] 100)) (.slice (some ⟨w.heap.size,0,none⟩) 0 0) [] :=
  World.ownsRow_lit w #[] 0 h (by unfold maxLen;omega) (by simp)
theorem OwnV.alloc {base:Nat} {w:World} {v:Value} {l:List Vl} (h:OwnV base w v l) (o:Obj):OwnV base (w.alloc o) v l:=World.ownsRow.alloc h o
theorem rdV_cells {w:World} {b off:Nat} {k:List Vl} (h4:∀ i (h:i < k.length),w.cell? ⟨b,off+i * 2,none⟩=some (.string k[i].1)/\w.cell? ⟨b,off+i * 2+1,none⟩=some (.int .i64 k[i].2)) :
    ∀ j u,(k.map vlC).flatten[j]?=some u->w.cell? ((⟨b,off,none⟩:Addr).add j)=some u:=by
  intro j u hj
  have hjl:j < (k.map vlC).flatten.length:=(List.getElem?_eq_some_iff.1 hj).1
  rw [flat_len 2 _ (vlM_sz k),List.length_map] at hjl
  have hi:j / 2 < k.length:=by omega
  have e:=flat_get 2 (k.map vlC) (j / 2) (j % 2) (by simpa using hi) (vlM_sz k) (by omega)
  rw [show j / 2 * 2+j % 2=j from by omega] at e
  rw [e] at hj
  rw [add_flatV]
  rcases Nat.mod_two_eq_zero_or_one j with h | h
  · rw [h] at hj
    rw [show off+j=off+j / 2 * 2 from by omega,(h4 (j / 2) hi).1]
    simpa [vlC] using hj
  · rw [h] at hj
    rw [show off+j=off+j / 2 * 2+1 from by omega,(h4 (j / 2) hi).2]
    simpa [vlC] using hj
theorem app_ownV {ops:Array Oper} {rest:List Oper} {o:Oper} {a:Act} {Q:Exit->Act->World->Prop} (w:World) (hgd:o.guard=none) (s x:Operand)
    (ho:o.op=.call { callee:=.builtin .append,args:=#[s,x],argTypes:=#[33,33] })
    (base:Nat) (v vx:Value) (l k:List Vl) (hs:a.eval s=v) (hx:a.eval x=vx) (hown:OwnV base w v l) (hrd:RdV w vx k)
    (hlen:l.length+k.length<=100000000) (hbase:base<=w.heap.size)
    (h:∀ v' w',OwnV base w' v' (l ++ k)->w.grownBy w' v.ownBlock->Below base w w'->wpList Tryz.prog ops Q rest (a.put o.dst v') w'):wpList Tryz.prog ops Q (o :: rest) a w:=by
  obtain ⟨i0,hi,hz0,hz1,hz2⟩:=info_parts Tryz.infoVl
  have hbel:∀ w',w.grownBy w' v.ownBlock->Below base w w':=fun w' hg=>(Below.refl _ _).grown hg hbase (fun k hk=>(hown.ge k hk))
  rcases hrd with ⟨ax,cap,rfl,rfl,hnil⟩ | ⟨b,off,cap,h0,rfl,h1,h2,h3,h4⟩
  · cases ax with
    | none =>
      have hc:cap=0:=hnil rfl
      subst hc
      refine wpList_append_own_none hgd s x 33 ho base 100 i0 2 Tryz.underlying33 hi v l.length (l.map vlC).flatten hs hown hx ?_
      exact h v w (by simpa [OwnV] using hown) (World.grownBy.refl _ _) (Below.refl _ _)
    | some ad =>
      refine wpList_append_own w hgd s x 33 ho base 100 i0 (.agg #[.string { data:=#[] },.int .i64 0]) 2 24 Tryz.underlying33 hi hz0 hz1 hz2 rfl (by decide) v l.length (l.map vlC).flatten hs hown ad 0 cap [] hx rfl (by intro j u hj;simp at hj) (by intro u hu;simp at hu) (by unfold maxLen;simp at hlen;omega) (by simp at hlen;omega) hbase ?_
      intro v' w' ho' hg _
      exact h v' w' (by simpa [OwnV] using ho') hg (hbel w' hg)
  · refine wpList_append_own w hgd s x 33 ho base 100 i0 (.agg #[.string { data:=#[] },.int .i64 0]) 2 24 Tryz.underlying33 hi hz0 hz1 hz2 rfl (by decide) v l.length (l.map vlC).flatten hs hown ⟨b,off,none⟩ k.length cap (k.map vlC).flatten hx (by rw [flat_len 2 _ (vlM_sz k),List.length_map]) (rdV_cells h4) ?_ (by unfold maxLen;omega) (by omega) hbase ?_
    · intro u hu
      obtain ⟨c,hc,hu⟩:=List.mem_flatten.1 hu
      obtain ⟨p,_,rfl⟩:=List.mem_map.1 hc
      simp only [vlC,List.mem_cons,List.not_mem_nil,or_false] at hu
      rcases hu with rfl | rfl <;> rfl
    · intro v' w' ho' hg _
      exact h v' w' (by simpa [OwnV] using ho') hg (hbel w' hg)
theorem rd_one_v (w:World) (g:Nat) (x:ByteArray) (y:Int) (hg:g=w.heap.size):RdV (w.alloc (.cells #[.string x,.int .i64 y] 100)) (.slice (some ⟨g,0,none⟩) 1 1) [(x,y)]:=by
  subst hg
  refine .inr ⟨w.heap.size,0,1,by simp,rfl,by simp,by unfold maxLen;omega,by simp,?_⟩
  intro i hi
  simp only [List.length_cons,List.length_nil] at hi
  have:i=0:=by omega
  subst this
  exact ⟨by rw [World.cell?_alloc_at _ _ _ _ rfl];rfl,by rw [World.cell?_alloc_at _ _ _ _ rfl];rfl⟩
theorem foldV_snoc {α β:Type} (f:β->α->β) (z:β) (l:List α) (k:Nat) (h:k < l.length):(l.take (k+1)).foldl f z=f ((l.take k).foldl f z) l[k]:=by
  rw [List.take_succ_eq_append_getElem h,List.foldl_append];rfl
def sumV (f:Vl->Int) (l:List Vl):Int:=l.foldl (fun s p=>wrap64 (s+f p)) 0
theorem sumV_snoc (f:Vl->Int) (l:List Vl) (k:Nat) (h:k < l.length):sumV f (l.take (k+1))=wrap64 (sumV f (l.take k)+f l[k]):=foldV_snoc _ _ l k h
theorem wrap64_twice (x:Int):wrap64 (wrap64 x+0)=wrap64 x:=by rw [Int.add_zero];unfold wrap64;omega
theorem sumV_same (f:Vl->Int):∀ (l:List Vl) (s:Int),wrap64 (s+0)=s->wrap64 (l.foldl (fun s p=>wrap64 (s+f p)) s+0)=l.foldl (fun s p=>wrap64 (s+f p)) s
  | [],s,h=>h
  | p :: l,s,h=>by rw [List.foldl_cons];exact sumV_same f l _ (wrap64_twice _)
theorem sumV_zero (f:Vl->Int) (l:List Vl):wrap64 (sumV f l+0)=sumV f l:=sumV_same f l 0 (by unfold wrap64;omega)
def hasN (ns:List ByteArray) (s:ByteArray):Bool:=ns.any (fun t=>decide (t=s))
theorem hasN_yes {ns:List ByteArray} {s:ByteArray} (h:s ∈ ns):hasN ns s=true:=List.any_eq_true.2 ⟨s,h,by simp⟩
theorem hasN_no {ns:List ByteArray} {s:ByteArray} (h:s ∉ ns):hasN ns s=false:=by
  cases e:hasN ns s with
  | false=>rfl
  | true =>
    obtain ⟨t,ht,e'⟩:=List.any_eq_true.1 e
    have:t=s:=by simpa using e'
    exact absurd (this ▸ ht) h
def wtN (ns:List ByteArray) (p:Vl):Int:=if hasN ns p.1=true then p.2 else 0
def weightV (l:List Vl) (ns:List ByteArray):Int:=sumV (wtN ns) l
def totalV (l:List Vl):Int:=sumV (·.2) l
def leadV (l:List Vl) (r:Int):ByteArray:=if l.length=0\/r < 0 then ByteArray.empty else (l.getD (r.toNat % l.length) (ByteArray.empty,0)).1
theorem mem_next {ns:List ByteArray} {s:ByteArray} {k:Nat} (h:k < ns.length) (hn:s ∉ ns.take k) (he:ns[k] ≠ s):s ∉ ns.take (k+1):=by
  rw [List.take_succ_eq_append_getElem h]
  intro hm
  rcases List.mem_append.1 hm with h' | h'
  · exact hn h'
  · exact he (by simpa using (List.mem_singleton.1 h').symm)
theorem specHas_any (v:Value) (ns:List ByteArray) (s:ByteArray) (w:World) (hr:RdS w v ns) (hl:ns.length<=4000000) :
    Calls Tryz.prog 152 #[v,.string s] w fun e w'=>e=.returned (.bool (hasN ns s))/\Below w.heap.size w w':=by
  rcases hr with ⟨a,cap,rfl,rfl,-⟩ | ⟨b,off,cap,h0,rfl,h1,h2,h3,h4⟩
  · go_enter Tryz.func152,Tryz.ntmps152
    go_wp2
    refine wp_loop_rounds 1 ?_
    rw [rounds_succ]
    go_wp2
    go_ret
    exact ⟨rfl,Below.refl _ _⟩
  · have H4:=hide h4
    clear h4
    go_enter Tryz.func152,Tryz.ntmps152
    go_wp2
    go_loopw [5] (fun i wr=>∃ k:Nat,k<=ns.length/\i=.int .i64 k/\s ∉ ns.take k/\Below w.heap.size w wr) (fun i _=>ns.length - (intOf i).toNat)
    case atStart=>exact ⟨0,Nat.zero_le _,rfl,by simp,Below.refl _ _⟩
    case round =>
      obtain ⟨k,hk,rfl,hno,hb⟩:=hrel
      have Hno:=hide hno
      clear hno
      by_cases hlt:k < ns.length
      · have hc:=(hb.cell (p:=⟨b,off+k,none⟩) h3).trans (H4.out k hlt)
        have hli:(k:Int) < (ns.length:Int):=by omega
        by_cases he:ns[k]=s
        · have Hr:Hid (hasN ns s=true):=hide (hasN_yes (by rw [<- he];exact List.getElem_mem _))
          rw [he] at hc
          clear he
          go_wp2
          go_ret
          exact ⟨ret_bool Hr.out.symm,hb⟩
        · have Hn2:=hide (mem_next hlt Hno.out he)
          have hq:=bytes_ne he
          clear he Hno
          generalize ns[k]=t at hc hq
          go_wp2
          go_roundw
          case rel=>exact ⟨k+1,by omega,by go_num,Hn2.out,hb⟩
          case measure=>simp [intOf];omega
      · have Hr:Hid (hasN ns s=false):=hide (hasN_no (by have:=Hno.out;rwa [List.take_of_length_le (by omega)] at this))
        go_wp2
        go_ret
        exact ⟨ret_bool Hr.out.symm,hb⟩
theorem specWeightOf_any (v vn:Value) (l:List Vl) (ns:List ByteArray) (w:World) (hr:RdV w v l) (hrn:RdS w vn ns) (hl:l.length<=4000000) (hln:ns.length<=4000000) :
    Calls Tryz.prog 138 #[v,vn] w fun e w'=>e=.returned (.int .i64 (weightV l ns))/\Below w.heap.size w w':=by
  obtain ⟨an,cn,rfl⟩:=hrn.shape
  rcases hr with ⟨a,cap,rfl,rfl,-⟩ | ⟨b,off,cap,h0,rfl,h1,h2,h3,h4⟩
  · go_enter Tryz.func138,Tryz.ntmps138
    go_wp2
    refine wp_loop_rounds 1 ?_
    rw [rounds_succ]
    go_wp2
    go_ret
    exact ⟨rfl,Below.refl _ _⟩
  · have H4:=hide h4
    have Hrn:=hide hrn
    clear h4 hrn
    go_enter Tryz.func138,Tryz.ntmps138
    go_wp2
    go_loopw [5,6] (fun nv iv wr=>∃ k:Nat,k<=l.length/\iv=.int .i64 k/\nv=.int .i64 (sumV (wtN ns) (l.take k))/\Below w.heap.size w wr) (fun _ iv _=>l.length - (intOf iv).toNat)
    case atStart=>exact ⟨0,Nat.zero_le _,rfl,rfl,Below.refl _ _⟩
    case round =>
      obtain ⟨k,hkl,rfl,rfl,hb⟩:=hrel
      by_cases hlt:k < l.length
      · have c0:=(hb.cell (p:=⟨b,off+k * 2,none⟩) h3).trans (H4.out k hlt).1
        have c1:=(hb.cell (p:=⟨b,off+k * 2+1,none⟩) h3).trans (H4.out k hlt).2
        have hli:(k:Int) < (l.length:Int):=by omega
        have Hf:=hide (sumV_snoc (wtN ns) l k hlt)
        have Hz:=hide (sumV_zero (wtN ns) (l.take k))
        have hbw:b < wr.heap.size:=Nat.lt_of_lt_of_le h3 hb.size
        have HH:=hide (specHas_any (.slice an ns.length cn) ns l[k].1 wr (Hrn.out.below hb (Nat.le_refl _)) hln)
        generalize sumV (wtN ns) (l.take k)=acc at Hf Hz ⊢
        generalize l[k]=p at c0 c1 Hf HH
        obtain ⟨nm,wt⟩:=p
        simp only at c0 c1 HH
        cases hm:hasN ns nm
        case true =>
          rw [hm] at HH
          have Hf2:Hid (sumV (wtN ns) (l.take (k+1))=wrap64 (acc+wt)):=hide (by rw [Hf.out];unfold wtN;rw [if_pos hm])
          clear Hf Hz hm
          have Hb:=hide hb
          clear hb
          go_wp2_with (go_at_call 152;refine HH.out.mono ?_;rintro e w2 ⟨rfl,hb2⟩;have d1:=(hb2.cell (p:=⟨b,off+k * 2+1,none⟩) hbw).trans c1)
          go_roundw
          case rel=>exact ⟨k+1,by omega,by go_num,by rw [Hf2.out],Hb.out.trans (hb2.mono Hb.out.size)⟩
          case measure=>simp [intOf];omega
        case false =>
          rw [hm] at HH
          have Hf2:Hid (sumV (wtN ns) (l.take (k+1))=acc):=hide (by rw [Hf.out];unfold wtN;rw [if_neg (by rw [hm];simp)];exact Hz.out)
          clear Hf Hz hm
          have Hb:=hide hb
          clear hb
          go_wp2_with (go_at_call 152;refine HH.out.mono ?_;rintro e w2 ⟨rfl,hb2⟩)
          go_roundw
          case rel=>exact ⟨k+1,by omega,by go_num,by rw [Hf2.out],Hb.out.trans (hb2.mono Hb.out.size)⟩
          case measure=>simp [intOf];omega
      · have Hf:Hid (weightV l ns=sumV (wtN ns) (l.take k)):=hide (by unfold weightV;rw [List.take_of_length_le (by omega)])
        generalize sumV (wtN ns) (l.take k)=acc at Hf ⊢
        go_wp2
        go_ret
        exact ⟨ret_int Hf.out.symm,hb⟩
theorem specTotalOf_any (v:Value) (l:List Vl) (w:World) (hr:RdV w v l) (hl:l.length<=4000000) :
    Calls Tryz.prog 139 #[v] w fun e w'=>e=.returned (.int .i64 (totalV l))/\Below w.heap.size w w':=by
  rcases hr with ⟨a,cap,rfl,rfl,-⟩ | ⟨b,off,cap,h0,rfl,h1,h2,h3,h4⟩
  · go_enter Tryz.func139,Tryz.ntmps139
    go_wp2
    refine wp_loop_rounds 1 ?_
    rw [rounds_succ]
    go_wp2
    go_ret
    exact ⟨rfl,Below.refl _ _⟩
  · have H4:=hide h4
    clear h4
    go_enter Tryz.func139,Tryz.ntmps139
    go_wp2
    go_loopw [3,4] (fun nv iv wr=>∃ k:Nat,k<=l.length/\iv=.int .i64 k/\nv=.int .i64 (sumV (·.2) (l.take k))/\Below w.heap.size w wr) (fun _ iv _=>l.length - (intOf iv).toNat)
    case atStart=>exact ⟨0,Nat.zero_le _,rfl,rfl,Below.refl _ _⟩
    case round =>
      obtain ⟨k,hkl,rfl,rfl,hb⟩:=hrel
      by_cases hlt:k < l.length
      · have c1:=(hb.cell (p:=⟨b,off+k * 2+1,none⟩) h3).trans (H4.out k hlt).2
        have hli:(k:Int) < (l.length:Int):=by omega
        have Hf:=hide (sumV_snoc (·.2) l k hlt)
        generalize sumV (·.2) (l.take k)=acc at Hf ⊢
        generalize l[k]=p at c1 Hf
        obtain ⟨nm,wt⟩:=p
        simp only at c1 Hf
        go_wp2
        go_roundw
        case rel=>exact ⟨k+1,by omega,by go_num,by rw [Hf.out],hb⟩
        case measure=>simp [intOf];omega
      · have Hf:Hid (totalV l=sumV (·.2) (l.take k)):=hide (by unfold totalV;rw [List.take_of_length_le (by omega)])
        generalize sumV (·.2) (l.take k)=acc at Hf ⊢
        go_wp2
        go_ret
        exact ⟨ret_int Hf.out.symm,hb⟩
theorem index_any (v:Value) (ns:List ByteArray) (s:ByteArray) (w:World) (hr:RdS w v ns) (hl:ns.length<=4000000) :
    Calls Tryz.prog 189 #[v,.string s] w fun e w'=>(∃ i:Int,e=.returned (.int .i64 i)/\hasN ns s=decide (0<=i))/\Below w.heap.size w w':=by
  rcases hr with ⟨a,cap,rfl,rfl,-⟩ | ⟨b,off,cap,h0,rfl,h1,h2,h3,h4⟩
  · go_enter Tryz.func189,Tryz.ntmps189
    go_wp2
    refine wp_loop_rounds 1 ?_
    rw [rounds_succ]
    go_wp2
    go_ret
    exact ⟨⟨_,rfl,rfl⟩,Below.refl _ _⟩
  · have H4:=hide h4
    clear h4
    go_enter Tryz.func189,Tryz.ntmps189
    go_wp2
    go_loopw [8] (fun i wr=>∃ k:Nat,k<=ns.length/\i=.int .i64 k/\s ∉ ns.take k/\Below w.heap.size w wr) (fun i _=>ns.length - (intOf i).toNat)
    case atStart=>exact ⟨0,Nat.zero_le _,rfl,by simp,Below.refl _ _⟩
    case round =>
      obtain ⟨k,hk,rfl,hno,hb⟩:=hrel
      have Hno:=hide hno
      clear hno
      by_cases hlt:k < ns.length
      · have hc:=(hb.cell (p:=⟨b,off+k,none⟩) h3).trans (H4.out k hlt)
        have hli:(k:Int) < (ns.length:Int):=by omega
        by_cases he:ns[k]=s
        · have Hr:Hid (hasN ns s=decide (0<=(k:Int))):=hide (by rw [hasN_yes (by rw [<- he];exact List.getElem_mem _),decide_eq_true (by omega)])
          rw [he] at hc
          clear he
          go_wp2
          go_ret
          exact ⟨⟨_,rfl,Hr.out⟩,hb⟩
        · have Hn2:=hide (mem_next hlt Hno.out he)
          have hq:=bytes_ne he
          have hq2:=bytes_ne (Ne.symm he)
          clear he Hno
          generalize ns[k]=t at hc hq hq2
          go_wp2
          go_roundw
          case rel=>exact ⟨k+1,by omega,by go_num,Hn2.out,hb⟩
          case measure=>simp [intOf];omega
      · have Hr:Hid (hasN ns s=decide ((0:Int)<=-1)):=hide (by rw [hasN_no (by have:=Hno.out;rwa [List.take_of_length_le (by omega)] at this)];rfl)
        go_wp2
        go_ret
        exact ⟨⟨_,rfl,Hr.out⟩,hb⟩
theorem contains_any (v:Value) (ns:List ByteArray) (s:ByteArray) (w:World) (hr:RdS w v ns) (hl:ns.length<=4000000) :
    Calls Tryz.prog 187 #[v,.string s] w fun e w'=>e=.returned (.bool (hasN ns s))/\Below w.heap.size w w':=by
  obtain ⟨a,c,rfl⟩:=hr.shape
  have HI:=hide (index_any _ ns s w hr hl)
  clear hr
  go_enter Tryz.func187,Tryz.ntmps187
  go_wp2_with fail
  refine HI.out.mono ?_
  rintro e w1 ⟨⟨i,rfl,hi⟩,hb⟩
  have Hi:=hide hi
  clear hi
  go_wp2
  go_ret
  exact ⟨ret_bool Hi.out.symm,hb⟩
theorem alone_any (p:Vl) (w:World):Calls Tryz.prog 185 #[.agg #[.string p.1,.int .i64 p.2]] w fun e w'=>e=.returned (.int .i64 p.2)/\Below w.heap.size w w':=by
  obtain ⟨a,b⟩:=p
  have hB:=hide ((Below.refl _ w).alloc (Nat.le_refl _) (.cells #[.string a,.int .i64 b] 100))
  go_enter Tryz.func185,Tryz.ntmps185
  go_wp2
  go_ret
  exact ⟨rfl,hB.out⟩
theorem among_any (p:Vl) (B:Nat) (vn:Value) (ns:List ByteArray) (w:World) (hc:w.cell? ⟨B,0,none⟩=some vn) (hB:B < w.heap.size) (hr:RdS w vn ns) (hl:ns.length<=4000000) :
    Calls Tryz.prog 186 #[.agg #[.string p.1,.int .i64 p.2],.pointer (some ⟨B,0,none⟩)] w fun e w'=>e=.returned (.int .i64 (wtN ns p))/\Below w.heap.size w w':=by
  obtain ⟨a,b⟩:=p
  obtain ⟨an,cn,rfl⟩:=hr.shape
  obtain ⟨w1,hw1⟩:∃ w1,w.alloc (.cells #[.string a,.int .i64 b] 100)=w1:=⟨_,rfl⟩
  have hB1:Below w.heap.size w w1:=by rw [<- hw1];exact (Below.refl _ w).alloc (Nat.le_refl _) _
  have k1:Blk w1 w.heap.size 100 [.string a,.int .i64 b]:=by rw [<- hw1];exact Blk.new w _ _
  have c0:=k1.cell 0
  have c1:=k1.cell 1
  simp only [List.getElem?_cons_zero,List.getElem?_cons_succ] at c0 c1
  have cB:=(hB1.cell (p:=⟨B,0,none⟩) hB).trans hc
  have HC:=hide (fun V (hb:Below w1.heap.size w1 V)=>contains_any (.slice an ns.length cn) ns a V ((hr.below hB1 (Nat.le_refl _)).below hb (Nat.le_refl _)) hl)
  simp only
  have Hw:Hid (wtN ns (a,b)=if hasN ns a=true then b else 0):=hide rfl
  generalize wtN ns (a,b)=X at Hw ⊢
  clear hr hc
  go_enter Tryz.func186,Tryz.ntmps186
  go_wp2_with fail
  refine (HC.out _ (Below.refl _ _)).mono ?_
  rintro e w2 ⟨rfl,hb2⟩
  have k2:=k1.below hb2 k1.lt
  have d1:=k2.cell 1
  simp only [List.getElem?_cons_zero,List.getElem?_cons_succ] at d1
  have HB2:=hide (hB1.trans (hb2.mono hB1.size))
  clear c0 c1 cB k1 k2 hb2 hB1 HC hw1
  cases hm:hasN ns a
  · have hX:=hide (Hw.out.trans (if_neg (by rw [hm];simp)))
    clear hm Hw
    go_wp2
    go_ret
    exact ⟨ret_int hX.out.symm,HB2.out⟩
  · have hX:=hide (Hw.out.trans (if_pos hm))
    clear hm Hw
    go_wp2
    go_ret
    exact ⟨ret_int hX.out.symm,HB2.out⟩
theorem sumAlone_any (v:Value) (l:List Vl) (w:World) (hr:RdV w v l) (hl:l.length<=4000000) :
    Calls Tryz.prog 184 #[v,.func (.func 185) #[] #[]] w fun e w'=>e=.returned (.int .i64 (sumV (fun p:Vl=>p.2) l))/\Below w.heap.size w w':=by
  rcases hr with ⟨a,cap,rfl,rfl,-⟩ | ⟨b,off,cap,h0,rfl,h1,h2,h3,h4⟩
  · go_enter Tryz.func184,Tryz.ntmps184
    go_wp2
    refine wp_loop_rounds 1 ?_
    rw [rounds_succ]
    go_wp2
    go_ret
    exact ⟨rfl,Below.refl _ _⟩
  · have H4:=hide h4
    clear h4
    go_enter Tryz.func184,Tryz.ntmps184
    go_wp2
    go_loopw [5,10] (fun nv iv wr=>∃ k:Nat,k<=l.length/\iv=.int .i64 k/\nv=.int .i64 (sumV (fun p:Vl=>p.2) (l.take k))/\Below w.heap.size w wr) (fun _ iv _=>l.length - (intOf iv).toNat)
    case atStart=>exact ⟨0,Nat.zero_le _,rfl,rfl,Below.refl _ _⟩
    case round =>
      obtain ⟨k,hkl,rfl,rfl,hb⟩:=hrel
      by_cases hlt:k < l.length
      · have c0:=(hb.cell (p:=⟨b,off+k * 2,none⟩) h3).trans (H4.out k hlt).1
        have c1:=(hb.cell (p:=⟨b,off+k * 2+1,none⟩) h3).trans (H4.out k hlt).2
        have hli:(k:Int) < (l.length:Int):=by omega
        have Hf:=hide (sumV_snoc (fun p:Vl=>p.2) l k hlt)
        generalize sumV (fun p:Vl=>p.2) (l.take k)=acc at Hf ⊢
        generalize l[k]=p at c0 c1 Hf
        obtain ⟨nm,wt⟩:=p
        simp only at c0 c1
        obtain ⟨w1,hw1⟩:∃ w1,wr.alloc (.cells #[.string nm,.int .i64 wt] 100)=w1:=⟨_,rfl⟩
        have hA:Below wr.heap.size wr w1:=by rw [<- hw1];exact (Below.refl _ wr).alloc (Nat.le_refl _) _
        have HB1:=hide (hb.trans (hA.mono hb.size))
        have k1:Blk w1 wr.heap.size 100 [.string nm,.int .i64 wt]:=by rw [<- hw1];exact Blk.new wr _ _
        have e0:=k1.cell 0
        have e1:=k1.cell 1
        simp only [List.getElem?_cons_zero,List.getElem?_cons_succ] at e0 e1
        have HC:=hide (alone_any (nm,wt) w1)
        simp only at HC
        generalize ((fun p:Vl=>p.2) (nm,wt))=x at HC Hf
        clear hA k1 hb
        go_wp2_with fail
        refine HC.out.mono ?_
        rintro e w2 ⟨rfl,hb2⟩
        go_wp2
        go_roundw
        case rel=>exact ⟨k+1,by omega,by go_num,by rw [Hf.out],HB1.out.trans (hb2.mono HB1.out.size)⟩
        case measure=>simp [intOf];omega
      · have Hf:Hid (sumV (fun p:Vl=>p.2) l=sumV (fun p:Vl=>p.2) (l.take k)):=hide (by rw [List.take_of_length_le (by omega)])
        generalize sumV (fun p:Vl=>p.2) (l.take k)=acc at Hf ⊢
        go_wp2
        go_ret
        exact ⟨ret_int Hf.out.symm,hb⟩
theorem implTotalOf_any (v:Value) (l:List Vl) (w:World) (hr:RdV w v l) (hl:l.length<=4000000) :
    Calls Tryz.prog 179 #[v] w fun e w'=>e=.returned (.int .i64 (totalV l))/\Below w.heap.size w w':=by
  obtain ⟨a,c,rfl⟩:=hr.shape
  have HS:=hide (sumAlone_any _ l w hr hl)
  have Ht:Hid (totalV l=sumV (fun p:Vl=>p.2) l):=hide rfl
  generalize totalV l=X at Ht ⊢
  generalize sumV (fun p:Vl=>p.2) l=Y at Ht HS
  clear hr
  go_enter Tryz.func179,Tryz.ntmps179
  go_wp2_with fail
  refine HS.out.mono ?_
  rintro e w1 ⟨rfl,hb⟩
  go_wp2
  go_ret
  exact ⟨ret_int Ht.out.symm,hb⟩
theorem sumAmong_any (v:Value) (l:List Vl) (B:Nat) (vn:Value) (ns:List ByteArray) (w:World) (hr:RdV w v l) (hl:l.length<=4000000) (hc:w.cell? ⟨B,0,none⟩=some vn) (hB:B < w.heap.size) (hrn:RdS w vn ns) (hln:ns.length<=4000000) :
    Calls Tryz.prog 184 #[v,.func (.func 186) #[] #[.pointer (some ⟨B,0,none⟩)]] w fun e w'=>e=.returned (.int .i64 (sumV (wtN ns) l))/\Below w.heap.size w w':=by
  rcases hr with ⟨a,cap,rfl,rfl,-⟩ | ⟨b,off,cap,h0,rfl,h1,h2,h3,h4⟩
  · go_enter Tryz.func184,Tryz.ntmps184
    go_wp2
    refine wp_loop_rounds 1 ?_
    rw [rounds_succ]
    go_wp2
    go_ret
    exact ⟨rfl,Below.refl _ _⟩
  · have H4:=hide h4
    have Hrn:=hide hrn
    have Hc:=hide hc
    clear h4 hrn hc
    go_enter Tryz.func184,Tryz.ntmps184
    go_wp2
    go_loopw [5,10] (fun nv iv wr=>∃ k:Nat,k<=l.length/\iv=.int .i64 k/\nv=.int .i64 (sumV (wtN ns) (l.take k))/\Below w.heap.size w wr) (fun _ iv _=>l.length - (intOf iv).toNat)
    case atStart=>exact ⟨0,Nat.zero_le _,rfl,rfl,Below.refl _ _⟩
    case round =>
      obtain ⟨k,hkl,rfl,rfl,hb⟩:=hrel
      by_cases hlt:k < l.length
      · have c0:=(hb.cell (p:=⟨b,off+k * 2,none⟩) h3).trans (H4.out k hlt).1
        have c1:=(hb.cell (p:=⟨b,off+k * 2+1,none⟩) h3).trans (H4.out k hlt).2
        have hli:(k:Int) < (l.length:Int):=by omega
        have Hf:=hide (sumV_snoc (wtN ns) l k hlt)
        generalize sumV (wtN ns) (l.take k)=acc at Hf ⊢
        generalize l[k]=p at c0 c1 Hf
        obtain ⟨nm,wt⟩:=p
        simp only at c0 c1
        obtain ⟨w1,hw1⟩:∃ w1,wr.alloc (.cells #[.string nm,.int .i64 wt] 100)=w1:=⟨_,rfl⟩
        have hA:Below wr.heap.size wr w1:=by rw [<- hw1];exact (Below.refl _ wr).alloc (Nat.le_refl _) _
        have HB1:=hide (hb.trans (hA.mono hb.size))
        have k1:Blk w1 wr.heap.size 100 [.string nm,.int .i64 wt]:=by rw [<- hw1];exact Blk.new wr _ _
        have e0:=k1.cell 0
        have e1:=k1.cell 1
        simp only [List.getElem?_cons_zero,List.getElem?_cons_succ] at e0 e1
        have HC:=hide (among_any (nm,wt) B vn ns w1 ((HB1.out.cell (p:=⟨B,0,none⟩) hB).trans Hc.out) (Nat.lt_of_lt_of_le hB HB1.out.size) (Hrn.out.below HB1.out (Nat.le_refl _)) hln)
        simp only at HC
        generalize ((wtN ns) (nm,wt))=x at HC Hf
        clear hA k1 hb
        go_wp2_with fail
        refine HC.out.mono ?_
        rintro e w2 ⟨rfl,hb2⟩
        go_wp2
        go_roundw
        case rel=>exact ⟨k+1,by omega,by go_num,by rw [Hf.out],HB1.out.trans (hb2.mono HB1.out.size)⟩
        case measure=>simp [intOf];omega
      · have Hf:Hid (sumV (wtN ns) l=sumV (wtN ns) (l.take k)):=hide (by rw [List.take_of_length_le (by omega)])
        generalize sumV (wtN ns) (l.take k)=acc at Hf ⊢
        go_wp2
        go_ret
        exact ⟨ret_int Hf.out.symm,hb⟩
theorem implWeightOf_any (v vn:Value) (l:List Vl) (ns:List ByteArray) (w:World) (hr:RdV w v l) (hrn:RdS w vn ns) (hl:l.length<=4000000) (hln:ns.length<=4000000) :
    Calls Tryz.prog 180 #[v,vn] w fun e w'=>e=.returned (.int .i64 (weightV l ns))/\Below w.heap.size w w':=by
  have hmf:∀ (fn:Fn) (first cap:Array Value) (w:World),(Instr.makeFunc fn first cap).run Tryz.prog w=.ok (.func fn first cap) w:=fun _ _ _ _=>rfl
  obtain ⟨a,c,rfl⟩:=hr.shape
  obtain ⟨an,cn,rfl⟩:=hrn.shape
  obtain ⟨w1,hw1⟩:∃ w1,w.alloc (.cells #[.slice an ns.length cn] 26)=w1:=⟨_,rfl⟩
  have hB1:Below w.heap.size w w1:=by rw [<- hw1];exact (Below.refl _ w).alloc (Nat.le_refl _) _
  have k1:Blk w1 w.heap.size 26 [.slice an ns.length cn]:=by rw [<- hw1];exact Blk.new w _ _
  have HS:=hide (sumAmong_any _ l w.heap.size (.slice an ns.length cn) ns w1 (hr.below hB1 (Nat.le_refl _)) hl (k1.cell 0) k1.lt (hrn.below hB1 (Nat.le_refl _)) hln)
  have Ht:Hid (weightV l ns=sumV (wtN ns) l):=hide rfl
  generalize weightV l ns=X at Ht ⊢
  generalize sumV (wtN ns) l=Y at Ht HS
  clear hr hrn k1
  go_enter Tryz.func180,Tryz.ntmps180
  go_wp2_with fail
  refine HS.out.mono ?_
  rintro e w2 ⟨rfl,hb⟩
  go_wp2
  go_ret
  exact ⟨ret_int Ht.out.symm,hB1.trans (hb.mono hB1.size)⟩
end Go.Proofs.YtaidhenkijjcfaaGreat
