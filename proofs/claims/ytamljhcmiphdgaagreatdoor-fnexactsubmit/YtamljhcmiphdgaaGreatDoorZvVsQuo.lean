/- Quorums, on both sides, where the weights are small. -/
import Derived.Test.YtamljhcmiphdgaaGreatDoorZvVsMem
set_option maxRecDepth 20000
set_option maxHeartbeats 1000000
namespace Go.Proofs.YtamljhcmiphdgaaGreatDoor
open Go.RowKit
set_option linter.unusedVariables false
theorem io_ (b off i:Nat):(⟨b,off,none⟩:Addr).add i=⟨b,off+i,none⟩:=by
 by_cases hz:i=0
 ·subst hz;simp [Addr.add]
 ·simp [Addr.add,hz]
theorem cu_ (w:World) (base:Nat) (h:base<=w.heap.size):OwnV base (w.alloc (.cells #[] 152)) (.slice (some ⟨w.heap.size,0,none⟩) 0 0) [] :=
 World.ownsRow_lit w #[] 0 h (by unfold maxLen;omega) (by simp)
theorem iZ_ {w:World} {b off:Nat} {k:List Vl} (h4:∀ i (h:i < k.length),w.cell? ⟨b,off+i * 2,none⟩=some (.string k[i].1)/\w.cell? ⟨b,off+i * 2+1,none⟩=some (.int .i64 k[i].2)) :
  ∀ j u,(k.map vlC).flatten[j]?=some u->w.cell? ((⟨b,off,none⟩:Addr).add j)=some u:=by
 intro j u hj
 have hjl:j < (k.map vlC).flatten.length:=(List.getElem?_eq_some_iff.1 hj).1
 rw [s_ 2 _ (bd_ k),List.length_map] at hjl
 have hi:j / 2 < k.length:=by omega
 have e:=i_ 2 (k.map vlC) (j / 2) (j % 2) (by simpa using hi) (bd_ k) (by omega)
 rw [show j / 2 * 2+j % 2=j from by omega] at e
 rw [e] at hj
 rw [io_]
 rcases Nat.mod_two_eq_zero_or_one j with h | h
 ·rw [h] at hj
  rw [show off+j=off+j / 2 * 2 from by omega,(h4 (j / 2) hi).1]
  simpa [vlC] using hj
 ·rw [h] at hj
  rw [show off+j=off+j / 2 * 2+1 from by omega,(h4 (j / 2) hi).2]
  simpa [vlC] using hj
theorem cI_ {ops:Array Oper} {rest:List Oper} {o:Oper} {a:Act} {Q:Exit->Act->World->Prop} (w:World) (hgd:o.guard=none) (s x:Operand)
  (ho:o.op=.call { callee:=.builtin .append,args:=#[s,x],argTypes:=#[46,46] })
  (base:Nat) (v vx:Value) (l k:List Vl) (hs:a.eval s=v) (hx:a.eval x=vx) (hown:OwnV base w v l) (hrd:RdV w vx k)
  (hlen:l.length+k.length<=100000000) (hbase:base<=w.heap.size)
  (h:∀ v' w',OwnV base w' v' (l ++ k)->w.grownBy w' v.ownBlock->Below base w w'->wpList Tryz.prog ops Q rest (a.put o.dst v') w'):wpList Tryz.prog ops Q (o :: rest) a w:=by
 obtain ⟨i0,hi,hz0,hz1,hz2⟩:=info_parts Tryz.infoVl
 have hbel:∀ w',w.grownBy w' v.ownBlock->Below base w w':=fun w' hg=>(br_ _ _).grown hg hbase (fun k hk=>(hown.ge k hk))
 rcases hrd with ⟨ax,cap,rfl,rfl,hnil⟩ | ⟨b,off,cap,h0,rfl,h1,h2,h3,h4⟩
 ·cases ax with
  | none =>
   have hc:cap=0:=hnil rfl
   subst hc
   refine wpList_append_own_none hgd s x 46 ho base 152 i0 2 Tryz.underlying46 hi v l.length (l.map vlC).flatten hs hown hx ?_
   exact h v w (by simpa [OwnV] using hown) (World.grownBy.refl _ _) (br_ _ _)
  | some ad =>
   refine wpList_append_own w hgd s x 46 ho base 152 i0 (.agg #[.string { data:=#[] },.int .i64 0]) 2 24 Tryz.underlying46 hi hz0 hz1 hz2 rfl (by decide) v l.length (l.map vlC).flatten hs hown ad 0 cap [] hx rfl (by intro j u hj;simp at hj) (by intro u hu;simp at hu) (by unfold maxLen;simp at hlen;omega) (by simp at hlen;omega) hbase ?_
   intro v' w' ho' hg _
   exact h v' w' (by simpa [OwnV] using ho') hg (hbel w' hg)
 ·refine wpList_append_own w hgd s x 46 ho base 152 i0 (.agg #[.string { data:=#[] },.int .i64 0]) 2 24 Tryz.underlying46 hi hz0 hz1 hz2 rfl (by decide) v l.length (l.map vlC).flatten hs hown ⟨b,off,none⟩ k.length cap (k.map vlC).flatten hx (by rw [s_ 2 _ (bd_ k),List.length_map]) (iZ_ h4) ?_ (by unfold maxLen;omega) (by omega) hbase ?_
  ·intro u hu
   obtain ⟨c,hc,hu⟩:=List.mem_flatten.1 hu
   obtain ⟨p,_,rfl⟩:=List.mem_map.1 hc
   simp only [vlC,List.mem_cons,List.not_mem_nil,or_false] at hu
   rcases hu with rfl | rfl <;> rfl
  ·intro v' w' ho' hg _
   exact h v' w' (by simpa [OwnV] using ho') hg (hbel w' hg)
theorem hE_ {α β:Type} (f:β->α->β) (z:β) (l:List α) (k:Nat) (h:k < l.length):(l.take (k+1)).foldl f z=f ((l.take k).foldl f z) l[k]:=by
 rw [List.take_succ_eq_append_getElem h,List.foldl_append];rfl
def sumV (f:Vl->Int) (l:List Vl):Int:=l.foldl (fun s p=>wrap64 (s+f p)) 0
theorem aO_ (f:Vl->Int) (l:List Vl) (k:Nat) (h:k < l.length):sumV f (l.take (k+1))=wrap64 (sumV f (l.take k)+f l[k]):=hE_ _ _ l k h
theorem fl_ (x:Int):wrap64 (wrap64 x+0)=wrap64 x:=by rw [Int.add_zero];unfold wrap64;omega
theorem eA_ (f:Vl->Int):∀ (l:List Vl) (s:Int),wrap64 (s+0)=s->wrap64 (l.foldl (fun s p=>wrap64 (s+f p)) s+0)=l.foldl (fun s p=>wrap64 (s+f p)) s
 | [],s,h=>h
 | p :: l,s,h=>by rw [List.foldl_cons];exact eA_ f l _ (fl_ _)
theorem iM_ (f:Vl->Int) (l:List Vl):wrap64 (sumV f l+0)=sumV f l:=eA_ f l 0 (by unfold wrap64;omega)
def hasN (ns:List ByteArray) (s:ByteArray):Bool:=ns.any (fun t=>decide (t=s))
theorem bq_ {ns:List ByteArray} {s:ByteArray} (h:s ∈ ns):hasN ns s=true:=List.any_eq_true.2 ⟨s,h,by simp⟩
theorem ce_ {ns:List ByteArray} {s:ByteArray} (h:s ∉ ns):hasN ns s=false:=by
 cases e:hasN ns s with
 | false=>rfl
 | true =>
  obtain ⟨t,ht,e'⟩:=List.any_eq_true.1 e
  have:t=s:=by simpa using e'
  exact absurd (this ▸ ht) h
def wtN (ns:List ByteArray) (p:Vl):Int:=if hasN ns p.1=true then p.2 else 0
def weightV (l:List Vl) (ns:List ByteArray):Int:=sumV (wtN ns) l
def totalV (l:List Vl):Int:=sumV (·.2) l
def leadV (l:List Vl) (r:Int):ByteArray:=if l.length=0\/r < 0 then ByteArray.empty else (l.getD (r.toNat % l.length) (ByteArray.empty,0)).1
theorem bk_ {ns:List ByteArray} {s:ByteArray} {k:Nat} (h:k < ns.length) (hn:s ∉ ns.take k) (he:ns[k] ≠ s):s ∉ ns.take (k+1):=by
 rw [List.take_succ_eq_append_getElem h]
 intro hm
 rcases List.mem_append.1 hm with h' | h'
 ·exact hn h'
 ·exact he (by simpa using (List.mem_singleton.1 h').symm)
theorem gx_ (v:Value) (ns:List ByteArray) (s:ByteArray) (w:World) (hr:RdS w v ns) (hl:ns.length<=4000000) :
  Calls Tryz.prog 174 #[v,.string s] w fun e w'=>e=.returned (.bool (hasN ns s))/\Below w.heap.size w w':=by
 rcases hr with ⟨a,cap,rfl,rfl,-⟩ | ⟨b,off,cap,h0,rfl,h1,h2,h3,h4⟩
 ·go_enter Tryz.func174,Tryz.ntmps174
  go_wp2
  refine wp_loop_rounds 1 ?_
  rw [rounds_succ]
  go_wp2
  go_ret
  exact ⟨rfl,br_ _ _⟩
 ·have H4:=a_ h4
  clear h4
  go_enter Tryz.func174,Tryz.ntmps174
  go_wp2
  go_loopw [5] (fun i wr=>∃ k:Nat,k<=ns.length/\i=.int .i64 k/\s ∉ ns.take k/\Below w.heap.size w wr) (fun i _=>ns.length - (intOf i).toNat)
  case atStart=>exact ⟨0,Nat.zero_le _,rfl,by simp,br_ _ _⟩
  case round =>
   obtain ⟨k,hk,rfl,hno,hb⟩:=hrel
   have Hno:=a_ hno
   clear hno
   by_cases hlt:k < ns.length
   ·have hc:=(hb.cell (p:=⟨b,off+k,none⟩) h3).trans (H4.out k hlt)
    have hli:(k:Int) < (ns.length:Int):=by omega
    by_cases he:ns[k]=s
    ·have Hr:Hid (hasN ns s=true):=a_ (bq_ (by rw [<- he];exact List.getElem_mem _))
     rw [he] at hc
     clear he
     go_wp2
     go_ret
     exact ⟨b_ Hr.out.symm,hb⟩
    ·have Hn2:=a_ (bk_ hlt Hno.out he)
     have hq:=A_ he
     clear he Hno
     generalize ns[k]=t at hc hq
     go_wp2
     go_roundw
     case rel=>exact ⟨k+1,by omega,by go_num,Hn2.out,hb⟩
     case measure=>simp [intOf];omega
   ·have Hr:Hid (hasN ns s=false):=a_ (ce_ (by have:=Hno.out;rwa [List.take_of_length_le (by omega)] at this))
    go_wp2
    go_ret
    exact ⟨b_ Hr.out.symm,hb⟩
theorem cD_ (v vn:Value) (l:List Vl) (ns:List ByteArray) (w:World) (hr:RdV w v l) (hrn:RdS w vn ns) (hl:l.length<=4000000) (hln:ns.length<=4000000) :
  Calls Tryz.prog 153 #[v,vn] w fun e w'=>e=.returned (.int .i64 (weightV l ns))/\Below w.heap.size w w':=by
 obtain ⟨an,cn,rfl⟩:=hrn.shape
 rcases hr with ⟨a,cap,rfl,rfl,-⟩ | ⟨b,off,cap,h0,rfl,h1,h2,h3,h4⟩
 ·go_enter Tryz.func153,Tryz.ntmps153
  go_wp2
  refine wp_loop_rounds 1 ?_
  rw [rounds_succ]
  go_wp2
  go_ret
  exact ⟨rfl,br_ _ _⟩
 ·have H4:=a_ h4
  have Hrn:=a_ hrn
  clear h4 hrn
  go_enter Tryz.func153,Tryz.ntmps153
  go_wp2
  go_loopw [5,6] (fun nv iv wr=>∃ k:Nat,k<=l.length/\iv=.int .i64 k/\nv=.int .i64 (sumV (wtN ns) (l.take k))/\Below w.heap.size w wr) (fun _ iv _=>l.length - (intOf iv).toNat)
  case atStart=>exact ⟨0,Nat.zero_le _,rfl,rfl,br_ _ _⟩
  case round =>
   obtain ⟨k,hkl,rfl,rfl,hb⟩:=hrel
   by_cases hlt:k < l.length
   ·have c0:=(hb.cell (p:=⟨b,off+k * 2,none⟩) h3).trans (H4.out k hlt).1
    have c1:=(hb.cell (p:=⟨b,off+k * 2+1,none⟩) h3).trans (H4.out k hlt).2
    have hli:(k:Int) < (l.length:Int):=by omega
    have Hf:=a_ (aO_ (wtN ns) l k hlt)
    have Hz:=a_ (iM_ (wtN ns) (l.take k))
    have hbw:b < wr.heap.size:=Nat.lt_of_lt_of_le h3 hb.size
    have HH:=a_ (gx_ (.slice an ns.length cn) ns l[k].1 wr (Hrn.out.below hb (nr_ _)) hln)
    generalize sumV (wtN ns) (l.take k)=acc at Hf Hz ⊢
    generalize l[k]=p at c0 c1 Hf HH
    obtain ⟨nm,wt⟩:=p
    simp only at c0 c1 HH
    cases hm:hasN ns nm
    case true =>
     rw [hm] at HH
     have Hf2:Hid (sumV (wtN ns) (l.take (k+1))=wrap64 (acc+wt)):=a_ (by rw [Hf.out];unfold wtN;rw [if_pos hm])
     clear Hf Hz hm
     have Hb:=a_ hb
     clear hb
     go_wp2_with (go_at_call 174;refine HH.out.mono ?_;rintro e w2 ⟨rfl,hb2⟩;have d1:=(hb2.cell (p:=⟨b,off+k * 2+1,none⟩) hbw).trans c1)
     go_roundw
     case rel=>exact ⟨k+1,by omega,by go_num,by rw [Hf2.out],Hb.out.trans (hb2.mono Hb.out.size)⟩
     case measure=>simp [intOf];omega
    case false =>
     rw [hm] at HH
     have Hf2:Hid (sumV (wtN ns) (l.take (k+1))=acc):=a_ (by rw [Hf.out];unfold wtN;rw [if_neg (by rw [hm];simp)];exact Hz.out)
     clear Hf Hz hm
     have Hb:=a_ hb
     clear hb
     go_wp2_with (go_at_call 174;refine HH.out.mono ?_;rintro e w2 ⟨rfl,hb2⟩)
     go_roundw
     case rel=>exact ⟨k+1,by omega,by go_num,by rw [Hf2.out],Hb.out.trans (hb2.mono Hb.out.size)⟩
     case measure=>simp [intOf];omega
   ·have Hf:Hid (weightV l ns=sumV (wtN ns) (l.take k)):=a_ (by unfold weightV;rw [List.take_of_length_le (by omega)])
    generalize sumV (wtN ns) (l.take k)=acc at Hf ⊢
    go_wp2
    go_ret
    exact ⟨h_ Hf.out.symm,hb⟩
theorem df_ (v:Value) (l:List Vl) (w:World) (hr:RdV w v l) (hl:l.length<=4000000) :
  Calls Tryz.prog 154 #[v] w fun e w'=>e=.returned (.int .i64 (totalV l))/\Below w.heap.size w w':=by
 rcases hr with ⟨a,cap,rfl,rfl,-⟩ | ⟨b,off,cap,h0,rfl,h1,h2,h3,h4⟩
 ·go_enter Tryz.func154,Tryz.ntmps154
  go_wp2
  refine wp_loop_rounds 1 ?_
  rw [rounds_succ]
  go_wp2
  go_ret
  exact ⟨rfl,br_ _ _⟩
 ·have H4:=a_ h4
  clear h4
  go_enter Tryz.func154,Tryz.ntmps154
  go_wp2
  go_loopw [3,4] (fun nv iv wr=>∃ k:Nat,k<=l.length/\iv=.int .i64 k/\nv=.int .i64 (sumV (·.2) (l.take k))/\Below w.heap.size w wr) (fun _ iv _=>l.length - (intOf iv).toNat)
  case atStart=>exact ⟨0,Nat.zero_le _,rfl,rfl,br_ _ _⟩
  case round =>
   obtain ⟨k,hkl,rfl,rfl,hb⟩:=hrel
   by_cases hlt:k < l.length
   ·have c1:=(hb.cell (p:=⟨b,off+k * 2+1,none⟩) h3).trans (H4.out k hlt).2
    have hli:(k:Int) < (l.length:Int):=by omega
    have Hf:=a_ (aO_ (·.2) l k hlt)
    generalize sumV (·.2) (l.take k)=acc at Hf ⊢
    generalize l[k]=p at c1 Hf
    obtain ⟨nm,wt⟩:=p
    simp only at c1 Hf
    go_wp2
    go_roundw
    case rel=>exact ⟨k+1,by omega,by go_num,by rw [Hf.out],hb⟩
    case measure=>simp [intOf];omega
   ·have Hf:Hid (totalV l=sumV (·.2) (l.take k)):=a_ (by unfold totalV;rw [List.take_of_length_le (by omega)])
    generalize sumV (·.2) (l.take k)=acc at Hf ⊢
    go_wp2
    go_ret
    exact ⟨h_ Hf.out.symm,hb⟩
theorem iI_ (v:Value) (ns:List ByteArray) (s:ByteArray) (w:World) (hr:RdS w v ns) (hl:ns.length<=4000000) :
  Calls Tryz.prog 214 #[v,.string s] w fun e w'=>(∃ i:Int,e=.returned (.int .i64 i)/\hasN ns s=decide (0<=i))/\Below w.heap.size w w':=by
 rcases hr with ⟨a,cap,rfl,rfl,-⟩ | ⟨b,off,cap,h0,rfl,h1,h2,h3,h4⟩
 ·go_enter Tryz.func214,Tryz.ntmps214
  go_wp2
  refine wp_loop_rounds 1 ?_
  rw [rounds_succ]
  go_wp2
  go_ret
  exact ⟨⟨_,rfl,rfl⟩,br_ _ _⟩
 ·have H4:=a_ h4
  clear h4
  go_enter Tryz.func214,Tryz.ntmps214
  go_wp2
  go_loopw [8] (fun i wr=>∃ k:Nat,k<=ns.length/\i=.int .i64 k/\s ∉ ns.take k/\Below w.heap.size w wr) (fun i _=>ns.length - (intOf i).toNat)
  case atStart=>exact ⟨0,Nat.zero_le _,rfl,by simp,br_ _ _⟩
  case round =>
   obtain ⟨k,hk,rfl,hno,hb⟩:=hrel
   have Hno:=a_ hno
   clear hno
   by_cases hlt:k < ns.length
   ·have hc:=(hb.cell (p:=⟨b,off+k,none⟩) h3).trans (H4.out k hlt)
    have hli:(k:Int) < (ns.length:Int):=by omega
    by_cases he:ns[k]=s
    ·have Hr:Hid (hasN ns s=decide (0<=(k:Int))):=a_ (by rw [bq_ (by rw [<- he];exact List.getElem_mem _),decide_eq_true (by omega)])
     rw [he] at hc
     clear he
     go_wp2
     go_ret
     exact ⟨⟨_,rfl,Hr.out⟩,hb⟩
    ·have Hn2:=a_ (bk_ hlt Hno.out he)
     have hq:=A_ he
     have hq2:=A_ (Ne.symm he)
     clear he Hno
     generalize ns[k]=t at hc hq hq2
     go_wp2
     go_roundw
     case rel=>exact ⟨k+1,by omega,by go_num,Hn2.out,hb⟩
     case measure=>simp [intOf];omega
   ·have Hr:Hid (hasN ns s=decide ((0:Int)<=-1)):=a_ (by rw [ce_ (by have:=Hno.out;rwa [List.take_of_length_le (by omega)] at this)];rfl)
    go_wp2
    go_ret
    exact ⟨⟨_,rfl,Hr.out⟩,hb⟩
theorem fK_ (v:Value) (ns:List ByteArray) (s:ByteArray) (w:World) (hr:RdS w v ns) (hl:ns.length<=4000000) :
  Calls Tryz.prog 212 #[v,.string s] w fun e w'=>e=.returned (.bool (hasN ns s))/\Below w.heap.size w w':=by
 obtain ⟨a,c,rfl⟩:=hr.shape
 have HI:=a_ (iI_ _ ns s w hr hl)
 clear hr
 go_enter Tryz.func212,Tryz.ntmps212
 go_wp2_with fail
 refine HI.out.mono ?_
 rintro e w1 ⟨⟨i,rfl,hi⟩,hb⟩
 have Hi:=a_ hi
 clear hi
 go_wp2
 go_ret
 exact ⟨b_ Hi.out.symm,hb⟩
theorem iJ_ (p:Vl) (w:World):Calls Tryz.prog 210 #[.agg #[.string p.1,.int .i64 p.2]] w fun e w'=>e=.returned (.int .i64 p.2)/\Below w.heap.size w w':=by
 obtain ⟨a,b⟩:=p
 have hB:=a_ ((br_ _ w).alloc (nr_ _) (.cells #[.string a,.int .i64 b] 152))
 go_enter Tryz.func210,Tryz.ntmps210
 go_wp2
 go_ret
 exact ⟨rfl,hB.out⟩
theorem ij_ (p:Vl) (B:Nat) (vn:Value) (ns:List ByteArray) (w:World) (hc:w.cell? ⟨B,0,none⟩=some vn) (hB:B < w.heap.size) (hr:RdS w vn ns) (hl:ns.length<=4000000) :
  Calls Tryz.prog 211 #[.agg #[.string p.1,.int .i64 p.2],.pointer (some ⟨B,0,none⟩)] w fun e w'=>e=.returned (.int .i64 (wtN ns p))/\Below w.heap.size w w':=by
 obtain ⟨a,b⟩:=p
 obtain ⟨an,cn,rfl⟩:=hr.shape
 obtain ⟨w1,hw1⟩:∃ w1,w.alloc (.cells #[.string a,.int .i64 b] 152)=w1:=⟨_,rfl⟩
 have hB1:Below w.heap.size w w1:=by rw [<- hw1];exact (br_ _ w).alloc (nr_ _) _
 have k1:Blk w1 w.heap.size 152 [.string a,.int .i64 b]:=by rw [<- hw1];exact Blk.new w _ _
 have c0:=k1.cell 0
 have c1:=k1.cell 1
 simp only [gz_,gs_] at c0 c1
 have cB:=(hB1.cell (p:=⟨B,0,none⟩) hB).trans hc
 have HC:=a_ (fun V (hb:Below w1.heap.size w1 V)=>fK_ (.slice an ns.length cn) ns a V ((hr.below hB1 (nr_ _)).below hb (nr_ _)) hl)
 simp only
 have Hw:Hid (wtN ns (a,b)=if hasN ns a=true then b else 0):=a_ rfl
 generalize wtN ns (a,b)=X at Hw ⊢
 clear hr hc
 go_enter Tryz.func211,Tryz.ntmps211
 go_wp2_with fail
 refine (HC.out _ (br_ _ _)).mono ?_
 rintro e w2 ⟨rfl,hb2⟩
 have k2:=k1.below hb2 k1.lt
 have d1:=k2.cell 1
 simp only [gz_,gs_] at d1
 have HB2:=a_ (hB1.trans (hb2.mono hB1.size))
 clear c0 c1 cB k1 k2 hb2 hB1 HC hw1
 cases hm:hasN ns a
 ·have hX:=a_ (Hw.out.trans (if_neg (by rw [hm];simp)))
  clear hm Hw
  go_wp2
  go_ret
  exact ⟨h_ hX.out.symm,HB2.out⟩
 ·have hX:=a_ (Hw.out.trans (if_pos hm))
  clear hm Hw
  go_wp2
  go_ret
  exact ⟨h_ hX.out.symm,HB2.out⟩
theorem fE_ (v:Value) (l:List Vl) (w:World) (hr:RdV w v l) (hl:l.length<=4000000) :
  Calls Tryz.prog 209 #[v,.func (.func 210) #[] #[]] w fun e w'=>e=.returned (.int .i64 (sumV (fun p:Vl=>p.2) l))/\Below w.heap.size w w':=by
 rcases hr with ⟨a,cap,rfl,rfl,-⟩ | ⟨b,off,cap,h0,rfl,h1,h2,h3,h4⟩
 ·go_enter Tryz.func209,Tryz.ntmps209
  go_wp2
  refine wp_loop_rounds 1 ?_
  rw [rounds_succ]
  go_wp2
  go_ret
  exact ⟨rfl,br_ _ _⟩
 ·have H4:=a_ h4
  clear h4
  go_enter Tryz.func209,Tryz.ntmps209
  go_wp2
  go_loopw [5,10] (fun nv iv wr=>∃ k:Nat,k<=l.length/\iv=.int .i64 k/\nv=.int .i64 (sumV (fun p:Vl=>p.2) (l.take k))/\Below w.heap.size w wr) (fun _ iv _=>l.length - (intOf iv).toNat)
  case atStart=>exact ⟨0,Nat.zero_le _,rfl,rfl,br_ _ _⟩
  case round =>
   obtain ⟨k,hkl,rfl,rfl,hb⟩:=hrel
   by_cases hlt:k < l.length
   ·have c0:=(hb.cell (p:=⟨b,off+k * 2,none⟩) h3).trans (H4.out k hlt).1
    have c1:=(hb.cell (p:=⟨b,off+k * 2+1,none⟩) h3).trans (H4.out k hlt).2
    have hli:(k:Int) < (l.length:Int):=by omega
    have Hf:=a_ (aO_ (fun p:Vl=>p.2) l k hlt)
    generalize sumV (fun p:Vl=>p.2) (l.take k)=acc at Hf ⊢
    generalize l[k]=p at c0 c1 Hf
    obtain ⟨nm,wt⟩:=p
    simp only at c0 c1
    obtain ⟨w1,hw1⟩:∃ w1,wr.alloc (.cells #[.string nm,.int .i64 wt] 152)=w1:=⟨_,rfl⟩
    have hA:Below wr.heap.size wr w1:=by rw [<- hw1];exact (br_ _ wr).alloc (nr_ _) _
    have HB1:=a_ (hb.trans (hA.mono hb.size))
    have k1:Blk w1 wr.heap.size 152 [.string nm,.int .i64 wt]:=by rw [<- hw1];exact Blk.new wr _ _
    have e0:=k1.cell 0
    have e1:=k1.cell 1
    simp only [gz_,gs_] at e0 e1
    have HC:=a_ (iJ_ (nm,wt) w1)
    simp only at HC
    generalize ((fun p:Vl=>p.2) (nm,wt))=x at HC Hf
    clear hA k1 hb
    go_wp2_with fail
    refine HC.out.mono ?_
    rintro e w2 ⟨rfl,hb2⟩
    go_wp2
    go_roundw
    case rel=>exact ⟨k+1,by omega,by go_num,by rw [Hf.out],HB1.out.trans (hb2.mono HB1.out.size)⟩
    case measure=>simp [intOf];omega
   ·have Hf:Hid (sumV (fun p:Vl=>p.2) l=sumV (fun p:Vl=>p.2) (l.take k)):=a_ (by rw [List.take_of_length_le (by omega)])
    generalize sumV (fun p:Vl=>p.2) (l.take k)=acc at Hf ⊢
    go_wp2
    go_ret
    exact ⟨h_ Hf.out.symm,hb⟩
theorem cZ_ (v:Value) (l:List Vl) (w:World) (hr:RdV w v l) (hl:l.length<=4000000) :
  Calls Tryz.prog 204 #[v] w fun e w'=>e=.returned (.int .i64 (totalV l))/\Below w.heap.size w w':=by
 obtain ⟨a,c,rfl⟩:=hr.shape
 have HS:=a_ (fE_ _ l w hr hl)
 have Ht:Hid (totalV l=sumV (fun p:Vl=>p.2) l):=a_ rfl
 generalize totalV l=X at Ht ⊢
 generalize sumV (fun p:Vl=>p.2) l=Y at Ht HS
 clear hr
 go_enter Tryz.func204,Tryz.ntmps204
 go_wp2_with fail
 refine HS.out.mono ?_
 rintro e w1 ⟨rfl,hb⟩
 go_wp2
 go_ret
 exact ⟨h_ Ht.out.symm,hb⟩
theorem fc_ (v:Value) (l:List Vl) (B:Nat) (vn:Value) (ns:List ByteArray) (w:World) (hr:RdV w v l) (hl:l.length<=4000000) (hc:w.cell? ⟨B,0,none⟩=some vn) (hB:B < w.heap.size) (hrn:RdS w vn ns) (hln:ns.length<=4000000) :
  Calls Tryz.prog 209 #[v,.func (.func 211) #[] #[.pointer (some ⟨B,0,none⟩)]] w fun e w'=>e=.returned (.int .i64 (sumV (wtN ns) l))/\Below w.heap.size w w':=by
 rcases hr with ⟨a,cap,rfl,rfl,-⟩ | ⟨b,off,cap,h0,rfl,h1,h2,h3,h4⟩
 ·go_enter Tryz.func209,Tryz.ntmps209
  go_wp2
  refine wp_loop_rounds 1 ?_
  rw [rounds_succ]
  go_wp2
  go_ret
  exact ⟨rfl,br_ _ _⟩
 ·have H4:=a_ h4
  have Hrn:=a_ hrn
  have Hc:=a_ hc
  clear h4 hrn hc
  go_enter Tryz.func209,Tryz.ntmps209
  go_wp2
  go_loopw [5,10] (fun nv iv wr=>∃ k:Nat,k<=l.length/\iv=.int .i64 k/\nv=.int .i64 (sumV (wtN ns) (l.take k))/\Below w.heap.size w wr) (fun _ iv _=>l.length - (intOf iv).toNat)
  case atStart=>exact ⟨0,Nat.zero_le _,rfl,rfl,br_ _ _⟩
  case round =>
   obtain ⟨k,hkl,rfl,rfl,hb⟩:=hrel
   by_cases hlt:k < l.length
   ·have c0:=(hb.cell (p:=⟨b,off+k * 2,none⟩) h3).trans (H4.out k hlt).1
    have c1:=(hb.cell (p:=⟨b,off+k * 2+1,none⟩) h3).trans (H4.out k hlt).2
    have hli:(k:Int) < (l.length:Int):=by omega
    have Hf:=a_ (aO_ (wtN ns) l k hlt)
    generalize sumV (wtN ns) (l.take k)=acc at Hf ⊢
    generalize l[k]=p at c0 c1 Hf
    obtain ⟨nm,wt⟩:=p
    simp only at c0 c1
    obtain ⟨w1,hw1⟩:∃ w1,wr.alloc (.cells #[.string nm,.int .i64 wt] 152)=w1:=⟨_,rfl⟩
    have hA:Below wr.heap.size wr w1:=by rw [<- hw1];exact (br_ _ wr).alloc (nr_ _) _
    have HB1:=a_ (hb.trans (hA.mono hb.size))
    have k1:Blk w1 wr.heap.size 152 [.string nm,.int .i64 wt]:=by rw [<- hw1];exact Blk.new wr _ _
    have e0:=k1.cell 0
    have e1:=k1.cell 1
    simp only [gz_,gs_] at e0 e1
    have HC:=a_ (ij_ (nm,wt) B vn ns w1 ((HB1.out.cell (p:=⟨B,0,none⟩) hB).trans Hc.out) (Nat.lt_of_lt_of_le hB HB1.out.size) (Hrn.out.below HB1.out (nr_ _)) hln)
    simp only at HC
    generalize ((wtN ns) (nm,wt))=x at HC Hf
    clear hA k1 hb
    go_wp2_with fail
    refine HC.out.mono ?_
    rintro e w2 ⟨rfl,hb2⟩
    go_wp2
    go_roundw
    case rel=>exact ⟨k+1,by omega,by go_num,by rw [Hf.out],HB1.out.trans (hb2.mono HB1.out.size)⟩
    case measure=>simp [intOf];omega
   ·have Hf:Hid (sumV (wtN ns) l=sumV (wtN ns) (l.take k)):=a_ (by rw [List.take_of_length_le (by omega)])
    generalize sumV (wtN ns) (l.take k)=acc at Hf ⊢
    go_wp2
    go_ret
    exact ⟨h_ Hf.out.symm,hb⟩
theorem cG_ (v vn:Value) (l:List Vl) (ns:List ByteArray) (w:World) (hr:RdV w v l) (hrn:RdS w vn ns) (hl:l.length<=4000000) (hln:ns.length<=4000000) :
  Calls Tryz.prog 205 #[v,vn] w fun e w'=>e=.returned (.int .i64 (weightV l ns))/\Below w.heap.size w w':=by
 have hmf:∀ (fn:Fn) (first cap:Array Value) (w:World),(Instr.makeFunc fn first cap).run Tryz.prog w=.ok (.func fn first cap) w:=fun _ _ _ _=>rfl
 obtain ⟨a,c,rfl⟩:=hr.shape
 obtain ⟨an,cn,rfl⟩:=hrn.shape
 obtain ⟨w1,hw1⟩:∃ w1,w.alloc (.cells #[.slice an ns.length cn] 27)=w1:=⟨_,rfl⟩
 have hB1:Below w.heap.size w w1:=by rw [<- hw1];exact (br_ _ w).alloc (nr_ _) _
 have k1:Blk w1 w.heap.size 27 [.slice an ns.length cn]:=by rw [<- hw1];exact Blk.new w _ _
 have HS:=a_ (fc_ _ l w.heap.size (.slice an ns.length cn) ns w1 (hr.below hB1 (nr_ _)) hl (k1.cell 0) k1.lt (hrn.below hB1 (nr_ _)) hln)
 have Ht:Hid (weightV l ns=sumV (wtN ns) l):=a_ rfl
 generalize weightV l ns=X at Ht ⊢
 generalize sumV (wtN ns) l=Y at Ht HS
 clear hr hrn k1
 go_enter Tryz.func205,Tryz.ntmps205
 go_wp2_with fail
 refine HS.out.mono ?_
 rintro e w2 ⟨rfl,hb⟩
 go_wp2
 go_ret
 exact ⟨h_ Ht.out.symm,hB1.trans (hb.mono hB1.size)⟩
theorem gl_ (n:Nat) (w:World) (hn:n<=1000000000) :
  Calls Tryz.prog 206 #[.int .i64 (n:Int)] w fun e w'=>e=.returned (.int .i64 (((n+2) / 3:Nat):Int))/\Below w.heap.size w w':=by
 have t1:Int.tmod (n:Int) 3=((n % 3:Nat):Int):=by rw [Int.tmod_eq_emod_of_nonneg (by omega)];omega
 have t2:Int.tdiv (n:Int) 3=((n / 3:Nat):Int):=by rw [Int.tdiv_eq_ediv_of_nonneg (by omega)];omega
 by_cases h:0 < n % 3
 ·have e:Hid ((n+2) / 3=n / 3+1):=a_ (by omega)
  have hm:(0:Int) < ((n % 3:Nat):Int):=by omega
  have hd:n / 3<=1000000000:=by omega
  generalize n % 3=m at t1 hm
  generalize n / 3=q at t2 e hd
  generalize (n+2) / 3=X at e ⊢
  go_enter Tryz.func206,Tryz.ntmps206
  go_wp2
  go_ret
  exact ⟨by rw [e.out];rfl,br_ _ _⟩
 ·have e:Hid ((n+2) / 3=n / 3):=a_ (by omega)
  have hm:¬ (0:Int) < ((n % 3:Nat):Int):=by omega
  have hd:n / 3<=1000000000:=by omega
  generalize n % 3=m at t1 hm
  generalize n / 3=q at t2 e hd
  generalize (n+2) / 3=X at e ⊢
  go_enter Tryz.func206,Tryz.ntmps206
  go_wp2
  go_ret
  exact ⟨by rw [e.out];rfl,br_ _ _⟩
theorem bK_ (v vn:Value) (l:List Vl) (ns:List ByteArray) (w:World) (hr:RdV w v l) (hrn:RdS w vn ns) (hl:l.length<=4000000) (hln:ns.length<=4000000) (hT:0<=totalV l/\totalV l<=1000000000) :
  Calls Tryz.prog 193 #[v,vn] w fun e w'=>e=.returned (.bool (decide (2 * totalV l < 3 * weightV l ns)))/\Below w.heap.size w w':=by
 obtain ⟨a,c,rfl⟩:=hr.shape
 obtain ⟨an,cn,rfl⟩:=hrn.shape
 have HT:=a_ (cZ_ _ l w hr hl)
 have HW:=a_ (fun w h1 h2=>cG_ (.slice a l.length c) (.slice an ns.length cn) l ns w h1 h2 hl hln)
 have Hr:=a_ hr
 have Hrn:=a_ hrn
 obtain ⟨n,hn⟩:∃ n:Nat,totalV l=(n:Int):=⟨(totalV l).toNat,by omega⟩
 rw [hn] at HT hT ⊢
 have hn2:n<=1000000000:=by omega
 have HU:=a_ (fun w=>gl_ n w hn2)
 generalize weightV l ns=W at HW ⊢
 clear hr hrn hn hT
 have Hd:Hid (decide (2 * (n:Int) < 3 * W)=decide ((n:Int) - (((n+2) / 3:Nat):Int) < W)):=a_ (by rw [decide_eq_decide];omega)
 generalize decide (2 * (n:Int) < 3 * W)=D at Hd ⊢
 have hq:(n+2) / 3<=n+1:=by omega
 generalize (n+2) / 3=q at Hd HU hq
 go_enter Tryz.func193,Tryz.ntmps193
 go_wp2_with fail
 refine HT.out.mono ?_
 rintro e w1 ⟨rfl,hb1⟩
 go_wp2_with fail
 refine (HW.out _ (Hr.out.below hb1 (nr_ _)) (Hrn.out.below hb1 (nr_ _))).mono ?_
 rintro e w2 ⟨rfl,hb2⟩
 go_wp2_with fail
 refine (HU.out _).mono ?_
 rintro e w3 ⟨rfl,hb3⟩
 have hB:=(hb1.trans (hb2.mono hb1.size)).trans (hb3.mono (Nat.le_trans hb1.size hb2.size))
 have hwr:IntKind.i64.wrap ((n:Int) - (q:Int))=(n:Int) - (q:Int):=by rw [IntKind.wrap_i64];omega
 go_wp2
 go_ret
 exact ⟨b_ (by rw [Hd.out]),hB⟩
theorem az_ (v vn:Value) (l:List Vl) (ns:List ByteArray) (w:World) (hr:RdV w v l) (hrn:RdS w vn ns) (hl:l.length<=4000000) (hln:ns.length<=4000000) (hT:0<=totalV l/\totalV l<=1000000000) (hW:0<=weightV l ns/\weightV l ns<=1000000000) :
  Calls Tryz.prog 130 #[v,vn] w fun e w'=>e=.returned (.bool (decide (2 * totalV l < 3 * weightV l ns)))/\Below w.heap.size w w':=by
 obtain ⟨a,c,rfl⟩:=hr.shape
 obtain ⟨an,cn,rfl⟩:=hrn.shape
 have HW:=a_ (cD_ _ _ l ns w hr hrn hl hln)
 have HT:=a_ (fun w h=>df_ (.slice a l.length c) l w h hl)
 have Hr:=a_ hr
 generalize weightV l ns=W at HW hW ⊢
 generalize totalV l=T at HT hT ⊢
 have w1:IntKind.i64.wrap (3 * W)=3 * W:=by rw [IntKind.wrap_i64];omega
 have w2:IntKind.i64.wrap (2 * T)=2 * T:=by rw [IntKind.wrap_i64];omega
 clear hr hrn hT hW
 go_enter Tryz.func130,Tryz.ntmps130
 go_wp2_with fail
 refine HW.out.mono ?_
 rintro e w1' ⟨rfl,hb1⟩
 go_wp2_with fail
 refine (HT.out _ (Hr.out.below hb1 (nr_ _))).mono ?_
 rintro e w2' ⟨rfl,hb2⟩
 have hB:=hb1.trans (hb2.mono hb1.size)
 go_wp2
 go_ret
 exact ⟨rfl,hB⟩
end Go.Proofs.YtamljhcmiphdgaaGreatDoor
