/- Lists put behind none; rows of proofs that grow. -/
import Derived.Test.YtamljhcmiphdgaaGreatDoorZvTrChS
import Derived.Test.YtamljhcmiphdgaaGreatDoorZvAcEqS
set_option maxRecDepth 20000
set_option maxHeartbeats 4000000
namespace Go.Proofs.YtamljhcmiphdgaaGreatDoor
open Go.RowKit
set_option linter.unusedVariables false
theorem iD_ (b off i:Nat):(⟨b,off,none⟩:Addr).add i=⟨b,off+i,none⟩:=by
 by_cases hz:i=0
 ·subst hz;simp [Addr.add]
 ·simp [Addr.add,hz]
theorem ia_ {base:Nat} {w1 w w':World} {g cap:Nat} {l:List Bk} {Z:List (Bk × Bv)} {b:Bk} {bv:Bv} {v':Value} (hZ:Z.map (·.1)=l) (hrow:w1.ownsRow base 146 14 (.slice (some ⟨g,0,none⟩) l.length cap) l.length (Z.map bkP).flatten) (hk:Kvs base w1 g Z)
  (hb1:Below w1.heap.size w1 w) (hob:OwnK w1.heap.size w b bv) (hin:∀ k,bv.q.ownBlock=some k->bv.w.ownBlock ≠ some k) (hbase:base<=w1.heap.size)
  (ho':w'.ownsRow base 146 14 v' (l.length+1) ((Z.map bkP).flatten ++ bkC b bv)) (hgr:w.grownBy w' (some g)) (hl:v'.ownBlock=some g\/v'.ownBlock=some w.heap.size):OwnKs base w' v' (l ++ [b])/\Below base w w':=by
 have hk2:=hk.below hb1 (nr_ _)
 have hg:=World.ownsRow.lt hrow g rfl
 have hsz:=hb1.size
 have hlt:∀ i (hi:i < Z.length) k,Z[i].2.has k->k < w1.heap.size:=fun i hi k h=>((hk.own i hi).in9 k h).2
 have hbx:∀ k,bv.has k->w1.heap.size<=k/\k < w.heap.size:=fun k h=>hob.in9 k h
 refine ⟨?_,(br_ _ _).grown hgr (by omega) (fun k hk=>by cases hk;exact hg.1)⟩
 rcases ho'.2 with ⟨-,h0⟩ | ⟨g',cap',cur,hv',-⟩
 ·omega
 ·subst hv'
  have hcase:g'=g\/g'=w.heap.size:=by
   rcases hl with e | e
   ·exact .inl (by simpa [Value.ownBlock] using e)
   ·exact .inr (by simpa [Value.ownBlock] using e)
  have hk3:Kvs base w' g' Z:=by
   refine ⟨fun i hi=>(hk2.own i hi).grown9 hgr (hk2.far i hi),fun i hi=>?_,hk2.inner,hk2.apart⟩
   rcases hcase with rfl | rfl
   ·exact hk2.far i hi
   ·exact fun e=>by have:=hlt i hi _ e;omega
  have ho3:OwnK base w' b bv:=(hob.mono9 hbase).grown9 hgr (fun e=>by have:=(hbx g e).1;omega)
  refine ⟨g',cap',Z ++ [(b,bv)],by simp [hZ],by simp,?_,hk3.snoc (b,bv) ho3 (fun e=>?_) hin (fun i hi k h1 h2=>by have:=hlt i hi k h1;have:=(hbx k h2).1;omega)⟩
  ·rw [List.length_append,List.map_append,List.flatten_append]
   simpa [bkP] using ho'
  ·have:=hbx g' e
   rcases hcase with rfl | rfl
   ·omega
   ·omega
theorem ey_ {ops:Array Oper} {rest:List Oper} {o:Oper} {a:Act} {Q:Exit->Act->World->Prop} (w1 w:World) (hgd:o.guard=none) (s x:Operand)
  (ho:o.op=.call { callee:=.builtin .append,args:=#[s,x],argTypes:=#[47,47] })
  (base:Nat) (v:Value) (G:Nat) (l:List Bk) (b:Bk) (bv:Bv) (hs:a.eval s=v) (hx:a.eval x=.slice (some ⟨G,0,none⟩) 1 1) (hown:OwnKs base w1 v l) (hb1:Below w1.heap.size w1 w) (hblk:Blk w G 146 (bkC b bv))
  (hob:OwnK w1.heap.size w b bv) (hin:∀ k,bv.q.ownBlock=some k->bv.w.ownBlock ≠ some k) (hlen:l.length<=4000000) (hbase:base<=w1.heap.size)
  (h:∀ v' w',OwnKs base w' v' (l ++ [b])->Below base w w'->wpList Tryz.prog ops Q rest (a.put o.dst v') w'):wpList Tryz.prog ops Q (o :: rest) a w:=by
 obtain ⟨g,cap,Z,hZ,rfl,hrow,hk⟩:=hown
 have hone:∀ u ∈ bkC b bv,u.oneCell'=true:=List.all_eq_true.1 (hi_ hob.rd)
 obtain ⟨i0,hi,hz0,hz1,hz2⟩:=info_parts Tryz.infoBk
 refine wpList_append_own_at w hgd s x 47 ho base 146 i0 _ 14 208 Tryz.underlying47 hi hz0 hz1 hz2 rfl (by decide) _ l.length (Z.map bkP).flatten hs (j_ hrow hb1 (nr_ _)) ⟨G,0,none⟩ 1 1 (bkC b bv) hx rfl (fun j u hj=>by rw [iD_,Nat.zero_add,hblk.cell j];exact hj) (fun u hu=>hone u hu) (by unfold maxLen;omega) (by omega) (by have:=hb1.size;omega) ?_
 intro v' w' ho' hgr hn hl
 obtain ⟨q1,q2⟩:=ia_ hZ hrow hk hb1 hob hin hbase ho' hgr hl
 exact h v' w' q1 q2
theorem ib_ (w:World) (base:Nat) (h:base<=w.heap.size):OwnKs base (w.alloc (.cells #[] 146)) (.slice (some ⟨w.heap.size,0,none⟩) 0 0) []:=by
 refine ⟨w.heap.size,0,[],rfl,rfl,?_,Kvs.nil _ _ _⟩
 exact World.ownsRow_lit w #[] 0 h (by unfold maxLen;omega) (by simp)
theorem aT_ (v:Value) (l:List Bk) (w:World) (hr:RdKs w v l) (hl:l.length<=3999999) (hf:∀ b ∈ l,FewK b) :
  Calls Tryz.prog 78 #[v] w fun e w'=>∃ v',e=.returned v'/\OwnKs w.heap.size w' v' l/\Below w.heap.size w w':=by
 obtain ⟨a,cap,rfl⟩:=hr.shape
 have Hr:=a_ hr
 have Hf:=a_ hf
 have o1:=ib_ w w.heap.size (nr_ _)
 have b1:Below w.heap.size w (w.alloc (.cells #[] 146)):=(br_ _ w).alloc (nr_ _) _
 clear hr hf
 go_enter Tryz.func78,Tryz.ntmps78
 go_wp2
 go_loopw [4,3] (fun iv ov wr=>∃ k:Nat,k<=l.length/\iv=.int .i64 (k:Int)/\OwnKs w.heap.size wr ov (l.take k)/\Below w.heap.size w wr) (fun iv _ _=>l.length - (intOf iv).toNat)
 case atStart=>exact ⟨0,Nat.zero_le _,rfl,o1,b1⟩
 case round =>
  clear o1 b1
  obtain ⟨k,hk,rfl,ho,hb⟩:=hrel
  by_cases hlt:k < l.length
  ·obtain ⟨b,off,rfl,h3,hcell⟩:=Hr.out.parts9 (by omega)
   obtain ⟨lv,hat,hrl⟩:=hcell k hlt
   obtain ⟨c0,c1,c2,c3,c4,c5,c6,c7,c8,c9,c10,c11,c12,c13⟩:=(hat.below hb h3).cells
   have HC:=a_ (dE_ l[k] lv wr (hrl.below hb (nr_ _)) (Hf.out _ (List.getElem_mem hlt)))
   have Hsh:=a_ hrl.shapes9
   have HY:Hid (l.take k ++ [l[k]]=l.take (k+1)):=a_ (by rw [List.take_succ_eq_append_getElem hlt])
   have hki:(k:Int) < (l.length:Int):=by omega
   have hk0:(0:Int)<=(k:Int):=by omega
   have hln:(l.take k).length=k:=by simp;omega
   have Hln:=a_ hln
   obtain ⟨oa,oc,hv0⟩:=ho.rd.shape
   rw [hln] at hv0
   subst hv0
   have Ho:=a_ ho
   have Hb:=a_ hb
   clear hat hrl hcell ho hb hln
   generalize l[k]=ak at c0 c1 c2 c3 c4 c5 c6 c7 c8 c9 c10 c11 c12 c13 HC Hsh HY
   obtain ⟨aq,cq,aw,cw,ah,ch,at_,ct,an,cn,rfl⟩:=Hsh.out
   clear Hsh
   obtain ⟨id',ep,rd,md,qr,qb,qw,tr,tw,th,ts,en,nx,rt⟩:=ak
   simp only [bkV] at c0 c1 c2 c3 c4 c5 c6 c7 c8 c9 c10 c11 c12 c13 HC
   go_wp2_with fail
   refine HC.out.mono ?_
   rintro e w2 ⟨v2,rfl,o2,hin,hb2⟩
   obtain ⟨aq2,cq2,aw2,cw2,ah2,ch2,at2,ct2,an2,cn2,rfl⟩:=o2.rd.shapes9
   simp only at o2 hin ⊢
   obtain ⟨w3,hw3⟩:∃ x,w2.alloc (.cells #[.int .i64 id',.int .i64 ep,.int .i64 rd,.string md,.int .i64 qr,.int .i64 qb,.slice aq2 qw.length cq2,.int .i64 tr,.slice aw2 tw.length cw2,.slice ah2 th.length ch2,.slice at2 ts.length ct2,.bool en,.slice an2 nx.length cn2,.string rt] 146)=x:=⟨_,rfl⟩
   have b3:Below w2.heap.size w2 w3:=by rw [<- hw3];exact (br_ _ w2).alloc (nr_ _) _
   have K3:Hid (Blk w3 w2.heap.size 146 (bkC ⟨id',ep,rd,md,qr,qb,qw,tr,tw,th,ts,en,nx,rt⟩ ⟨.slice aq2 qw.length cq2,.slice aw2 tw.length cw2,.slice ah2 th.length ch2,.slice at2 ts.length ct2,.slice an2 nx.length cn2⟩)):=a_ (by rw [<- hw3];exact Blk.new w2 _ _)
   have O3:=a_ (o2.below9 b3 (nr_ _))
   have B3:=a_ (hb2.trans (b3.mono hb2.size))
   have HB3:=a_ (Hb.out.trans (B3.out.mono Hb.out.size))
   have Hin:=a_ hin
   clear o2 hb2 b3 hin HC c0 c1 c2 c3 c4 c5 c6 c7 c8 c9 c10 c11 c12 c13
   go_wp2_with (at_builtin;(try rw [hw3]);refine ey_ wr w3 rfl _ _ rfl w.heap.size (.slice oa k oc) w2.heap.size (l.take k) ⟨id',ep,rd,md,qr,qb,qw,tr,tw,th,ts,en,nx,rt⟩ ⟨.slice aq2 qw.length cq2,.slice aw2 tw.length cw2,.slice ah2 th.length ch2,.slice at2 ts.length ct2,.slice an2 nx.length cn2⟩ rfl rfl Ho.out B3.out K3.out O3.out Hin.out (by have:=Hln.out;omega) Hb.out.size ?_;intro v5 w5 ho5 hb5)
   have HO5:Hid (OwnKs w.heap.size w5 v5 (l.take (k+1))):=a_ (by rw [<- HY.out];exact ho5)
   go_roundw
   case rel=>exact ⟨k+1,by omega,by go_num,HO5.out,HB3.out.trans hb5⟩
   case measure=>simp [intOf];omega
  ·obtain rfl:k=l.length:=by omega
   rw [List.take_length] at ho
   have Ho:=a_ ho
   obtain ⟨oa,oc,rfl⟩:=ho.rd.shape
   clear ho
   go_wp2
   go_ret
   exact ⟨_,rfl,Ho.out,hb⟩
theorem ew_ {w:World} {b off:Nat} {k:List Tr} (h4:∀ i (h:i < k.length),TrAt w b (off+i * 3) k[i]) :
  ∀ j u,(k.map trC).flatten[j]?=some u->w.cell? ((⟨b,off,none⟩:Addr).add j)=some u:=by
 intro j u hj
 have hjl:j < (k.map trC).flatten.length:=(List.getElem?_eq_some_iff.1 hj).1
 rw [s_ 3 _ (bI_ k),List.length_map] at hjl
 have e:j=j / 3 * 3+j % 3:=by omega
 have hi:j / 3 < k.length:=by omega
 rw [e,i_ 3 (k.map trC) (j / 3) (j % 3) (by simpa using hi) (bI_ k) (by omega)] at hj
 rw [List.getElem_map] at hj
 rw [bM_,e]
 have c:=h4 (j / 3) hi
 have hr:j % 3=0\/j % 3=1\/j % 3=2:=by omega
 rcases hr with r | r | r <;> rw [r] at hj ⊢ <;> simp only [trC,gz_,gs_,Option.some.injEq] at hj <;> subst hj
 ·exact c.c0
 ·rw [<- Nat.add_assoc];exact c.c1
 ·rw [<- Nat.add_assoc];exact c.c2
theorem Tryz.infoCVote:(Tryz.prog.info? 156).map (fun i=>(i.zero,i.size,i.bytes))=some (some (.agg #[.int .i64 0,.int .i64 0,.string { data:=#[] }]),3,32):=by kernel_rfl
theorem cr_ {ops:Array Oper} {rest:List Oper} {o:Oper} {a:Act} {Q:Exit->Act->World->Prop} (W:World) (hgd:o.guard=none) (s x:Operand)
  (ho:o.op=.call { callee:=.builtin .append,args:=#[s,x],argTypes:=#[50,50] })
  (vx:Value) (k:List Tr) (hs:a.eval s=.slice (some ⟨W.heap.size,0,none⟩) 0 0) (hx:a.eval x=vx) (hrd:RdR W vx k) (hlen:k.length<=4000000)
  (h:∀ v' w',InR 156 W.heap.size w'.heap.size w' v' k->Below W.heap.size W w'->wpList Tryz.prog ops Q rest (a.put o.dst v') w'):wpList Tryz.prog ops Q (o :: rest) a (W.alloc (.cells #[] 156)):=by
 obtain ⟨i0,hi,hz0,hz1,hz2⟩:=info_parts Tryz.infoCVote
 have bA:Below W.heap.size W (W.alloc (.cells #[] 156)):=(br_ _ W).alloc (nr_ _) _
 have hown:=fx_ 156 W W.heap.size (nr_ _)
 have hrd:=hrd.below bA (nr_ _)
 have hbel:∀ w',(W.alloc (.cells #[] 156)).grownBy w' (some W.heap.size)->Below W.heap.size W w':=fun w' hg=>bA.trans ((br_ _ _).grown hg (by simp) (fun k hk=>by cases hk;exact nr_ _))
 rcases hrd with ⟨ax,cap,rfl,rfl,hnil⟩ | ⟨b,off,cap,h0,rfl,h1,h2,h3,h4⟩
 ·cases ax with
  | none =>
   have hc:cap=0:=hnil rfl
   subst hc
   refine wpList_append_own_none hgd s x 50 ho W.heap.size 156 i0 3 Tryz.underlying50 hi _ 0 [] hs hown hx ?_
   exact h _ _ (InR.of hown) bA
  | some ad =>
   refine wpList_append_own _ hgd s x 50 ho W.heap.size 156 i0 (.agg #[.int .i64 0,.int .i64 0,.string { data:=#[] }]) 3 32 Tryz.underlying50 hi hz0 hz1 hz2 rfl (by decide) _ 0 [] hs hown ad 0 cap [] hx rfl (by intro j u hj;simp at hj) (by intro u hu;simp at hu) (by unfold maxLen;omega) (by omega) (by simp) ?_
   intro v' w' ho' hg _
   exact h v' w' (InR.of (by simpa [OwnR] using ho')) (hbel w' hg)
 ·refine wpList_append_own _ hgd s x 50 ho W.heap.size 156 i0 (.agg #[.int .i64 0,.int .i64 0,.string { data:=#[] }]) 3 32 Tryz.underlying50 hi hz0 hz1 hz2 rfl (by decide) _ 0 [] hs hown ⟨b,off,none⟩ k.length cap (k.map trC).flatten hx (by rw [s_ 3 _ (bI_ k),List.length_map]) (ew_ h4) ?_ (by unfold maxLen;omega) (by omega) (by simp) ?_
  ·intro u hu
   obtain ⟨c,hc,hu⟩:=List.mem_flatten.1 hu
   obtain ⟨p,_,rfl⟩:=List.mem_map.1 hc
   simp only [trC,List.mem_cons,List.not_mem_nil,or_false] at hu
   rcases hu with rfl | rfl | rfl <;> rfl
  ·intro v' w' ho' hg _
   exact h v' w' (InR.of (by simpa [OwnR] using ho')) (hbel w' hg)
theorem Tryz.infoCGone:(Tryz.prog.info? 158).map (fun i=>(i.zero,i.size,i.bytes))=some (some (.agg #[.int .i64 0,.int .i64 0,.string { data:=#[] }]),3,32):=by kernel_rfl
theorem co_ {ops:Array Oper} {rest:List Oper} {o:Oper} {a:Act} {Q:Exit->Act->World->Prop} (W:World) (hgd:o.guard=none) (s x:Operand)
  (ho:o.op=.call { callee:=.builtin .append,args:=#[s,x],argTypes:=#[51,51] })
  (vx:Value) (k:List Tr) (hs:a.eval s=.slice (some ⟨W.heap.size,0,none⟩) 0 0) (hx:a.eval x=vx) (hrd:RdR W vx k) (hlen:k.length<=4000000)
  (h:∀ v' w',InR 158 W.heap.size w'.heap.size w' v' k->Below W.heap.size W w'->wpList Tryz.prog ops Q rest (a.put o.dst v') w'):wpList Tryz.prog ops Q (o :: rest) a (W.alloc (.cells #[] 158)):=by
 obtain ⟨i0,hi,hz0,hz1,hz2⟩:=info_parts Tryz.infoCGone
 have bA:Below W.heap.size W (W.alloc (.cells #[] 158)):=(br_ _ W).alloc (nr_ _) _
 have hown:=fx_ 158 W W.heap.size (nr_ _)
 have hrd:=hrd.below bA (nr_ _)
 have hbel:∀ w',(W.alloc (.cells #[] 158)).grownBy w' (some W.heap.size)->Below W.heap.size W w':=fun w' hg=>bA.trans ((br_ _ _).grown hg (by simp) (fun k hk=>by cases hk;exact nr_ _))
 rcases hrd with ⟨ax,cap,rfl,rfl,hnil⟩ | ⟨b,off,cap,h0,rfl,h1,h2,h3,h4⟩
 ·cases ax with
  | none =>
   have hc:cap=0:=hnil rfl
   subst hc
   refine wpList_append_own_none hgd s x 51 ho W.heap.size 158 i0 3 Tryz.underlying51 hi _ 0 [] hs hown hx ?_
   exact h _ _ (InR.of hown) bA
  | some ad =>
   refine wpList_append_own _ hgd s x 51 ho W.heap.size 158 i0 (.agg #[.int .i64 0,.int .i64 0,.string { data:=#[] }]) 3 32 Tryz.underlying51 hi hz0 hz1 hz2 rfl (by decide) _ 0 [] hs hown ad 0 cap [] hx rfl (by intro j u hj;simp at hj) (by intro u hu;simp at hu) (by unfold maxLen;omega) (by omega) (by simp) ?_
   intro v' w' ho' hg _
   exact h v' w' (InR.of (by simpa [OwnR] using ho')) (hbel w' hg)
 ·refine wpList_append_own _ hgd s x 51 ho W.heap.size 158 i0 (.agg #[.int .i64 0,.int .i64 0,.string { data:=#[] }]) 3 32 Tryz.underlying51 hi hz0 hz1 hz2 rfl (by decide) _ 0 [] hs hown ⟨b,off,none⟩ k.length cap (k.map trC).flatten hx (by rw [s_ 3 _ (bI_ k),List.length_map]) (ew_ h4) ?_ (by unfold maxLen;omega) (by omega) (by simp) ?_
  ·intro u hu
   obtain ⟨c,hc,hu⟩:=List.mem_flatten.1 hu
   obtain ⟨p,_,rfl⟩:=List.mem_map.1 hc
   simp only [trC,List.mem_cons,List.not_mem_nil,or_false] at hu
   rcases hu with rfl | rfl | rfl <;> rfl
  ·intro v' w' ho' hg _
   exact h v' w' (InR.of (by simpa [OwnR] using ho')) (hbel w' hg)
theorem dl_ {ops:Array Oper} {rest:List Oper} {o:Oper} {a:Act} {Q:Exit->Act->World->Prop} (W:World) (hgd:o.guard=none) (s x:Operand)
  (ho:o.op=.call { callee:=.builtin .append,args:=#[s,x],argTypes:=#[46,46] })
  (vx:Value) (k:List Vl) (hs:a.eval s=.slice (some ⟨W.heap.size,0,none⟩) 0 0) (hx:a.eval x=vx) (hrd:RdV W vx k) (hlen:k.length<=4000000)
  (h:∀ v' w',InV W.heap.size w'.heap.size w' v' k->Below W.heap.size W w'->wpList Tryz.prog ops Q rest (a.put o.dst v') w'):wpList Tryz.prog ops Q (o :: rest) a (W.alloc (.cells #[] 152)):=by
 have bA:Below W.heap.size W (W.alloc (.cells #[] 152)):=(br_ _ W).alloc (nr_ _) _
 refine cI_ _ hgd s x ho W.heap.size _ vx [] k hs hx (cu_ W W.heap.size (nr_ _)) (hrd.below bA (nr_ _)) (by simp;omega) (by simp) ?_
 intro v5 w5 o5 _ hb5
 rw [List.nil_append] at o5
 exact h v5 w5 (InV.of o5) (bA.trans hb5)
theorem di_ {ops:Array Oper} {rest:List Oper} {o:Oper} {a:Act} {Q:Exit->Act->World->Prop} (W:World) (hgd:o.guard=none) (s x:Operand)
  (ho:o.op=.call { callee:=.builtin .append,args:=#[s,x],argTypes:=#[30,30] })
  (vx:Value) (k:List Int) (hs:a.eval s=.slice (some ⟨W.heap.size,0,none⟩) 0 0) (hx:a.eval x=vx) (hrd:RdI W vx k) (hlen:k.length<=4000000)
  (h:∀ v' w',InI W.heap.size w'.heap.size w' v' k->Below W.heap.size W w'->wpList Tryz.prog ops Q rest (a.put o.dst v') w'):wpList Tryz.prog ops Q (o :: rest) a (W.alloc (.cells #[] 3)):=by
 have bA:Below W.heap.size W (W.alloc (.cells #[] 3)):=(br_ _ W).alloc (nr_ _) _
 refine bU_ _ hgd s x ho W.heap.size _ vx [] k hs hx (cK_ W W.heap.size (nr_ _)) (hrd.below bA (nr_ _)) (by simp;omega) (by simp) ?_
 intro v5 w5 o5 _ hb5 _
 rw [List.nil_append] at o5
 exact h v5 w5 (InI.of o5) (bA.trans hb5)
theorem iN_ {ops:Array Oper} {rest:List Oper} {o:Oper} {a:Act} {Q:Exit->Act->World->Prop} (W:World) (hgd:o.guard=none) (s x:Operand)
  (ho:o.op=.call { callee:=.builtin .append,args:=#[s,x],argTypes:=#[52,52] })
  (vx:Value) (k:List Tx5) (hs:a.eval s=.slice (some ⟨W.heap.size,0,none⟩) 0 0) (hx:a.eval x=vx) (hrd:RdT W vx k) (hlen:k.length<=4000000)
  (h:∀ v' w',InT W.heap.size w'.heap.size w' v' k->Below W.heap.size W w'->wpList Tryz.prog ops Q rest (a.put o.dst v') w'):wpList Tryz.prog ops Q (o :: rest) a (W.alloc (.cells #[] 59)):=by
 have bA:Below W.heap.size W (W.alloc (.cells #[] 59)):=(br_ _ W).alloc (nr_ _) _
 refine Z_ _ hgd s x ho W.heap.size _ vx [] k hs hx (T_ W W.heap.size (nr_ _)) (hrd.below bA (nr_ _)) (by simp;omega) (by simp) ?_
 intro v5 w5 o5 hb5
 rw [List.nil_append] at o5
 exact h v5 w5 (InT.of o5) (bA.trans hb5)
section
variable {α:Type}
theorem OwnRow.grow {T:TypeId} {sz base cap g:Nat} {C:α->List Value} {O:Nat->Nat->World->α->Prop} {w1 w w':World} {v':Value} {Z:List α} {q:α} (h:OwnRow T sz C O base w1.heap.size w1 (.slice (some ⟨g,0,none⟩) Z.length cap) Z) (hO:∀ a b q (w w':World),Kept a b w w'->O a b w q->O a b w' q)
  (hb1:Below w1.heap.size w1 w) (hq:O w1.heap.size w.heap.size w q) (hbase:base<=w1.heap.size)
  (ho':w'.ownsRow base T sz v' (Z.length+1) ((Z.map C).flatten ++ C q)) (hgr:w.grownBy w' (some g)) (hl:v'.ownBlock=some g\/v'.ownBlock=some w.heap.size):OwnRow T sz C O base w'.heap.size w' v' (Z ++ [q]):=by
 have hg:=World.ownsRow.lt h.1 g rfl
 have hz:=hb1.size
 have hz2:=hgr.size
 refine ⟨by rw [List.length_append,List.map_append,List.flatten_append];simpa using ho',fun k e=>by rcases hl with x | x <;> rw [x] at e <;> cases e <;> first | omega | (have:=(World.ownsRow.lt ho' _ x).2;omega),?_⟩
 have p1:Parts O base w1.heap.size (some g) w Z:=h.2.2.turn (fun a b q h1 h2 _ h3=>hO a b q _ _ (Kept.of_belowT hb1 h2) h3)
 have p2:Parts O base w1.heap.size (some g) w' Z:=p1.turn (fun a b q h1 h2 h3 h4=>hO a b q _ _ (Kept.of_grown hgr (fun k e=>by cases e;have:=h3 g rfl;omega)) h4)
 have q2:O w1.heap.size w.heap.size w' q:=hO _ _ _ _ _ (Kept.of_grown hgr (fun k e=>by cases e;omega)) hq
 have p3:Parts O base w.heap.size v'.ownBlock w' (Z ++ [q]):=by
  rcases hl with x | x
  ·rw [x]
   exact p2.snoc q (nr_ _) hbase hz (fun k e=>by cases e;omega) q2
  ·rw [x]
   exact (p2.no (no':=some w.heap.size) (fun k e=>by cases e;omega)).snoc q (nr_ _) hbase hz (fun k e=>by cases e;omega) q2
 exact p3.wide (nr_ _) hz2
end
theorem iu_ (w:World) (base:Nat) (h:base<=w.heap.size):OwnPx base (w.heap.size+1) (w.alloc (.cells #[] 138)) (.slice (some ⟨w.heap.size,0,none⟩) 0 0) [] :=
 ⟨[],rfl,World.ownsRow_lit w #[] 0 h (by unfold maxLen;omega) (by simp),fun k e=>by cases e;exact Nat.lt_succ_self _,Parts.nil _ _ _ _ _⟩
theorem jh_ (w1 w:World) (ty:TypeId) (base:Nat) (v:Value) (G:Nat) (l:List Pf) (p:Pf) (u:Pv) (hown:OwnPx base w1.heap.size w1 v l) (hne:v.ownBlock ≠ none) (hb1:Below w1.heap.size w1 w) (hblk:Blk w G 138 (pfC p u))
  (hob:OwnPf w1.heap.size w.heap.size w p u) (hlen:l.length<=4000000) (hbase:base<=w1.heap.size) :
  ∃ v' w',Sem.run Tryz.prog (Builtin.append_ #[53,53] ty #[v,.slice (some ⟨G,0,none⟩) 1 1]) w=.ok v' w'/\OwnPx base w'.heap.size w' v' (l ++ [p])/\v'.ownBlock ≠ none/\Below base w w':=by
 obtain ⟨Z,hZ,h⟩:=hown
 have hone:∀ x ∈ pfC p u,x.oneCell'=true:=List.all_eq_true.1 (bX_ hob.rd)
 obtain ⟨i0,hi,hz0,hz1,hz2⟩:=info_parts Tryz.infoRPf
 have hl:Z.length=l.length:=by rw [<- hZ];simp
 rcases h.1.2 with ⟨rfl,hn⟩ | ⟨g,cap,cur,rfl,hgb,-⟩
 ·exact absurd rfl hne
 obtain ⟨v',w',hr,h2,h3,h4,h5⟩:=run_append_own_at (P:=Tryz.prog) w base 53 ty 138 i0 _ 5 72 Tryz.underlying53 hi hz0 hz1 hz2 rfl (by decide) _ Z.length _ (j_ h.1 hb1 (nr_ _)) ⟨G,0,none⟩ 1 1 (pfC p u) rfl (fun j x hj=>by rw [bM_,Nat.zero_add,hblk.cell j];exact hj) (fun x hx=>hone x hx) (by unfold maxLen;omega) (by omega) (by have:=hb1.size;omega)
 have q:=OwnRow.grow (q:=(p,u)) h (fun a b q w w' hk hq=>hq.kept hk) hb1 hob hbase h2 h3 h5
 refine ⟨v',w',hr,⟨Z ++ [(p,u)],by simp [hZ],q⟩,?_,(br_ _ _).grown h3 (by have:=hb1.size;omega) (fun k hk=>by cases hk;exact hgb)⟩
 rcases h5 with e | e
 ·rw [e];exact hne
 ·rw [e];simp
theorem hv_ {ops:Array Oper} {o:Oper} {a:Act} {w:World} {K:Act->World->Prop} {Q:Exit->Act->World->Prop} {E:Prop} (w1:World) (hgd:o.guard=none) (s x:Operand)
  (ho:o.op=.call { callee:=.builtin .append,args:=#[s,x],argTypes:=#[53,53] })
  (base:Nat) (v:Value) (G:Nat) (l:List Pf) (p:Pf) (u:Pv) (hs:a.eval s=v) (hx:a.eval x=.slice (some ⟨G,0,none⟩) 1 1) (hown:OwnPx base w1.heap.size w1 v l) (hne:v.ownBlock ≠ none) (hb1:Below w1.heap.size w1 w) (hblk:Blk w G 138 (pfC p u))
  (hob:OwnPf w1.heap.size w.heap.size w p u) (hlen:l.length<=4000000) (hbase:base<=w1.heap.size)
  (h:∀ v' w',OwnPx base w'.heap.size w' v' (l ++ [p])->v'.ownBlock ≠ none->Below base w w'->K (a.put o.dst v') w'):if Region.wanted o (yielded ops a.tmps)=true then Oper.wp Tryz.prog o a w K Q else E:=by
 have hw:Region.wanted o (yielded ops a.tmps)=true:=by simp [Region.wanted,hgd]
 rw [if_pos hw]
 obtain ⟨v',w',hr,h2,h3,h4⟩:=jh_ w1 w o.type base v G l p u hown hne hb1 hblk hob hlen hbase
 unfold Oper.wp execOp
 simp only [ho,resolve,invoke,builtin,Sem.run_bind,Sem.run_pure,Result.andThen_ok,List.map_toArray,List.map_cons,List.map_nil,hs,hx,hr]
 exact h v' w' h2 h3 h4
theorem id_ {ops:Array Oper} {rest:List Oper} {o:Oper} {a:Act} {Q:Exit->Act->World->Prop} (w1 w:World) (hgd:o.guard=none) (s x:Operand)
  (ho:o.op=.call { callee:=.builtin .append,args:=#[s,x],argTypes:=#[53,53] })
  (base:Nat) (v:Value) (G:Nat) (l:List Pf) (p:Pf) (u:Pv) (hs:a.eval s=v) (hx:a.eval x=.slice (some ⟨G,0,none⟩) 1 1) (hown:OwnPx base w1.heap.size w1 v l) (hne:v.ownBlock ≠ none) (hb1:Below w1.heap.size w1 w) (hblk:Blk w G 138 (pfC p u))
  (hob:OwnPf w1.heap.size w.heap.size w p u) (hlen:l.length<=4000000) (hbase:base<=w1.heap.size)
  (h:∀ v' w',OwnPx base w'.heap.size w' v' (l ++ [p])->v'.ownBlock ≠ none->Below base w w'->wpList Tryz.prog ops Q rest (a.put o.dst v') w'):wpList Tryz.prog ops Q (o :: rest) a w:=by
 obtain ⟨Z,hZ,hrw⟩:=hown
 have hone:∀ x ∈ pfC p u,x.oneCell'=true:=List.all_eq_true.1 (bX_ hob.rd)
 obtain ⟨i0,hi,hz0,hz1,hz2⟩:=info_parts Tryz.infoRPf
 have hl:Z.length=l.length:=by rw [<- hZ];simp
 rcases hrw.1.2 with ⟨rfl,hn⟩ | ⟨g,cap,cur,rfl,hgb,-⟩
 ·exact absurd rfl hne
 refine wpList_append_own_at w hgd s x 53 ho base 138 i0 _ 5 72 Tryz.underlying53 hi hz0 hz1 hz2 rfl (by decide) _ Z.length _ hs (j_ hrw.1 hb1 (nr_ _)) ⟨G,0,none⟩ 1 1 (pfC p u) hx rfl (fun j x hj=>by rw [bM_,Nat.zero_add,hblk.cell j];exact hj) (fun x hx=>hone x hx) (by unfold maxLen;omega) (by omega) (by have:=hb1.size;omega) ?_
 intro v' w' ho' hgr hn hl2
 have q:=OwnRow.grow (q:=(p,u)) hrw (fun a b q w w' hk hq=>hq.kept hk) hb1 hob hbase ho' hgr hl2
 refine h v' w' ⟨Z ++ [(p,u)],by simp [hZ],q⟩ ?_ ((br_ _ _).grown hgr (by have:=hb1.size;omega) (fun k hk=>by cases hk;exact hgb))
 rcases hl2 with e | e
 ·rw [e];exact hne
 ·rw [e];simp
end Go.Proofs.YtamljhcmiphdgaaGreatDoor
