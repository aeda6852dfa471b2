/- A block is put behind others; the model's copy of a list of blocks. -/
import Derived.Test.YtaidhenkijjcfaaGreatZrTrChain
set_option maxRecDepth 20000
set_option maxHeartbeats 4000000
namespace Go.Proofs.YtaidhenkijjcfaaGreat
open Go.RowKit
set_option linter.unusedVariables false
theorem RdKs.parts9 {w:World} {a:Option Addr} {cap:Nat} {l:List Bk} (h:RdKs w (.slice a l.length cap) l) (hl:0 < l.length):∃ b off,a=some ⟨b,off,none⟩/\b < w.heap.size/\∀ i (h:i < l.length),∃ bv,BkAt w b (off+i * 14) l[i] bv/\RdK w l[i] bv:=by
  rcases h with ⟨a',cap',e,rfl,hn⟩ | ⟨b,off,cap',h0,e,h1,h2,h3,h4⟩
  · simp at hl
  · simp only [Value.slice.injEq] at e
    exact ⟨b,off,e.1,h3,h4⟩
def ofN (i:Nat):Int:=(i:Int)
structure UpTo (l:List Bk) (id0 id:Int) (O:List Nat):Prop where
  all:chA l id0=chA l id ++ O
  there:O=[]\/id < 0\/0<=atI l id
theorem add_flatK (b off i:Nat):(⟨b,off,none⟩:Addr).add i=⟨b,off+i,none⟩:=by
  by_cases hz:i=0
  · subst hz;simp [Addr.add]
  · simp [Addr.add,hz]
theorem ownKs_grow {base:Nat} {w1 w w':World} {g cap:Nat} {l:List Bk} {Z:List (Bk × Bv)} {b:Bk} {bv:Bv} {v':Value} (hZ:Z.map (·.1)=l) (hrow:w1.ownsRow base 92 14 (.slice (some ⟨g,0,none⟩) l.length cap) l.length (Z.map bkP).flatten) (hk:Kvs base w1 g Z)
    (hb1:Below w1.heap.size w1 w) (hob:OwnK w1.heap.size w b bv) (hin:∀ k,bv.q.ownBlock=some k->bv.w.ownBlock ≠ some k) (hbase:base<=w1.heap.size)
    (ho':w'.ownsRow base 92 14 v' (l.length+1) ((Z.map bkP).flatten ++ bkC b bv)) (hgr:w.grownBy w' (some g)) (hl:v'.ownBlock=some g\/v'.ownBlock=some w.heap.size):OwnKs base w' v' (l ++ [b])/\Below base w w':=by
  have hk2:=hk.below hb1 (Nat.le_refl _)
  have hg:=World.ownsRow.lt hrow g rfl
  have hsz:=hb1.size
  have hlt:∀ i (hi:i < Z.length) k,Z[i].2.has k->k < w1.heap.size:=fun i hi k h=>((hk.own i hi).in9 k h).2
  have hbx:∀ k,bv.has k->w1.heap.size<=k/\k < w.heap.size:=fun k h=>hob.in9 k h
  refine ⟨?_,(Below.refl _ _).grown hgr (by omega) (fun k hk=>by cases hk;exact hg.1)⟩
  rcases ho'.2 with ⟨-,h0⟩ | ⟨g',cap',cur,hv',-⟩
  · omega
  · subst hv'
    have hcase:g'=g\/g'=w.heap.size:=by
      rcases hl with e | e
      · exact .inl (by simpa [Value.ownBlock] using e)
      · exact .inr (by simpa [Value.ownBlock] using e)
    have hk3:Kvs base w' g' Z:=by
      refine ⟨fun i hi=>(hk2.own i hi).grown9 hgr (hk2.far i hi),fun i hi=>?_,hk2.inner,hk2.apart⟩
      rcases hcase with rfl | rfl
      · exact hk2.far i hi
      · exact fun e=>by have:=hlt i hi _ e;omega
    have ho3:OwnK base w' b bv:=(hob.mono9 hbase).grown9 hgr (fun e=>by have:=(hbx g e).1;omega)
    refine ⟨g',cap',Z ++ [(b,bv)],by simp [hZ],by simp,?_,hk3.snoc (b,bv) ho3 (fun e=>?_) hin (fun i hi k h1 h2=>by have:=hlt i hi k h1;have:=(hbx k h2).1;omega)⟩
    · rw [List.length_append,List.map_append,List.flatten_append]
      simpa [bkP] using ho'
    · have:=hbx g' e
      rcases hcase with rfl | rfl
      · omega
      · omega
theorem app_ownKs {ops:Array Oper} {rest:List Oper} {o:Oper} {a:Act} {Q:Exit->Act->World->Prop} (w1 w:World) (hgd:o.guard=none) (s x:Operand)
    (ho:o.op=.call { callee:=.builtin .append,args:=#[s,x],argTypes:=#[39,39] })
    (base:Nat) (v:Value) (G:Nat) (l:List Bk) (b:Bk) (bv:Bv) (hs:a.eval s=v) (hx:a.eval x=.slice (some ⟨G,0,none⟩) 1 1) (hown:OwnKs base w1 v l) (hb1:Below w1.heap.size w1 w) (hblk:Blk w G 92 (bkC b bv))
    (hob:OwnK w1.heap.size w b bv) (hin:∀ k,bv.q.ownBlock=some k->bv.w.ownBlock ≠ some k) (hlen:l.length<=4000000) (hbase:base<=w1.heap.size)
    (h:∀ v' w',OwnKs base w' v' (l ++ [b])->Below base w w'->wpList Tryz.prog ops Q rest (a.put o.dst v') w'):wpList Tryz.prog ops Q (o :: rest) a w:=by
  obtain ⟨g,cap,Z,hZ,rfl,hrow,hk⟩:=hown
  have hone:∀ u ∈ bkC b bv,u.oneCell'=true:=List.all_eq_true.1 (bkC_one hob.rd)
  obtain ⟨i0,hi,hz0,hz1,hz2⟩:=info_parts Tryz.infoBk
  refine wpList_append_own_at w hgd s x 39 ho base 92 i0 _ 14 208 Tryz.underlying39 hi hz0 hz1 hz2 rfl (by decide) _ l.length (Z.map bkP).flatten hs (row_below hrow hb1 (Nat.le_refl _)) ⟨G,0,none⟩ 1 1 (bkC b bv) hx rfl (fun j u hj=>by rw [add_flatK,Nat.zero_add,hblk.cell j];exact hj) (fun u hu=>hone u hu) (by unfold maxLen;omega) (by omega) (by have:=hb1.size;omega) ?_
  intro v' w' ho' hgr hn hl
  obtain ⟨q1,q2⟩:=ownKs_grow hZ hrow hk hb1 hob hin hbase ho' hgr hl
  exact h v' w' q1 q2
theorem own_nilKs (w:World) (base:Nat) (h:base<=w.heap.size):OwnKs base (w.alloc (.cells #[] 92)) (.slice (some ⟨w.heap.size,0,none⟩) 0 0) []:=by
  refine ⟨w.heap.size,0,[],rfl,rfl,?_,Kvs.nil _ _ _⟩
  exact World.ownsRow_lit w #[] 0 h (by unfold maxLen;omega) (by simp)
theorem specCopyKs_any (v:Value) (l:List Bk) (w:World) (hr:RdKs w v l) (hl:l.length<=3999999) (hf:∀ b ∈ l,FewK b) :
    Calls Tryz.prog 112 #[v] w fun e w'=>∃ v',e=.returned v'/\OwnKs w.heap.size w' v' l/\Below w.heap.size w w':=by
  obtain ⟨a,cap,rfl⟩:=hr.shape
  have Hr:=hide hr
  have Hf:=hide hf
  have o1:=own_nilKs w w.heap.size (Nat.le_refl _)
  have b1:Below w.heap.size w (w.alloc (.cells #[] 92)):=(Below.refl _ w).alloc (Nat.le_refl _) _
  clear hr hf
  go_enter Tryz.func112,Tryz.ntmps112
  go_wp2
  go_loopw [4,3] (fun iv ov wr=>∃ k:Nat,k<=l.length/\iv=.int .i64 (k:Int)/\OwnKs w.heap.size wr ov (l.take k)/\Below w.heap.size w wr) (fun iv _ _=>l.length - (intOf iv).toNat)
  case atStart=>exact ⟨0,Nat.zero_le _,rfl,o1,b1⟩
  case round =>
    clear o1 b1
    obtain ⟨k,hk,rfl,ho,hb⟩:=hrel
    by_cases hlt:k < l.length
    · obtain ⟨b,off,rfl,h3,hcell⟩:=Hr.out.parts9 (by omega)
      obtain ⟨lv,hat,hrl⟩:=hcell k hlt
      obtain ⟨c0,c1,c2,c3,c4,c5,c6,c7,c8,c9,c10,c11,c12,c13⟩:=(hat.below hb h3).cells
      have HC:=hide (specCopied_any l[k] lv wr (hrl.below hb (Nat.le_refl _)) (Hf.out _ (List.getElem_mem hlt)))
      have Hsh:=hide hrl.shapes9
      have HY:Hid (l.take k ++ [l[k]]=l.take (k+1)):=hide (by rw [List.take_succ_eq_append_getElem hlt])
      have hki:(k:Int) < (l.length:Int):=by omega
      have hk0:(0:Int)<=(k:Int):=by omega
      have hln:(l.take k).length=k:=by simp;omega
      have Hln:=hide hln
      obtain ⟨oa,oc,hv0⟩:=ho.rd.shape
      rw [hln] at hv0
      subst hv0
      have Ho:=hide ho
      have Hb:=hide hb
      clear hat hrl hcell ho hb hln
      generalize l[k]=ak at c0 c1 c2 c3 c4 c5 c6 c7 c8 c9 c10 c11 c12 c13 HC Hsh HY
      obtain ⟨aq,cq,aw,cw,ah,ch,at_,ct,an,cn,rfl⟩:=Hsh.out
      clear Hsh
      obtain ⟨id',ep,rd,md,qr,qb,qw,tr,tw,th,ts,en,nx,rt⟩:=ak
      simp only [bkV] at c0 c1 c2 c3 c4 c5 c6 c7 c8 c9 c10 c11 c12 c13 HC
      go_wp2_with fail
      refine HC.out.mono ?_
      rintro e w2 ⟨v2,rfl,o2,hin,hb2⟩
      obtain ⟨aq2,cq2,aw2,cw2,ah2,ch2,at2,ct2,an2,cn2,rfl⟩:=o2.rd.shapes9
      simp only at o2 hin ⊢
      obtain ⟨w3,hw3⟩:∃ x,w2.alloc (.cells #[.int .i64 id',.int .i64 ep,.int .i64 rd,.string md,.int .i64 qr,.int .i64 qb,.slice aq2 qw.length cq2,.int .i64 tr,.slice aw2 tw.length cw2,.slice ah2 th.length ch2,.slice at2 ts.length ct2,.bool en,.slice an2 nx.length cn2,.string rt] 92)=x:=⟨_,rfl⟩
      have b3:Below w2.heap.size w2 w3:=by rw [<- hw3];exact (Below.refl _ w2).alloc (Nat.le_refl _) _
      have K3:Hid (Blk w3 w2.heap.size 92 (bkC ⟨id',ep,rd,md,qr,qb,qw,tr,tw,th,ts,en,nx,rt⟩ ⟨.slice aq2 qw.length cq2,.slice aw2 tw.length cw2,.slice ah2 th.length ch2,.slice at2 ts.length ct2,.slice an2 nx.length cn2⟩)):=hide (by rw [<- hw3];exact Blk.new w2 _ _)
      have O3:=hide (o2.below9 b3 (Nat.le_refl _))
      have B3:=hide (hb2.trans (b3.mono hb2.size))
      have HB3:=hide (Hb.out.trans (B3.out.mono Hb.out.size))
      have Hin:=hide hin
      clear o2 hb2 b3 hin HC c0 c1 c2 c3 c4 c5 c6 c7 c8 c9 c10 c11 c12 c13
      go_wp2_with (at_builtin;(try rw [hw3]);refine app_ownKs wr w3 rfl _ _ rfl w.heap.size (.slice oa k oc) w2.heap.size (l.take k) ⟨id',ep,rd,md,qr,qb,qw,tr,tw,th,ts,en,nx,rt⟩ ⟨.slice aq2 qw.length cq2,.slice aw2 tw.length cw2,.slice ah2 th.length ch2,.slice at2 ts.length ct2,.slice an2 nx.length cn2⟩ rfl rfl Ho.out B3.out K3.out O3.out Hin.out (by have:=Hln.out;omega) Hb.out.size ?_;intro v5 w5 ho5 hb5)
      have HO5:Hid (OwnKs w.heap.size w5 v5 (l.take (k+1))):=hide (by rw [<- HY.out];exact ho5)
      go_roundw
      case rel=>exact ⟨k+1,by omega,by go_num,HO5.out,HB3.out.trans hb5⟩
      case measure=>simp [intOf];omega
    · obtain rfl:k=l.length:=by omega
      rw [List.take_length] at ho
      have Ho:=hide ho
      obtain ⟨oa,oc,rfl⟩:=ho.rd.shape
      clear ho
      go_wp2
      go_ret
      exact ⟨_,rfl,Ho.out,hb⟩
end Go.Proofs.YtaidhenkijjcfaaGreat
