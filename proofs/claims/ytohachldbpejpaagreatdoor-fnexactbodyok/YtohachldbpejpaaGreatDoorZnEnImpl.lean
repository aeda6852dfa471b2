/- Chains in a tree, and what extends what, by the landed code. Whether an epoch has ended at a block of a tree, by the landed code: the blocks of a chain as pointers. -/
import Derived.Test.YtohachldbpejpaaGreatDoorZnTrImpl
import Derived.Test.YtohachldbpejpaaGreatDoorZnLaSpec
namespace Go.Proofs.YtohachldbpejpaaGreatDoor
open Go.RowKit
set_option linter.unusedVariables false
theorem lim_next {base:Nat} {w:World} {v:Value} {l:List Bk} {Bs:List Nat} (ht:treeP l) (h:Limbs base w v l l.length Bs) {i:Nat} (hi:i < Bs.length) (hil:i < l.length) :
    ∃ bv p,Blk w Bs[i] 207 (limC l[i] bv p)/\((p=.pointer none/\upN l i=[i])\/∃ j,∃ hj:j < Bs.length,p=ptr Bs[j]/\upN l i=i :: upN l j):=by
  obtain ⟨bv,p,k,_,r⟩:=h.at_ i hi hil
  refine ⟨bv,p,k,?_⟩
  rcases r with ⟨r,rfl⟩ | ⟨j,hj,e,rfl⟩
  · refine .inl ⟨rfl,up_root ht hil ?_⟩
    rw [root_qb r]
    exact at_low ht (by omega)
  · refine .inr ⟨j,by omega,rfl,up_step ht hil hj ?_⟩
    rw [<- e]
    exact atI_asc (tree_asc ht) (by omega)
def PtA (l:List Bk) (Bs:List Nat) (x:Value) (R:List Nat):Prop:=(x=.pointer none/\R=[])\/∃ i,∃ h:i < Bs.length,x=ptr Bs[i]/\R=upN l i
set_option maxRecDepth 20000 in
set_option maxHeartbeats 2000000 in
theorem chain_any (l:List Bk) (Bs:List Nat) (tv x:Value) (C:List Nat) (base:Nat) (w:World) (ht:treeP l) (hlm:Limbs base w tv l l.length Bs) (hx:PtA l Bs x C) (hC:C.length<=1000000) :
    Calls Tryz.prog 180 #[x] w fun e w'=>∃ v,e=.returned v/\OwnI w.heap.size w' v (C.reverse.map (idAt l))/\Below w.heap.size w w':=by
  have Hlm:=hide hlm
  have Hx:=hide hx
  have Ht:=hide ht
  have o1:=own_nilI w w.heap.size (Nat.le_refl _)
  have b1:Below w.heap.size w (w.alloc (.cells #[] 3)):=(Below.refl _ w).alloc (Nat.le_refl _) _
  clear hlm hx ht
  go_enter Tryz.func180,Tryz.ntmps180
  go_wp2
  go_loopw [0,3] (fun xv ov wr=>∃ (D R:List Nat),C=D ++ R/\PtA l Bs xv R/\slen ov=D.length/\OwnI w.heap.size wr ov (D.map (idAt l))/\Below w.heap.size w wr) (fun _ ov _=>C.length - slen ov)
  case atStart=>exact ⟨[],C,rfl,Hx.out,rfl,o1,b1⟩
  case round =>
    clear o1 b1
    obtain ⟨D,R,hC2,hp,hs,ho,hb⟩:=hrel
    obtain ⟨oa,oc,rfl⟩:=ho.rd.shape
    have Ho:=hide ho
    have HC2:=hide hC2
    have hln:(D.map (idAt l)).length=D.length:=by simp
    rw [hln] at Ho ⊢
    clear ho hs hC2 hln
    rcases hp with ⟨rfl,hR⟩ | ⟨i,hi,rfl,hR⟩
    · have HD:Hid (C=D):=hide (by rw [HC2.out,hR,List.append_nil])
      have HRv:=hide (reverseI_any (.slice oa D.length oc) (D.map (idAt l)) w.heap.size wr Ho.out (by have:=hC;have:=HD.out;subst this;simp;omega))
      clear hR
      go_wp2_with fail
      refine HRv.out.mono ?_
      rintro e w2 ⟨rfl,ho2,hg2⟩
      have HO2:Hid (OwnI w.heap.size w2 (.slice oa D.length oc) (C.reverse.map (idAt l))):=hide (by rw [HD.out,List.map_reverse];exact ho2)
      have HB2:=hide (hb.grown hg2 hb.size (fun k hk=>(Ho.out.ge k hk)))
      clear ho2 hg2
      go_wp2
      go_ret
      exact ⟨_,rfl,HO2.out,HB2.out⟩
    · have hil:i < l.length:=by have:=Hlm.out.len;omega
      obtain ⟨bv,p,kk,hnx⟩:=lim_next Ht.out Hlm.out hi hil
      have HK:=hide (fun V (hV:Below w.heap.size w V)=>kk.below hV kk.lt)
      have hnn:0 < R.length:=by rw [hR];exact up_pos i
      have hDR:D.length+R.length=C.length:=by rw [HC2.out];simp
      have hlt:D.length+1<=C.length:=by omega
      have HDn:Hid (∀ R2,R=i :: R2->C=(D ++ [i]) ++ R2/\(D ++ [i]).map (idAt l)=D.map (idAt l) ++ [l[i].id]):=hide (fun R2 h=>⟨by rw [HC2.out,h];simp,by simp [idAt_eq hil]⟩)
      have Hnx:Hid (∃ R2,R=i :: R2/\PtA l Bs p R2):=hide (by
        rcases hnx with ⟨rfl,e⟩ | ⟨j,hj,rfl,e⟩
        · exact ⟨[],by rw [hR,e],.inl ⟨rfl,rfl⟩⟩
        · exact ⟨upN l j,by rw [hR,e],.inr ⟨j,hj,rfl,rfl⟩⟩)
      have Hc:Hid (∀ V,Below w.heap.size w V->V.cell? ⟨Bs[i],0,none⟩=some (.int .i64 l[i].id)/\V.cell? ⟨Bs[i],15,none⟩=some p):=hide (fun V hV=>⟨by rw [(kk.below hV kk.lt).cell 0];rfl,by rw [(kk.below hV kk.lt).cell 15];rfl⟩)
      clear hnx hR kk HC2 hDR hnn HK
      generalize l[i].id=d at HDn Hc
      simp only [ptr]
      generalize Bs[i]=B at Hc
      obtain ⟨c0,c15⟩:=Hc.out wr hb
      obtain ⟨w4,hw4⟩:∃ x,wr.alloc (.cells #[.int .i64 d] 3)=x:=⟨_,rfl⟩
      have b4:Below wr.heap.size wr w4:=by rw [<- hw4];exact (Below.refl _ wr).alloc (Nat.le_refl _) _
      have k4:Blk w4 wr.heap.size 3 [.int .i64 d]:=by rw [<- hw4];exact Blk.new wr _ _
      have HB4:=hide (hb.trans (b4.mono hb.size))
      have HO4:=hide (Ho.out.below b4 (Nat.le_refl _))
      have HR4:=hide (rd_oneI k4)
      clear b4 k4 Ho
      go_wp2_with (at_builtin;(try rw [hw4]);refine app_ownIs w4 rfl _ _ rfl w.heap.size (.slice oa D.length oc) _ (D.map (idAt l)) [d] rfl rfl HO4.out HR4.out (by simp;omega) HB4.out.size ?_;intro v5 w5 ho5 hg5 hb5 hl5;have c9:=(Hc.out w5 (HB4.out.trans hb5)).2)
      obtain ⟨R2,hR2,hpt⟩:=Hnx.out
      obtain ⟨e1,e2⟩:=HDn.out R2 hR2
      have HO5:Hid (OwnI w.heap.size w5 v5 ((D ++ [i]).map (idAt l))):=hide (by rw [e2];exact ho5)
      have HS5:Hid (slen v5=D.length+1):=hide (by
        obtain ⟨a9,c9,e9⟩:=ho5.rd.shape
        rw [e9];simp [slen])
      have E1:=hide e1
      clear e1 e2 ho5
      go_roundw
      case rel=>exact ⟨D ++ [i],R2,E1.out,hpt,by rw [HS5.out];simp,HO5.out,HB4.out.trans hb5⟩
      case measure=>rw [HS5.out];simp [slen];omega
theorem lm_at {l:List Bk} (ht:treeP l) {Bs:List Nat} (hl:Bs.length=l.length) {y:Int} {x:Value} (h:LmP Bs ((l.take l.length).map (·.id)) y x) :
    (x=.pointer none/\atI l y=-1)\/∃ i,∃ hi:i < Bs.length,x=ptr Bs[i]/\atI l y=(i:Int):=by
  rcases h with ⟨rfl,h⟩ | ⟨p,h1,h2,e,rfl⟩
  · refine .inl ⟨rfl,atI_eq (.inl ⟨rfl,fun j hj e=>h j (by simp;exact hj) ?_⟩)⟩
    rw [ids_at (Nat.le_refl _)];exact e
  · rw [ids_at (Nat.le_refl _)] at e
    refine .inr ⟨p,h1,rfl,?_⟩
    rw [<- e]
    exact atI_asc (tree_asc ht) (by omega)
theorem lm_chain {l:List Bk} (ht:treeP l) {Bs:List Nat} (hl:Bs.length=l.length) {y:Int} {x:Value} (h:LmP Bs ((l.take l.length).map (·.id)) y x):∃ C,PtA l Bs x C/\C.reverse=chA l y:=by
  rcases lm_at ht hl h with ⟨rfl,e⟩ | ⟨i,hi,rfl,e⟩
  · exact ⟨[],.inl ⟨rfl,rfl⟩,by rw [chA_none (by omega)];rfl⟩
  · exact ⟨upN l i,.inr ⟨i,hi,rfl,rfl⟩,by rw [chA,e,if_neg (by omega),Int.toNat_natCast]⟩
set_option maxRecDepth 20000 in
set_option maxHeartbeats 2000000 in
theorem implChainOf_any (v:Value) (l:List Bk) (id:Int) (w:World) (hr:RdKs w v l) (hl:l.length<=4000000) (hf:∀ b ∈ l,FewK b) (hbd:∀ b ∈ l,-9223372036854775808<=b.tr/\b.tr<=9223372036854775807) :
    Calls Tryz.prog 131 #[v,.int .i64 id] w fun e w'=>∃ x,e=.returned x/\OwnI w.heap.size w' x (coA l id)/\Below w.heap.size w w':=by
  have HT:=hide (treeOf_any v l w hr hl hf hbd)
  clear hr hf hbd
  go_enter Tryz.func131,Tryz.ntmps131
  go_wp2_with fail
  refine HT.out.mono ?_
  rintro e w1 ⟨ta,tn,tc,rfl,hlm,hb1⟩
  obtain ⟨w2,hw2⟩:∃ x,w1.alloc (.cells #[.slice ta tn tc] 134)=x:=⟨_,rfl⟩
  have b2:Below w1.heap.size w1 w2:=by rw [<- hw2];exact (Below.refl _ w1).alloc (Nat.le_refl _) _
  have k2:Blk w2 w1.heap.size 134 [.slice ta tn tc]:=by rw [<- hw2];exact Blk.new w1 _ _
  have hB2:=hb1.trans (b2.mono hb1.size)
  have x0:=k2.cell 0
  simp only [List.getElem?_cons_zero] at x0
  cases htb:treeB l
  · have HX:Hid (coA l id=[]):=hide (by rw [coA,htb,if_neg (by simp)])
    have HO:=hide (own_nilI w2 w.heap.size hB2.size)
    have HB:=hide (hB2.alloc (o:=.cells #[] 3) hB2.size)
    clear hlm htb HT b2 k2
    go_wp2
    go_ret
    exact ⟨_,rfl,by rw [HX.out];exact HO.out,HB.out⟩
  · have ht:=treeP_of htb
    have HX:Hid (coA l id=(chA l id).map (idAt l)):=hide (by rw [coA,htb,if_pos rfl])
    obtain ⟨Bs,lm⟩:=hlm htb
    have lm2:=lm.below b2 (Nat.le_refl _)
    have HA:=hide (treeAt_any (.slice ta tn tc) Bs ((l.take l.length).map (·.id)) id w2 (fun U hU=>(lm2.below hU (Nat.le_refl _)).rdP) (ids_asc (Nat.le_refl _) (tree_asc ht)) (by have:=lm.len;have:=ht.1;omega))
    have Hlm:=hide lm2
    have Ht:=hide ht
    have HB2:=hide hB2
    clear hlm htb HT b2 k2 lm lm2 ht hB2
    go_wp2_with fail
    refine HA.out.mono ?_
    rintro e w3 ⟨x,rfl,hx,hb3⟩
    obtain ⟨C,hp,hC⟩:=lm_chain Ht.out Hlm.out.len hx
    have hCl:=chA_len Ht.out id
    have hl4:=Ht.out.1
    have HC:=hide (chain_any l Bs (.slice ta tn tc) x C w.heap.size w3 Ht.out (Hlm.out.below hb3 (Nat.le_refl _)) hp (by rw [<- hC] at hCl;simp at hCl;omega))
    have HE:Hid (C.reverse.map (idAt l)=coA l id):=hide (by rw [HX.out,hC])
    have HB3:=hide (HB2.out.trans (hb3.mono HB2.out.size))
    clear hp hC hCl hl4 hx hb3 HA
    go_wp2_with fail
    refine HC.out.mono ?_
    rintro e w4 ⟨v4,rfl,ho4,hb4⟩
    have HO4:Hid (OwnI w.heap.size w4 v4 (coA l id)):=hide (by rw [<- HE.out];exact ho4.mono HB3.out.size)
    have HB4:=hide (HB3.out.trans (hb4.mono HB3.out.size))
    clear ho4 hb4
    go_wp2
    go_ret
    exact ⟨_,rfl,HO4.out,HB4.out⟩
end Go.Proofs.YtohachldbpejpaaGreatDoor

namespace Go.Proofs.YtohachldbpejpaaGreatDoor
open Go.RowKit
set_option linter.unusedVariables false
def pk (b off:Nat) (i:Nat):Value:=.pointer (some ⟨b,off+i * 14,none⟩)
def OwnQ (base:Nat) (w:World) (v:Value) (b off:Nat) (C:List Nat):Prop:=w.ownsRow base 120 1 v C.length (C.map (pk b off))
theorem OwnQ.below {B base:Nat} {w w':World} {v:Value} {b off:Nat} {C:List Nat} (h:OwnQ base w v b off C) (hb:Below B w w') (hB:w.heap.size<=B):OwnQ base w' v b off C:=row_below h hb hB
theorem OwnQ.shape {base:Nat} {w:World} {v:Value} {b off:Nat} {C:List Nat} (h:OwnQ base w v b off C):∃ a c,v=.slice a C.length c:=own_shape h
theorem OwnQ.cell {base:Nat} {w:World} {a:Option Addr} {c n:Nat} {b off:Nat} {C:List Nat} (h:OwnQ base w (.slice a n c) b off C) {k:Nat} (hk:k < C.length):∃ g,a=some ⟨g,0,none⟩/\w.cell? ⟨g,k,none⟩=some (pk b off C[k]):=by
  rcases h.2 with ⟨hv,hn⟩ | ⟨g,cap,cur,hv,hbb,hg,r⟩
  · omega
  · have h':=h
    unfold OwnQ at h'
    rw [hv] at h'
    simp only [Value.slice.injEq] at hv
    refine ⟨g,hv.1,?_⟩
    rw [h'.cellAt k (by omega)]
    simp [hk]
theorem Tryz.infoPq:(Tryz.prog.info? 120).map (fun i=>(i.zero,i.size,i.bytes))=some (some (.pointer none),1,8):=by kernel_rfl
theorem app_ownQ {ops:Array Oper} {rest:List Oper} {o:Oper} {a:Act} {Q:Exit->Act->World->Prop} (w:World) (hgd:o.guard=none) (s x:Operand)
    (ho:o.op=.call { callee:=.builtin .append,args:=#[s,x],argTypes:=#[126,126] })
    (base:Nat) (v:Value) (G b off:Nat) (C:List Nat) (i:Nat) (hs:a.eval s=v) (hx:a.eval x=.slice (some ⟨G,0,none⟩) 1 1) (hown:OwnQ base w v b off C) (hblk:Blk w G 120 [pk b off i])
    (hlen:C.length<=10000000) (hbase:base<=w.heap.size)
    (h:∀ v' w',OwnQ base w' v' b off (C ++ [i])->w.grownBy w' v.ownBlock->Below base w w'->wpList Tryz.prog ops Q rest (a.put o.dst v') w'):wpList Tryz.prog ops Q (o :: rest) a w:=by
  obtain ⟨i0,hi,hz0,hz1,hz2⟩:=info_parts Tryz.infoPq
  refine wpList_append_own w hgd s x 126 ho base 120 i0 (.pointer none) 1 8 Tryz.underlying126 hi hz0 hz1 hz2 rfl (by decide) v C.length (C.map (pk b off)) hs hown ⟨G,0,none⟩ 1 1 [pk b off i] hx rfl (fun j u hj=>by rw [add_flatP,Nat.zero_add,hblk.cell j];exact hj) (fun u hu=>by
    simp only [List.mem_cons,List.not_mem_nil,or_false] at hu
    subst hu;rfl) (by unfold maxLen;omega) (by omega) hbase ?_
  intro v' w' ho' hg _
  refine h v' w' ?_ hg ((Below.refl _ _).grown hg hbase (fun k hk=>(World.ownsRow.lt hown k hk).1))
  unfold OwnQ
  simpa using ho'
set_option maxRecDepth 20000 in
set_option maxHeartbeats 2000000 in
theorem chainBlocks_any (l:List Bk) (a:Option Addr) (cap:Nat) (id:Int) (w:World) (hr:RdKs w (.slice a l.length cap) l) (hl:l.length<=4000000) (hf:∀ b ∈ l,FewK b) (hbd:∀ b ∈ l,-9223372036854775808<=b.tr/\b.tr<=9223372036854775807) :
    Calls Tryz.prog 66 #[.slice a l.length cap,.int .i64 id] w fun e w'=>∃ v b off,e=.returned v/\OwnQ w.heap.size w' v b off (chT l id)/\(0 < (chT l id).length->a=some ⟨b,off,none⟩)/\Below w.heap.size w w':=by
  obtain ⟨b,off,hab⟩:∃ b off,0 < l.length->a=some ⟨b,off,none⟩:=by
    by_cases h0:0 < l.length
    · obtain ⟨b,off,e,-⟩:=hr.parts9 h0
      exact ⟨b,off,fun _=>e⟩
    · exact ⟨0,0,fun h=>absurd h h0⟩
  have HC:=hide (implChainOf_any _ l id w hr hl hf hbd)
  have HF:=hide (fun x V (hV:Below w.heap.size w V)=>firstOf_any l a cap x V (hr.below hV (Nat.le_refl _)) hl)
  rw [chT_co] at HC
  have hcl:=chT_len l id
  have Hat:=hide (chT_at l id)
  have Hclt:=hide (chT_lt l id)
  have HA:Hid (0 < (chT l id).length->a=some ⟨b,off,none⟩):=hide (fun h=>hab (by omega))
  have Hab:=hide hab
  clear hr hf hbd hab
  generalize chT l id=C at HC hcl Hat Hclt HA ⊢
  go_enter Tryz.func66,Tryz.ntmps66
  go_wp2_with fail
  refine HC.out.mono ?_
  rintro e w1 ⟨cv,rfl,oc,hb1⟩
  obtain ⟨ca,cc,rfl⟩:=oc.rd.shape
  have hlc:(C.map (idAt l)).length=C.length:=by simp
  rw [hlc] at oc ⊢
  have Hoc:=hide oc
  clear oc HC
  go_wp2
  go_loopw [12,5] (fun iv ov wr=>∃ k:Nat,k<=C.length/\iv=.int .i64 (k:Int)/\OwnQ w.heap.size wr ov b off (C.take k)/\Below w.heap.size w wr/\OwnI w.heap.size wr (.slice ca C.length cc) (C.map (idAt l))) (fun iv _ _=>C.length - (intOf iv).toNat)
  case atStart=>exact ⟨0,Nat.zero_le _,rfl,World.ownsRow_nil _ _ _ _,hb1,Hoc.out⟩
  case round =>
    clear Hoc hb1
    obtain ⟨k,hk,rfl,ho,hb,hoc⟩:=hrel
    obtain ⟨oa,occ,rfl⟩:=ho.shape
    have hln:(C.take k).length=k:=by simp;omega
    by_cases hlt:k < C.length
    · obtain ⟨b2,off2,rfl,h32,cc0⟩:=RdI.cellI hoc.rd (by simp) (k:=k) (by simpa using hlt)
      rw [List.getElem_map] at cc0
      have hCk:=Hclt.out C[k] (List.getElem_mem hlt)
      have HFk:=hide (HF.out (idAt l C[k]) wr hb)
      have HAk:=hide (Hat.out C[k] (List.getElem_mem hlt))
      have HY:Hid (C.take k ++ [C[k]]=C.take (k+1)):=hide (by rw [List.take_succ_eq_append_getElem hlt])
      have Hap:=hide (rows_apart (w:=wr) hoc ho (by decide))
      have Ho:=hide ho
      have Hoc:=hide hoc
      have Hb:=hide hb
      rw [hln] at Hap ⊢
      have hln2:(C.take k).length<=10000000:=by omega
      have Hln:=hide hln
      clear ho hoc hln
      generalize idAt l C[k]=d at cc0 HFk HAk
      generalize C[k]=j at HY HAk hCk
      have hki:(k:Int) < (C.length:Int):=by omega
      have hk0:(0:Int)<=(k:Int):=by omega
      go_wp2_with fail
      refine HFk.out.mono ?_
      rintro e w2 ⟨hcase,rfl⟩
      rcases hcase with ⟨hneg,-⟩ | ⟨k9,b9,off9,hk9,hkl9,ha9,rfl⟩
      · exfalso
        have:=HAk.out
        omega
      · have e9:k9=j:=by have:=HAk.out;omega
        subst e9
        have e8:=(Hab.out (by omega)).symm.trans ha9
        simp only [Option.some.injEq,Addr.mk.injEq,and_true] at e8
        clear ha9
        obtain ⟨rfl,rfl⟩:=e8
        obtain ⟨w4,hw4⟩:∃ x,w2.alloc (.cells #[.pointer (some ⟨b,off+k9 * 14,none⟩)] 120)=x:=⟨_,rfl⟩
        have b4:Below w2.heap.size w2 w4:=by rw [<- hw4];exact (Below.refl _ w2).alloc (Nat.le_refl _) _
        have K4:Hid (Blk w4 w2.heap.size 120 [pk b off k9]):=hide (by rw [<- hw4];exact Blk.new w2 _ _)
        have HB4:=hide (Hb.out.trans (b4.mono Hb.out.size))
        have HO4:=hide (Ho.out.below b4 (Nat.le_refl _))
        have HC4:=hide (Hoc.out.below b4 (Nat.le_refl _))
        clear b4 Ho Hoc Hb
        rw [Hln.out] at HO4
        go_wp2_with (at_builtin;(try rw [hw4]);refine app_ownQ w4 rfl _ _ rfl w.heap.size (.slice oa k occ) w2.heap.size b off (C.take k) k9 rfl rfl HO4.out K4.out hln2 HB4.out.size ?_;intro v5 w5 ho5 hg5 hb5)
        have HO5:Hid (OwnQ w.heap.size w5 v5 b off (C.take (k+1))):=hide (by rw [<- HY.out];exact ho5)
        have HC5:=hide (HC4.out.kept hg5 (by
          cases ho:(Value.slice oa k occ).ownBlock with
          | none=>right;simp [Value.ownBlock]
          | some g=>right;exact Hap.out g ho))
        go_roundw
        case rel=>exact ⟨k+1,by omega,by go_num,HO5.out,HB4.out.trans hb5,HC5.out⟩
        case measure=>simp [intOf];omega
    · obtain rfl:k=C.length:=by omega
      rw [List.take_length] at ho
      have Ho:=hide ho
      clear ho hoc hln
      simp only [List.take_length]
      go_wp2
      go_ret
      exact ⟨_,b,off,rfl,Ho.out,HA.out,hb⟩
set_option maxRecDepth 20000 in
theorem isEnd_any (b o:Nat) (d:Bool) (w:World) (h:w.cell? ⟨b,o+11,none⟩=some (.bool d)) :
    Calls Tryz.prog 130 #[.pointer (some ⟨b,o,none⟩)] w fun e w'=>e=.returned (.bool d)/\w'=w:=by
  go_enter Tryz.func130,Tryz.ntmps130
  go_wp2
  go_ret
  exact ⟨rfl,rfl⟩
set_option maxRecDepth 20000 in
set_option maxHeartbeats 1000000 in
theorem indexEnd_any (l:List Bk) (a:Option Addr) (cap:Nat) (v:Value) (b off:Nat) (C:List Nat) (base:Nat) (w:World) (hr:RdKs w (.slice a l.length cap) l) (ho:OwnQ base w v b off C) (ha:0 < C.length->a=some ⟨b,off,none⟩) (hlt:∀ x ∈ C,x < l.length) (hl:C.length<=4000000) :
    Calls Tryz.prog 179 #[v,.func (.func 130) #[] #[]] w fun e w'=>(∃ i:Int,e=.returned (.int .i64 i)/\C.any (enAt l)=decide (0<=i))/\w'=w:=by
  obtain ⟨oa,oc,rfl⟩:=ho.shape
  have Ho:=hide ho
  have Hr:=hide hr
  have Ha:=hide ha
  have Hlt:=hide hlt
  clear ho hr ha hlt
  go_enter Tryz.func179,Tryz.ntmps179
  go_wp2
  go_loopw [8] (fun i wr=>∃ k:Nat,k<=C.length/\i=.int .i64 k/\(∀ j (h:j < C.length),j < k->enAt l C[j]=false)/\wr=w) (fun i _=>C.length - (intOf i).toNat)
  case atStart=>exact ⟨0,Nat.zero_le _,rfl,fun j _ h=>by omega,rfl⟩
  case round =>
    obtain ⟨k,hk,rfl,hno,rfl⟩:=hrel
    have Hno:=hide hno
    clear hno
    by_cases hlt:k < C.length
    · obtain ⟨g,rfl,c0⟩:=Ho.out.cell hlt
      have hCk:=Hlt.out C[k] (List.getElem_mem hlt)
      have ea:=Ha.out (by omega)
      obtain ⟨b9,off9,e9,h3,hcell⟩:=Hr.out.parts9 (by omega)
      obtain ⟨rfl,rfl⟩:b9=b/\off9=off:=by
        rw [ea] at e9
        simp only [Option.some.injEq,Addr.mk.injEq,and_true] at e9
        exact ⟨e9.1.symm,e9.2.symm⟩
      obtain ⟨lv,hat,-⟩:=hcell C[k] hCk
      have HI:=hide (isEnd_any b9 (off9+C[k] * 14) l[C[k]].en wr hat.cells.2.2.2.2.2.2.2.2.2.2.2.1)
      have HE:=hide (enAt_eq hCk)
      have HY:=hide (fun h=>any_yes (f:=enAt l) hlt h)
      have HN:=hide (fun h=>no_next (f:=enAt l) hlt Hno.out h)
      generalize l[C[k]].en=d at HI HE
      simp only [pk] at c0
      have hki:(k:Int) < (C.length:Int):=by omega
      have hk0:(0:Int)<=(k:Int):=by omega
      generalize C[k]=j at c0 hCk HE HY HN HI
      clear hat hcell Hno e9 ea
      cases d
      · go_wp2_with fail
        refine HI.out.mono ?_
        rintro e w2 ⟨rfl,rfl⟩
        go_wp2
        go_roundw
        case rel=>exact ⟨k+1,by omega,by go_num,HN.out HE.out,by first | trivial | rfl⟩
        case measure=>simp [intOf];omega
      · have HZ:Hid (C.any (enAt l)=decide (0<=(k:Int))):=hide (by rw [HY.out HE.out,decide_eq_true hk0])
        go_wp2_with fail
        refine HI.out.mono ?_
        rintro e w2 ⟨rfl,rfl⟩
        go_wp2
        go_ret
        exact ⟨⟨_,rfl,HZ.out⟩,rfl⟩
    · have HZ:Hid (C.any (enAt l)=decide ((0:Int)<=-1)):=hide (by rw [any_no (fun j hj=>Hno.out j hj (by omega))];rfl)
      go_wp2
      go_ret
      exact ⟨⟨_,rfl,HZ.out⟩,rfl⟩
set_option maxRecDepth 20000 in
theorem hasEnd_any (l:List Bk) (a:Option Addr) (cap:Nat) (v:Value) (b off:Nat) (C:List Nat) (base:Nat) (w:World) (hr:RdKs w (.slice a l.length cap) l) (ho:OwnQ base w v b off C) (ha:0 < C.length->a=some ⟨b,off,none⟩) (hlt:∀ x ∈ C,x < l.length) (hl:C.length<=4000000) :
    Calls Tryz.prog 65 #[v] w fun e w'=>e=.returned (.bool (C.any (enAt l)))/\w'=w:=by
  have hmf:∀ (fn:Fn) (first cap:Array Value) (w:World),(Instr.makeFunc fn first cap).run Tryz.prog w=.ok (.func fn first cap) w:=fun _ _ _ _=>rfl
  have HI:=hide (indexEnd_any l a cap v b off C base w hr ho ha hlt hl)
  have HCf:Hid (Calls Tryz.prog 129 #[v,.func (.func 130) #[] #[]] w fun e w'=>e=.returned (.bool (C.any (enAt l)))/\w'=w):=hide (by
    obtain ⟨oa,oc,rfl⟩:=ho.shape
    clear hr ho ha hlt
    go_enter Tryz.func129,Tryz.ntmps129
    go_wp2_with fail
    refine HI.out.mono ?_
    rintro e w1 ⟨⟨i,rfl,hi⟩,rfl⟩
    have Hi:=hide hi
    clear hi
    go_wp2
    go_ret
    exact ⟨ret_bool Hi.out.symm,rfl⟩)
  obtain ⟨oa,oc,rfl⟩:=ho.shape
  clear hr ho ha hlt HI
  go_enter Tryz.func65,Tryz.ntmps65
  go_wp2_with fail
  refine HCf.out.mono ?_
  rintro e w1 ⟨rfl,rfl⟩
  go_wp2
  go_ret
  exact ⟨rfl,rfl⟩
end Go.Proofs.YtohachldbpejpaaGreatDoor
