/- The block of a number in a list of blocks, by the model and by the landed code. -/
import Derived.Test.YtohachldbpejpaaGreatDoorZlTrImpl
import Derived.Test.YtohachldbpejpaaGreatDoorZlPut
set_option maxRecDepth 20000
set_option maxHeartbeats 8000000
namespace Go.Proofs.YtohachldbpejpaaGreatDoor
open Go.RowKit
set_option linter.unusedVariables false
theorem lim_next {base:Nat} {w:World} {v:Value} {l:List Bk} {Bs:List Nat} (ht:treeP l) (h:Limbs base w v l l.length Bs) {i:Nat} (hi:i < Bs.length) (hil:i < l.length) :
    ∃ bv p,Blk w Bs[i] 207 (limC l[i] bv p)/\((p=.pointer none/\upN l i=[i])\/∃ j,∃ hj:j < Bs.length,p=ptr Bs[j]/\upN l i=i :: upN l j):=by
  obtain ⟨bv,p,k,_,r⟩:=h.at_ i hi hil
  refine ⟨bv,p,k,?_⟩
  rcases r with ⟨r,rfl⟩ | ⟨j,hj,e,rfl⟩
  · refine .inl ⟨rfl,up_root ht hil ?_⟩
    rw [root_qb r]
    exact at_low ht (by omega)
  · refine .inr ⟨j,by omega,rfl,up_step ht hil hj ?_⟩
    rw [<- e]
    exact atI_asc (tree_asc ht) (by omega)
def PtA (l:List Bk) (Bs:List Nat) (x:Value) (R:List Nat):Prop:=(x=.pointer none/\R=[])\/∃ i,∃ h:i < Bs.length,x=ptr Bs[i]/\R=upN l i
theorem chain_any (l:List Bk) (Bs:List Nat) (tv x:Value) (C:List Nat) (base:Nat) (w:World) (ht:treeP l) (hlm:Limbs base w tv l l.length Bs) (hx:PtA l Bs x C) (hC:C.length<=1000000) :
    Calls Tryz.prog 180 #[x] w fun e w'=>∃ v,e=.returned v/\OwnI w.heap.size w' v (C.reverse.map (idAt l))/\Below w.heap.size w w':=by
  have Hlm:=hide hlm
  have Hx:=hide hx
  have Ht:=hide ht
  have o1:=own_nilI w w.heap.size (Nat.le_refl _)
  have b1:Below w.heap.size w (w.alloc (.cells #[] 3)):=(Below.refl _ w).alloc (Nat.le_refl _) _
  clear hlm hx ht
  go_enter Tryz.func180,Tryz.ntmps180
  go_wp2
  go_loopw [0,3] (fun xv ov wr=>∃ (D R:List Nat),C=D ++ R/\PtA l Bs xv R/\slen ov=D.length/\OwnI w.heap.size wr ov (D.map (idAt l))/\Below w.heap.size w wr) (fun _ ov _=>C.length - slen ov)
  case atStart=>exact ⟨[],C,rfl,Hx.out,rfl,o1,b1⟩
  case round =>
    clear o1 b1
    obtain ⟨D,R,hC2,hp,hs,ho,hb⟩:=hrel
    obtain ⟨oa,oc,rfl⟩:=ho.rd.shape
    have Ho:=hide ho
    have HC2:=hide hC2
    have hln:(D.map (idAt l)).length=D.length:=by simp
    rw [hln] at Ho ⊢
    clear ho hs hC2 hln
    rcases hp with ⟨rfl,hR⟩ | ⟨i,hi,rfl,hR⟩
    · have HD:Hid (C=D):=hide (by rw [HC2.out,hR,List.append_nil])
      have HRv:=hide (reverseI_any (.slice oa D.length oc) (D.map (idAt l)) w.heap.size wr Ho.out (by have:=hC;have:=HD.out;subst this;simp;omega))
      clear hR
      go_wp2_with fail
      refine HRv.out.mono ?_
      rintro e w2 ⟨rfl,ho2,hg2⟩
      have HO2:Hid (OwnI w.heap.size w2 (.slice oa D.length oc) (C.reverse.map (idAt l))):=hide (by rw [HD.out,List.map_reverse];exact ho2)
      have HB2:=hide (hb.grown hg2 hb.size (fun k hk=>(Ho.out.ge k hk)))
      clear ho2 hg2
      go_wp2
      go_ret
      exact ⟨_,rfl,HO2.out,HB2.out⟩
    · have hil:i < l.length:=by have:=Hlm.out.len;omega
      obtain ⟨bv,p,kk,hnx⟩:=lim_next Ht.out Hlm.out hi hil
      have HK:=hide (fun V (hV:Below w.heap.size w V)=>kk.below hV kk.lt)
      have hnn:0 < R.length:=by rw [hR];exact up_pos i
      have hDR:D.length+R.length=C.length:=by rw [HC2.out];simp
      have hlt:D.length+1<=C.length:=by omega
      have HDn:Hid (∀ R2,R=i :: R2->C=(D ++ [i]) ++ R2/\(D ++ [i]).map (idAt l)=D.map (idAt l) ++ [l[i].id]):=hide (fun R2 h=>⟨by rw [HC2.out,h];simp,by simp [idAt_eq hil]⟩)
      have Hnx:Hid (∃ R2,R=i :: R2/\PtA l Bs p R2):=hide (by
        rcases hnx with ⟨rfl,e⟩ | ⟨j,hj,rfl,e⟩
        · exact ⟨[],by rw [hR,e],.inl ⟨rfl,rfl⟩⟩
        · exact ⟨upN l j,by rw [hR,e],.inr ⟨j,hj,rfl,rfl⟩⟩)
      have Hc:Hid (∀ V,Below w.heap.size w V->V.cell? ⟨Bs[i],0,none⟩=some (.int .i64 l[i].id)/\V.cell? ⟨Bs[i],15,none⟩=some p):=hide (fun V hV=>⟨by rw [(kk.below hV kk.lt).cell 0];rfl,by rw [(kk.below hV kk.lt).cell 15];rfl⟩)
      clear hnx hR kk HC2 hDR hnn HK
      generalize l[i].id=d at HDn Hc
      simp only [ptr]
      generalize Bs[i]=B at Hc
      obtain ⟨c0,c15⟩:=Hc.out wr hb
      obtain ⟨w4,hw4⟩:∃ x,wr.alloc (.cells #[.int .i64 d] 3)=x:=⟨_,rfl⟩
      have b4:Below wr.heap.size wr w4:=by rw [<- hw4];exact (Below.refl _ wr).alloc (Nat.le_refl _) _
      have k4:Blk w4 wr.heap.size 3 [.int .i64 d]:=by rw [<- hw4];exact Blk.new wr _ _
      have HB4:=hide (hb.trans (b4.mono hb.size))
      have HO4:=hide (Ho.out.below b4 (Nat.le_refl _))
      have HR4:=hide (rd_oneI k4)
      clear b4 k4 Ho
      go_wp2_with (at_builtin;(try rw [hw4]);refine app_ownIs w4 rfl _ _ rfl w.heap.size (.slice oa D.length oc) _ (D.map (idAt l)) [d] rfl rfl HO4.out HR4.out (by simp;omega) HB4.out.size ?_;intro v5 w5 ho5 hg5 hb5 hl5;have c9:=(Hc.out w5 (HB4.out.trans hb5)).2)
      obtain ⟨R2,hR2,hpt⟩:=Hnx.out
      obtain ⟨e1,e2⟩:=HDn.out R2 hR2
      have HO5:Hid (OwnI w.heap.size w5 v5 ((D ++ [i]).map (idAt l))):=hide (by rw [e2];exact ho5)
      have HS5:Hid (slen v5=D.length+1):=hide (by
        obtain ⟨a9,c9,e9⟩:=ho5.rd.shape
        rw [e9];simp [slen])
      have E1:=hide e1
      clear e1 e2 ho5
      go_roundw
      case rel=>exact ⟨D ++ [i],R2,E1.out,hpt,by rw [HS5.out];simp,HO5.out,HB4.out.trans hb5⟩
      case measure=>rw [HS5.out];simp [slen];omega
theorem lm_at {l:List Bk} (ht:treeP l) {Bs:List Nat} (hl:Bs.length=l.length) {y:Int} {x:Value} (h:LmP Bs ((l.take l.length).map (·.id)) y x) :
    (x=.pointer none/\atI l y=-1)\/∃ i,∃ hi:i < Bs.length,x=ptr Bs[i]/\atI l y=(i:Int):=by
  rcases h with ⟨rfl,h⟩ | ⟨p,h1,h2,e,rfl⟩
  · refine .inl ⟨rfl,atI_eq (.inl ⟨rfl,fun j hj e=>h j (by simp;exact hj) ?_⟩)⟩
    rw [ids_at (Nat.le_refl _)];exact e
  · rw [ids_at (Nat.le_refl _)] at e
    refine .inr ⟨p,h1,rfl,?_⟩
    rw [<- e]
    exact atI_asc (tree_asc ht) (by omega)
theorem lm_chain {l:List Bk} (ht:treeP l) {Bs:List Nat} (hl:Bs.length=l.length) {y:Int} {x:Value} (h:LmP Bs ((l.take l.length).map (·.id)) y x):∃ C,PtA l Bs x C/\C.reverse=chA l y:=by
  rcases lm_at ht hl h with ⟨rfl,e⟩ | ⟨i,hi,rfl,e⟩
  · exact ⟨[],.inl ⟨rfl,rfl⟩,by rw [chA_none (by omega)];rfl⟩
  · exact ⟨upN l i,.inr ⟨i,hi,rfl,rfl⟩,by rw [chA,e,if_neg (by omega),Int.toNat_natCast]⟩
theorem implChainOf_any (v:Value) (l:List Bk) (id:Int) (w:World) (hr:RdKs w v l) (hl:l.length<=4000000) (hf:∀ b ∈ l,FewK b) (hbd:∀ b ∈ l,-9223372036854775808<=b.tr/\b.tr<=9223372036854775807) :
    Calls Tryz.prog 131 #[v,.int .i64 id] w fun e w'=>∃ x,e=.returned x/\OwnI w.heap.size w' x (coA l id)/\Below w.heap.size w w':=by
  have HT:=hide (treeOf_any v l w hr hl hf hbd)
  clear hr hf hbd
  go_enter Tryz.func131,Tryz.ntmps131
  go_wp2_with fail
  refine HT.out.mono ?_
  rintro e w1 ⟨ta,tn,tc,rfl,hlm,hb1⟩
  obtain ⟨w2,hw2⟩:∃ x,w1.alloc (.cells #[.slice ta tn tc] 134)=x:=⟨_,rfl⟩
  have b2:Below w1.heap.size w1 w2:=by rw [<- hw2];exact (Below.refl _ w1).alloc (Nat.le_refl _) _
  have k2:Blk w2 w1.heap.size 134 [.slice ta tn tc]:=by rw [<- hw2];exact Blk.new w1 _ _
  have hB2:=hb1.trans (b2.mono hb1.size)
  have x0:=k2.cell 0
  simp only [List.getElem?_cons_zero] at x0
  cases htb:treeB l
  · have HX:Hid (coA l id=[]):=hide (by rw [coA,htb,if_neg (by simp)])
    have HO:=hide (own_nilI w2 w.heap.size hB2.size)
    have HB:=hide (hB2.alloc (o:=.cells #[] 3) hB2.size)
    clear hlm htb HT b2 k2
    go_wp2
    go_ret
    exact ⟨_,rfl,by rw [HX.out];exact HO.out,HB.out⟩
  · have ht:=treeP_of htb
    have HX:Hid (coA l id=(chA l id).map (idAt l)):=hide (by rw [coA,htb,if_pos rfl])
    obtain ⟨Bs,lm⟩:=hlm htb
    have lm2:=lm.below b2 (Nat.le_refl _)
    have HA:=hide (treeAt_any (.slice ta tn tc) Bs ((l.take l.length).map (·.id)) id w2 (fun U hU=>(lm2.below hU (Nat.le_refl _)).rdP) (ids_asc (Nat.le_refl _) (tree_asc ht)) (by have:=lm.len;have:=ht.1;omega))
    have Hlm:=hide lm2
    have Ht:=hide ht
    have HB2:=hide hB2
    clear hlm htb HT b2 k2 lm lm2 ht hB2
    go_wp2_with fail
    refine HA.out.mono ?_
    rintro e w3 ⟨x,rfl,hx,hb3⟩
    obtain ⟨C,hp,hC⟩:=lm_chain Ht.out Hlm.out.len hx
    have hCl:=chA_len Ht.out id
    have hl4:=Ht.out.1
    have HC:=hide (chain_any l Bs (.slice ta tn tc) x C w.heap.size w3 Ht.out (Hlm.out.below hb3 (Nat.le_refl _)) hp (by rw [<- hC] at hCl;simp at hCl;omega))
    have HE:Hid (C.reverse.map (idAt l)=coA l id):=hide (by rw [HX.out,hC])
    have HB3:=hide (HB2.out.trans (hb3.mono HB2.out.size))
    clear hp hC hCl hl4 hx hb3 HA
    go_wp2_with fail
    refine HC.out.mono ?_
    rintro e w4 ⟨v4,rfl,ho4,hb4⟩
    have HO4:Hid (OwnI w.heap.size w4 v4 (coA l id)):=hide (by rw [<- HE.out];exact ho4.mono HB3.out.size)
    have HB4:=hide (HB3.out.trans (hb4.mono HB3.out.size))
    clear ho4 hb4
    go_wp2
    go_ret
    exact ⟨_,rfl,HO4.out,HB4.out⟩
def pk (b off:Nat) (i:Nat):Value:=.pointer (some ⟨b,off+i * 14,none⟩)
def OwnQ (base:Nat) (w:World) (v:Value) (b off:Nat) (C:List Nat):Prop:=w.ownsRow base 120 1 v C.length (C.map (pk b off))
theorem OwnQ.below {B base:Nat} {w w':World} {v:Value} {b off:Nat} {C:List Nat} (h:OwnQ base w v b off C) (hb:Below B w w') (hB:w.heap.size<=B):OwnQ base w' v b off C:=row_below h hb hB
theorem OwnQ.shape {base:Nat} {w:World} {v:Value} {b off:Nat} {C:List Nat} (h:OwnQ base w v b off C):∃ a c,v=.slice a C.length c:=own_shape h
theorem OwnQ.cell {base:Nat} {w:World} {a:Option Addr} {c n:Nat} {b off:Nat} {C:List Nat} (h:OwnQ base w (.slice a n c) b off C) {k:Nat} (hk:k < C.length):∃ g,a=some ⟨g,0,none⟩/\w.cell? ⟨g,k,none⟩=some (pk b off C[k]):=by
  rcases h.2 with ⟨hv,hn⟩ | ⟨g,cap,cur,hv,hbb,hg,r⟩
  · omega
  · have h':=h
    unfold OwnQ at h'
    rw [hv] at h'
    simp only [Value.slice.injEq] at hv
    refine ⟨g,hv.1,?_⟩
    rw [h'.cellAt k (by omega)]
    simp [hk]
theorem Tryz.infoPq:(Tryz.prog.info? 120).map (fun i=>(i.zero,i.size,i.bytes))=some (some (.pointer none),1,8):=by kernel_rfl
theorem app_ownQ {ops:Array Oper} {rest:List Oper} {o:Oper} {a:Act} {Q:Exit->Act->World->Prop} (w:World) (hgd:o.guard=none) (s x:Operand)
    (ho:o.op=.call { callee:=.builtin .append,args:=#[s,x],argTypes:=#[126,126] })
    (base:Nat) (v:Value) (G b off:Nat) (C:List Nat) (i:Nat) (hs:a.eval s=v) (hx:a.eval x=.slice (some ⟨G,0,none⟩) 1 1) (hown:OwnQ base w v b off C) (hblk:Blk w G 120 [pk b off i])
    (hlen:C.length<=10000000) (hbase:base<=w.heap.size)
    (h:∀ v' w',OwnQ base w' v' b off (C ++ [i])->w.grownBy w' v.ownBlock->Below base w w'->wpList Tryz.prog ops Q rest (a.put o.dst v') w'):wpList Tryz.prog ops Q (o :: rest) a w:=by
  obtain ⟨i0,hi,hz0,hz1,hz2⟩:=info_parts Tryz.infoPq
  refine wpList_append_own w hgd s x 126 ho base 120 i0 (.pointer none) 1 8 Tryz.underlying126 hi hz0 hz1 hz2 rfl (by decide) v C.length (C.map (pk b off)) hs hown ⟨G,0,none⟩ 1 1 [pk b off i] hx rfl (fun j u hj=>by rw [add_flatP,Nat.zero_add,hblk.cell j];exact hj) (fun u hu=>by
    simp only [List.mem_cons,List.not_mem_nil,or_false] at hu
    subst hu;rfl) (by unfold maxLen;omega) (by omega) hbase ?_
  intro v' w' ho' hg _
  refine h v' w' ?_ hg ((Below.refl _ _).grown hg hbase (fun k hk=>(World.ownsRow.lt hown k hk).1))
  unfold OwnQ
  simpa using ho'
theorem chainBlocks_any (l:List Bk) (a:Option Addr) (cap:Nat) (id:Int) (w:World) (hr:RdKs w (.slice a l.length cap) l) (hl:l.length<=4000000) (hf:∀ b ∈ l,FewK b) (hbd:∀ b ∈ l,-9223372036854775808<=b.tr/\b.tr<=9223372036854775807) :
    Calls Tryz.prog 66 #[.slice a l.length cap,.int .i64 id] w fun e w'=>∃ v b off,e=.returned v/\OwnQ w.heap.size w' v b off (chT l id)/\(0 < (chT l id).length->a=some ⟨b,off,none⟩)/\Below w.heap.size w w':=by
  obtain ⟨b,off,hab⟩:∃ b off,0 < l.length->a=some ⟨b,off,none⟩:=by
    by_cases h0:0 < l.length
    · obtain ⟨b,off,e,-⟩:=hr.parts9 h0
      exact ⟨b,off,fun _=>e⟩
    · exact ⟨0,0,fun h=>absurd h h0⟩
  have HC:=hide (implChainOf_any _ l id w hr hl hf hbd)
  have HF:=hide (fun x V (hV:Below w.heap.size w V)=>firstOf_any l a cap x V (hr.below hV (Nat.le_refl _)) hl)
  rw [chT_co] at HC
  have hcl:=chT_len l id
  have Hat:=hide (chT_at l id)
  have Hclt:=hide (chT_lt l id)
  have HA:Hid (0 < (chT l id).length->a=some ⟨b,off,none⟩):=hide (fun h=>hab (by omega))
  have Hab:=hide hab
  clear hr hf hbd hab
  generalize chT l id=C at HC hcl Hat Hclt HA ⊢
  go_enter Tryz.func66,Tryz.ntmps66
  go_wp2_with fail
  refine HC.out.mono ?_
  rintro e w1 ⟨cv,rfl,oc,hb1⟩
  obtain ⟨ca,cc,rfl⟩:=oc.rd.shape
  have hlc:(C.map (idAt l)).length=C.length:=by simp
  rw [hlc] at oc ⊢
  have Hoc:=hide oc
  clear oc HC
  go_wp2
  go_loopw [12,5] (fun iv ov wr=>∃ k:Nat,k<=C.length/\iv=.int .i64 (k:Int)/\OwnQ w.heap.size wr ov b off (C.take k)/\Below w.heap.size w wr/\OwnI w.heap.size wr (.slice ca C.length cc) (C.map (idAt l))) (fun iv _ _=>C.length - (intOf iv).toNat)
  case atStart=>exact ⟨0,Nat.zero_le _,rfl,World.ownsRow_nil _ _ _ _,hb1,Hoc.out⟩
  case round =>
    clear Hoc hb1
    obtain ⟨k,hk,rfl,ho,hb,hoc⟩:=hrel
    obtain ⟨oa,occ,rfl⟩:=ho.shape
    have hln:(C.take k).length=k:=by simp;omega
    by_cases hlt:k < C.length
    · obtain ⟨b2,off2,rfl,h32,cc0⟩:=RdI.cellI hoc.rd (by simp) (k:=k) (by simpa using hlt)
      rw [List.getElem_map] at cc0
      have hCk:=Hclt.out C[k] (List.getElem_mem hlt)
      have HFk:=hide (HF.out (idAt l C[k]) wr hb)
      have HAk:=hide (Hat.out C[k] (List.getElem_mem hlt))
      have HY:Hid (C.take k ++ [C[k]]=C.take (k+1)):=hide (by rw [List.take_succ_eq_append_getElem hlt])
      have Hap:=hide (rows_apart (w:=wr) hoc ho (by decide))
      have Ho:=hide ho
      have Hoc:=hide hoc
      have Hb:=hide hb
      rw [hln] at Hap ⊢
      have hln2:(C.take k).length<=10000000:=by omega
      have Hln:=hide hln
      clear ho hoc hln
      generalize idAt l C[k]=d at cc0 HFk HAk
      generalize C[k]=j at HY HAk hCk
      have hki:(k:Int) < (C.length:Int):=by omega
      have hk0:(0:Int)<=(k:Int):=by omega
      go_wp2_with fail
      refine HFk.out.mono ?_
      rintro e w2 ⟨hcase,rfl⟩
      rcases hcase with ⟨hneg,-⟩ | ⟨k9,b9,off9,hk9,hkl9,ha9,rfl⟩
      · exfalso
        have:=HAk.out
        omega
      · have e9:k9=j:=by have:=HAk.out;omega
        subst e9
        have e8:=(Hab.out (by omega)).symm.trans ha9
        simp only [Option.some.injEq,Addr.mk.injEq,and_true] at e8
        clear ha9
        obtain ⟨rfl,rfl⟩:=e8
        obtain ⟨w4,hw4⟩:∃ x,w2.alloc (.cells #[.pointer (some ⟨b,off+k9 * 14,none⟩)] 120)=x:=⟨_,rfl⟩
        have b4:Below w2.heap.size w2 w4:=by rw [<- hw4];exact (Below.refl _ w2).alloc (Nat.le_refl _) _
        have K4:Hid (Blk w4 w2.heap.size 120 [pk b off k9]):=hide (by rw [<- hw4];exact Blk.new w2 _ _)
        have HB4:=hide (Hb.out.trans (b4.mono Hb.out.size))
        have HO4:=hide (Ho.out.below b4 (Nat.le_refl _))
        have HC4:=hide (Hoc.out.below b4 (Nat.le_refl _))
        clear b4 Ho Hoc Hb
        rw [Hln.out] at HO4
        go_wp2_with (at_builtin;(try rw [hw4]);refine app_ownQ w4 rfl _ _ rfl w.heap.size (.slice oa k occ) w2.heap.size b off (C.take k) k9 rfl rfl HO4.out K4.out hln2 HB4.out.size ?_;intro v5 w5 ho5 hg5 hb5)
        have HO5:Hid (OwnQ w.heap.size w5 v5 b off (C.take (k+1))):=hide (by rw [<- HY.out];exact ho5)
        have HC5:=hide (HC4.out.kept hg5 (by
          cases ho:(Value.slice oa k occ).ownBlock with
          | none=>right;simp [Value.ownBlock]
          | some g=>right;exact Hap.out g ho))
        go_roundw
        case rel=>exact ⟨k+1,by omega,by go_num,HO5.out,HB4.out.trans hb5,HC5.out⟩
        case measure=>simp [intOf];omega
    · obtain rfl:k=C.length:=by omega
      rw [List.take_length] at ho
      have Ho:=hide ho
      clear ho hoc hln
      simp only [List.take_length]
      go_wp2
      go_ret
      exact ⟨_,b,off,rfl,Ho.out,HA.out,hb⟩
theorem ledgerBehind_any (e:Int) (v vq:Value) (z:List Ac) (l:List Bk) (al:Option Addr) (cl b off base:Nat) (C:List Nat) (w:World) (hgh:Gh w) (hr:RdA w v z) (hrl:RdKs w (.slice al l.length cl) l) (hq:OwnQ base w vq b off C) (ha:0 < C.length->al=some ⟨b,off,none⟩) (hclt0:∀ x ∈ C,x < l.length) (hcl:C.length<=4000000) (hz:z.length<=3999999) (hall:∀ a ∈ z,a.1.size<=maxLen/\a.2.2.2.2.length<=3999999) (hf:∀ b ∈ l,FewK b) :
    Calls Tryz.prog 70 #[lgV e v,vq] w fun en w'=>∃ v',en=.returned (lgV e v')/\OwnA w.heap.size w' v' (foL e z l C)/\Below w.heap.size w w':=by
  obtain ⟨av,cv,rfl⟩:=hr.shape
  have hall2:∀ a ∈ z,a.2.2.2.2.length<=4000000:=fun a ha=>by have:=hall a ha;omega
  have Hfew:=hide (fun k C=>foL_few (e:=e) l (List.take k C) z hz hall)
  simp only [lgV] at *
  obtain ⟨w2,hw2⟩:∃ w2,(w.alloc (.cells #[.int .i64 e,.slice av z.length cv] 26)).alloc (.cells #[.int .i64 0,.slice none 0 0] 26)=w2:=⟨_,rfl⟩
  have hs2:w2.heap.size=w.heap.size+2:=by rw [<- hw2];simp
  have hb2:Below w.heap.size w w2:=by rw [<- hw2];exact ((Below.refl _ w).alloc (Nat.le_refl _) _).alloc (by simp) _
  have kA:Blk w2 w.heap.size 26 [.int .i64 e,.slice av z.length cv]:=by
    rw [<- hw2]
    exact (Blk.new w 26 [.int .i64 e,.slice av z.length cv]).below ((Below.refl (w.heap.size+1) _).alloc (by simp) _) (by omega)
  have kR:Blk w2 (w.heap.size+1) 26 [.int .i64 0,.slice none 0 0]:=by
    rw [<- hw2]
    have h:=Blk.new (w.alloc (.cells #[.int .i64 e,.slice av z.length cv] 26)) 26 [.int .i64 0,.slice none 0 0]
    simp only [World.size_alloc] at h
    exact h
  have HC:=hide (implCopiedLg_any e (.slice av z.length cv) z w2 (hr.below hb2 (Nat.le_refl _)) (by omega) hall2)
  simp only [lgV] at HC
  have Hf:=hide hf
  have Hb2:=hide hb2
  have KR:=hide kR
  have c0:=kA.cell 0
  have c1:=kA.cell 1
  simp only [List.getElem?_cons_zero,List.getElem?_cons_succ] at c0 c1
  obtain ⟨qa,qc,rfl⟩:=hq.shape
  have Hrl:=hide hrl
  have Hq:=hide hq
  have Ha:=hide ha
  have Hclt:=hide hclt0
  have Hgh:=hide hgh
  clear hq ha hclt0 hgh
  clear hr hrl hf hall hall2 hb2 kA kR
  go_enter Tryz.func70,Tryz.ntmps70
  go_wp2_with fail
  refine HC.out.mono ?_
  rintro en w3 ⟨v3,rfl,o3,hb3⟩
  obtain ⟨a3,c3,rfl⟩:=o3.rd.shape
  obtain ⟨w4,hw4⟩:∃ w4,w3.alloc (.cells #[.int .i64 e,.slice a3 z.length c3] 26)=w4:=⟨_,rfl⟩
  have b4:Below w3.heap.size w3 w4:=by rw [<- hw4];exact (Below.refl _ w3).alloc (Nat.le_refl _) _
  have k4:Blk w4 w3.heap.size 26 [.int .i64 e,.slice a3 z.length c3]:=by rw [<- hw4];exact Blk.new w3 _ _
  have s4:w4.heap.size=w3.heap.size+1:=by rw [<- hw4];simp
  have x4:=o3.ox.below b4 (Nat.le_refl _)
  have hB4:=hb3.trans (b4.mono hb3.size)
  have hz3:=hb3.size
  clear o3 hb3 b4 c0 c1 hw2 HC
  have K5:=hide k4
  have X5:=hide x4
  have B5:=hide hB4
  clear k4 x4 hB4
  go_wp2
  go_loopw [12] (fun iv wr=>∃ (i:Nat) (a:Option Addr) (c base hi:Nat),i<=C.length/\iv=.int .i64 (i:Int)/\Blk wr w3.heap.size 26 [.int .i64 e,.slice a (foL e z l (C.take i)).length c]/\OwnX base hi wr (.slice a (foL e z l (C.take i)).length c) (foL e z l (C.take i))/\w2.heap.size<=base/\(w3.heap.size < base\/hi<=w3.heap.size)/\Below w2.heap.size w2 wr) (fun iv _=>C.length - (intOf iv).toNat)
  case atStart=>exact ⟨0,a3,c3,w2.heap.size,w3.heap.size,by omega,rfl,K5.out,X5.out,Nat.le_refl _,.inr (Nat.le_refl _),B5.out⟩
  case round =>
    obtain ⟨i,a,c,base,hi,hi1,rfl,kO,x,hbase,hdis,hb⟩:=hrel
    clear K5 X5 B5 hw4
    have hwr:=hb.size
    have hO:=kO.lt
    have hBw:=Hb2.out.trans (hb.mono Hb2.out.size)
    have few:=Hfew.out i C
    by_cases hlt:i < C.length
    · have Hsn:=hide (foL_snoc e z l C i hlt)
      have hCk:=Hclt.out C[i] (List.getElem_mem hlt)
      obtain ⟨gq,rfl,cc0⟩:=Hq.out.cell hlt
      obtain rfl:=Ha.out (by omega)
      obtain ⟨b9,off9,e9,h3,hcell⟩:=Hrl.out.parts9 (by omega)
      simp only [Option.some.injEq,Addr.mk.injEq,and_true] at e9
      obtain ⟨rfl,rfl⟩:=e9
      obtain ⟨lv,hat,hrk⟩:=hcell C[i] hCk
      have hqlt:=(World.ownsRow.lt Hq.out gq rfl).2
      replace cc0:=(hBw.cell (p:=⟨gq,i,none⟩) hqlt).trans cc0
      have hfk:=Hf.out l[C[i]] (List.getElem_mem hCk)
      have ct:=(hat.below hBw h3).cells.2.2.2.2.2.2.2.2.2.2.1
      have hrt:=hrk.t
      obtain ⟨ta,tc,hte⟩:=hrt.shape
      rw [hte] at ct hrt
      rw [tsAt_eq hCk] at Hsn
      generalize foL e z l (C.take i)=P at kO x few Hsn
      have HAl:Hid (∀ V,Below wr.heap.size wr V->Calls Tryz.prog 10 #[.agg #[.int .i64 e,.slice a P.length c],.slice ta l[C[i]].ts.length tc] V fun en w'=>∃ v',en=.returned (.tuple #[.agg #[.int .i64 e,v'],.int .i64 ((alA e P l[C[i]].ts).2:Int)])/\OwnA V.heap.size w' v' (alA e P l[C[i]].ts).1/\Below wr.heap.size wr w'/\wr.heap.size<=V.heap.size):=hide (fun V hV=>(implAll_any e (.slice a P.length c) (.slice ta l[C[i]].ts.length tc) P l[C[i]].ts V (Hgh.out.below (hBw.trans (hV.mono hBw.size))) (x.rd.below hV (Nat.le_refl _)) (hrt.below (hBw.trans (hV.mono hBw.size)) (Nat.le_refl _)) few.1 few.2 hfk.t hfk.ts).mono (fun en w' ⟨v',h1,h2,h3⟩=>⟨v',h1,h2,hV.trans (h3.mono hV.size),hV.size⟩))
      have d0:=kO.cell 0
      have d1:=kO.cell 1
      simp only [List.getElem?_cons_zero,List.getElem?_cons_succ] at d0 d1
      have KO:=hide kO
      have Hb:=hide hb
      have hki:(i:Int) < (C.length:Int):=by omega
      have hk0:(0:Int)<=(i:Int):=by omega
      generalize l[C[i]].ts=ts at HAl ct Hsn hrt
      generalize C[i]=j at cc0 ct hCk
      simp only [pk] at cc0
      generalize hAA:alA e P ts=AA at HAl Hsn
      obtain ⟨A,nA⟩:=AA
      simp only at HAl Hsn
      have hji:(j:Int) < (l.length:Int):=by omega
      have hj0:(0:Int)<=(j:Int):=by omega
      clear hAA hat hrk hcell hfk hte hrt kO x few hb hBw
      go_upto_region 5 with fail
      go_region_law ((go_simp;go_at_call 10;refine (HAl.out _ (by first | exact Below.refl _ _ | exact (Below.refl _ _).drew)).mono ?_;rintro en wA ⟨vA,rfl,oA,bA,zA⟩;have hsh:=oA.rd.shape;obtain ⟨aA,cA,hvA⟩:=hsh;subst hvA;have kA:=KO.out.below bA KO.out.lt;have q0:=kA.cell 0;have q1:=kA.cell 1;have f0:=kA.frozen 0;have f1:=kA.frozen 1;simp only [List.getElem?_cons_zero,List.getElem?_cons_succ] at q0 q1))
      all_goals
        have kN:=(kA.set 0 (.int .i64 e)).set 1 (.slice aA A.length cA)
        have oN:=(oA.older (g:=w3.heap.size) (by omega) 0 (.int .i64 e)).older (g:=w3.heap.size) (by omega) 1 (.slice aA A.length cA)
        have bN:=((Hb.out.trans (bA.mono hwr)).setCell (p:=⟨w3.heap.size,0,none⟩) (show w2.heap.size<=w3.heap.size by omega) (.int .i64 e)).setCell (p:=⟨w3.heap.size,1,none⟩) (show w2.heap.size<=w3.heap.size by omega) (.slice aA A.length cA)
        simp only [List.set_cons_zero,List.set_cons_succ] at kN
        have KN:=hide kN
        have XN:=hide oN.ox
        have BN:=hide bN
        clear kA kN oA oN bA bN
        go_wp2
        go_roundw
        case rel=>exact ⟨i+1,aA,cA,_,_,by omega,by go_num,by rw [Hsn.out];exact KN.out,by rw [Hsn.out];exact XN.out,by omega,.inl (by omega),BN.out⟩
        case measure=>simp [intOf];omega
    · obtain rfl:i=C.length:=by omega
      rw [List.take_length] at kO x
      have d0:=kO.cell 0
      have d1:=kO.cell 1
      simp only [List.getElem?_cons_zero,List.getElem?_cons_succ] at d0 d1
      have kR:=KR.out.below hb KR.out.lt
      have r0:=kR.cell 0
      have r1:=kR.cell 1
      have g0:=kR.frozen 0
      have g1:=kR.frozen 1
      simp only [List.getElem?_cons_zero,List.getElem?_cons_succ] at r0 r1
      have HBx:=hide ((hBw.setCell (p:=⟨w.heap.size+1,0,none⟩) (show w.heap.size<=w.heap.size+1 by omega) (.int .i64 e)).setCell (p:=⟨w.heap.size+1,1,none⟩) (show w.heap.size<=w.heap.size+1 by omega) (.slice a (foL e z l C).length c))
      have HOx:=hide (((x.own.older (g:=w.heap.size+1) (by omega) 0 (.int .i64 e)).older (g:=w.heap.size+1) (by omega) 1 (.slice a (foL e z l C).length c)).mono (show w.heap.size<=_ by omega))
      clear kO x kR hb hBw few
      obtain ⟨P,hP⟩:∃ P,foL e z l C=P:=⟨_,rfl⟩
      rw [hP] at d1 HBx HOx
      have HPe:=hide hP
      clear hP
      go_wp2
      refine bodyPost_ret (v:=.agg #[.int .i64 e,.slice a P.length c]) (by simp [results,Tryz.f70,go_sem,r0,r1]) rfl ?_
      exact ⟨_,rfl,by rw [HPe.out];exact HOx.out,HBx.out⟩
theorem implLedgerAt_any (e:Int) (v vl:Value) (z:List Ac) (l:List Bk) (id:Int) (w:World) (hgh:Gh w) (hr:RdA w v z) (hrl:RdKs w vl l) (hz:z.length<=3999999) (hall:∀ a ∈ z,a.1.size<=maxLen/\a.2.2.2.2.length<=3999999) (hl:l.length<=4000000) (hf:∀ b ∈ l,FewK b) (hbd:∀ b ∈ l,-9223372036854775808<=b.tr/\b.tr<=9223372036854775807) :
    Calls Tryz.prog 22 #[lgV e v,vl,.int .i64 id] w fun en w'=>∃ v',en=.returned (.tuple #[lgV e v',.bool (laA e z l id).2])/\OwnA w.heap.size w' v' (laA e z l id).1/\Below w.heap.size w w':=by
  obtain ⟨av,cv,rfl⟩:=hr.shape
  obtain ⟨al,cl,rfl⟩:=hrl.shape
  have hall2:∀ a ∈ z,a.2.2.2.2.length<=4000000:=fun a ha=>by have:=hall a ha;omega
  obtain ⟨w2,hw2⟩:∃ w2,(w.alloc (.cells #[.int .i64 e,.slice av z.length cv] 26)).alloc (.cells #[.int .i64 0,.slice none 0 0] 26)=w2:=⟨_,rfl⟩
  have hs2:w2.heap.size=w.heap.size+2:=by rw [<- hw2];simp
  have hb2:Below w.heap.size w w2:=by rw [<- hw2];exact ((Below.refl _ w).alloc (Nat.le_refl _) _).alloc (by simp) _
  have kA:Blk w2 w.heap.size 26 [.int .i64 e,.slice av z.length cv]:=by
    rw [<- hw2]
    exact (Blk.new w 26 [.int .i64 e,.slice av z.length cv]).below ((Below.refl (w.heap.size+1) _).alloc (by simp) _) (by omega)
  have kR:Blk w2 (w.heap.size+1) 26 [.int .i64 0,.slice none 0 0]:=by
    rw [<- hw2]
    have h:=Blk.new (w.alloc (.cells #[.int .i64 e,.slice av z.length cv] 26)) 26 [.int .i64 0,.slice none 0 0]
    simp only [World.size_alloc] at h
    exact h
  have HC:=hide (fun V (hV:Below w.heap.size w V)=>implCopiedLg_any e (.slice av z.length cv) z V (hr.below hV (Nat.le_refl _)) (by omega) hall2)
  have HQ:=hide (fun V (hV:Below w.heap.size w V)=>chainBlocks_any l al cl id V (hrl.below hV (Nat.le_refl _)) hl hf hbd)
  have hcl:=chT_len l id
  have HL:=hide (fun (vq:Value) (b off base:Nat) V (hV:Below w.heap.size w V) hq ha=>ledgerBehind_any e (.slice av z.length cv) vq z l al cl b off base (chT l id) V (hgh.below hV) (hr.below hV (Nat.le_refl _)) (hrl.below hV (Nat.le_refl _)) hq ha (chT_lt l id) (by omega) hz hall hf)
  have HP:Hid (∀ (P:List Ac) (q:Bool),laA e z l id=(P,q)->∀ v' w',OwnA w.heap.size w' v' P->Below w.heap.size w w'->∃ v'',(Ending.returned (.tuple #[.agg #[.int .i64 e,v'],.bool q])=.returned (.tuple #[.agg #[.int .i64 e,v''],.bool (laA e z l id).2]))/\OwnA w.heap.size w' v'' (laA e z l id).1/\Below w.heap.size w w'):=hide (fun P q h v' w' ho hb=>⟨v',by rw [h],by rw [h];exact ho,hb⟩)
  simp only [lgV] at HC HL ⊢
  have KR:=hide kR
  have KA:=hide kA
  have Hb2:=hide hb2
  have c0:=kA.cell 0
  have c1:=kA.cell 1
  simp only [List.getElem?_cons_zero,List.getElem?_cons_succ] at c0 c1
  clear hr hrl hall hall2 hf hbd hb2 kA kR hgh
  by_cases hid:id=-1
  · subst hid
    go_enter Tryz.func22,Tryz.ntmps22
    go_wp2_with fail
    refine (HC.out w2 Hb2.out).mono ?_
    rintro en w3 ⟨v3,rfl,o3,hb3⟩
    have hB3:=Hb2.out.trans (hb3.mono Hb2.out.size)
    have kR3:=KR.out.below hb3 KR.out.lt
    clear c0 c1
    have r0:=kR3.cell 0
    have r1:=kR3.cell 1
    have g0:=kR3.frozen 0
    have g1:=kR3.frozen 1
    simp only [List.getElem?_cons_zero,List.getElem?_cons_succ] at r0 r1
    obtain ⟨aN,cN,hvN⟩:=o3.rd.shape
    subst hvN
    have HBx:=hide ((hB3.setCell (p:=⟨w.heap.size+1,0,none⟩) (show w.heap.size<=w.heap.size+1 by omega) (.int .i64 e)).setCell (p:=⟨w.heap.size+1,1,none⟩) (show w.heap.size<=w.heap.size+1 by omega) (.slice aN z.length cN))
    have HOx:=hide (((o3.older (g:=w.heap.size+1) (by omega) 0 (.int .i64 e)).older (g:=w.heap.size+1) (by omega) 1 (.slice aN z.length cN)).mono (show w.heap.size<=_ by omega))
    have HE:=hide (show laA e z l (-1)=(z,true) from by unfold laA;rw [if_pos rfl])
    clear o3
    go_wp2
    refine bodyPost_ret (v:=.tuple #[.agg #[.int .i64 e,.slice aN z.length cN],.bool (true)]) (by simp [results,Tryz.f22,go_sem,r0,r1]) rfl ?_
    exact HP.out z (true) HE.out _ _ HOx.out HBx.out
  · have hq:(id == -1)=false:=by rw [beq_eq_false_iff_ne];exact hid
    have Hid1:=hide hid
    clear hid
    go_enter Tryz.func22,Tryz.ntmps22
    go_wp2_with fail
    refine (HQ.out w2 Hb2.out).mono ?_
    rintro en w3 ⟨v3,b,off,rfl,hoq,haq,hb3⟩
    have hB3:=Hb2.out.trans (hb3.mono Hb2.out.size)
    have kR3:=KR.out.below hb3 KR.out.lt
    have kA3:=KA.out.below hb3 KA.out.lt
    have s3:=hb3.size
    have HLq:=hide (HL.out v3 b off _ w3 hB3 hoq haq)
    have HF:=hide (laA_ch (e:=e) (z:=z) (l:=l) Hid1.out)
    obtain ⟨oa,oc,rfl⟩:=hoq.shape
    clear c0 c1 hoq haq HL
    have c0:=kA3.cell 0
    have c1:=kA3.cell 1
    simp only [List.getElem?_cons_zero,List.getElem?_cons_succ] at c0 c1
    generalize chT l id=C at HLq HF hcl ⊢
    go_wp2_with fail
    refine HLq.out.mono ?_
    rintro en w5 ⟨v5,rfl,o5,hb5⟩
    have hB5:=hB3.trans (hb5.mono hB3.size)
    have kR5:=kR3.below hb5 kR3.lt
    clear c0 c1 HLq
    have HF2:Hid (laA e z l id=(foL e z l C,decide (0 < (C.length:Int)))):=hide (by
      rw [HF.out]
      by_cases h:0 < C.length
      · rw [decide_eq_true h,decide_eq_true (by omega)]
      · rw [decide_eq_false h,decide_eq_false (by omega)])
    have r0:=kR5.cell 0
    have r1:=kR5.cell 1
    have g0:=kR5.frozen 0
    have g1:=kR5.frozen 1
    simp only [List.getElem?_cons_zero,List.getElem?_cons_succ] at r0 r1
    obtain ⟨aN,cN,hvN⟩:=o5.rd.shape
    subst hvN
    have HBx:=hide ((hB5.setCell (p:=⟨w.heap.size+1,0,none⟩) (show w.heap.size<=w.heap.size+1 by omega) (.int .i64 e)).setCell (p:=⟨w.heap.size+1,1,none⟩) (show w.heap.size<=w.heap.size+1 by omega) (.slice aN (foL e z l C).length cN))
    have HOx:=hide (((o5.older (g:=w.heap.size+1) (by omega) 0 (.int .i64 e)).older (g:=w.heap.size+1) (by omega) 1 (.slice aN (foL e z l C).length cN)).mono (show w.heap.size<=_ by omega))
    have HE:=hide (show laA e z l id=((foL e z l C),decide (0 < (C.length:Int))) from HF2.out)
    clear o5
    generalize (foL e z l C)=PP at HBx HOx HE ⊢
    go_wp2
    refine bodyPost_ret (v:=.tuple #[.agg #[.int .i64 e,.slice aN PP.length cN],.bool (decide (0 < (C.length:Int)))]) (by simp [results,Tryz.f22,go_sem,r0,r1]) rfl ?_
    exact HP.out PP (decide (0 < (C.length:Int))) HE.out _ _ HOx.out HBx.out
def bk0:Bk:=⟨0,0,0,⟨#[]⟩,0,0,[],0,[],[],[],false,[],⟨#[]⟩⟩
def bv0:Bv:=⟨.slice none 0 0,.slice none 0 0,.slice none 0 0,.slice none 0 0,.slice none 0 0⟩
theorem own_bk0 (base:Nat) (w:World):OwnK base w bk0 bv0:=⟨World.ownsRow_nil _ _ _ _,World.ownsRow_nil _ _ _ _,World.ownsRow_nil _ _ _ _,World.ownsRow_nil _ _ _ _,World.ownsRow_nil _ _ _ _⟩
def baK (l:List Bk) (id:Int):Bk:=if 0<=atI l id then (l[(atI l id).toNat]?).getD bk0 else bk0
theorem baK_yes {l:List Bk} {id:Int} {k:Nat} (hk:k < l.length) (e:atI l id=(k:Int)):baK l id=l[k]:=by rw [baK,e,if_pos (by omega)];simp [hk]
theorem baK_no {l:List Bk} {id:Int} (e:atI l id < 0):baK l id=bk0:=by rw [baK,if_neg (by omega)]
def BaP (w w':World) (l:List Bk) (id:Int) (e:Ending):Prop:=∃ v',e=.returned (.tuple #[bkV (baK l id) v',.bool (decide (0<=atI l id))])/\OwnK w.heap.size w' (baK l id) v'/\(∀ g,v'.q.ownBlock=some g->v'.w.ownBlock ≠ some g)/\Below w.heap.size w w'
theorem implBlockAt_any (v:Value) (l:List Bk) (id:Int) (w:World) (hr:RdKs w v l) (hl:l.length<=4000000) (hf:∀ b ∈ l,FewK b) :
    Calls Tryz.prog 18 #[v,.int .i64 id] w fun e w'=>BaP w w' l id e:=by
  obtain ⟨a,cap,rfl⟩:=hr.shape
  obtain ⟨S0,hS0⟩:∃ x,w.alloc (.cells #[.int .i64 0,.int .i64 0,.int .i64 0,.string { data:=#[] },.int .i64 0,.int .i64 0,.slice none 0 0,.int .i64 0,.slice none 0 0,.slice none 0 0,.slice none 0 0,.bool false,.slice none 0 0,.string { data:=#[] }] 50)=x:=⟨_,rfl⟩
  have b0:Below w.heap.size w S0:=by rw [<- hS0];exact (Below.refl _ w).alloc (Nat.le_refl _) _
  have k0:Blk S0 w.heap.size 50 [.int .i64 0,.int .i64 0,.int .i64 0,.string { data:=#[] },.int .i64 0,.int .i64 0,.slice none 0 0,.int .i64 0,.slice none 0 0,.slice none 0 0,.slice none 0 0,.bool false,.slice none 0 0,.string { data:=#[] }]:=by rw [<- hS0];exact Blk.new w _ _
  have HA:=hide (firstOf_any l a cap id S0 (hr.below b0 (Nat.le_refl _)) hl)
  have HK:=hide k0
  have HB:=hide b0
  have Hr:=hide hr
  have Hf:=hide hf
  clear hr hf k0 b0
  go_enter Tryz.func18,Tryz.ntmps18
  go_wp2_with fail
  (try rw [hS0])
  refine HA.out.mono ?_
  rintro e w1 ⟨hcase,rfl⟩
  rcases hcase with ⟨hneg,rfl⟩ | ⟨k,b,off,hk,hkl,rfl,rfl⟩
  · have HX:=hide (baK_no hneg)
    have HD:Hid (decide (0<=atI l id)=false):=hide (by rw [decide_eq_false_iff_not];omega)
    clear hneg
    have e0:=HK.out.cell 0
    have f0:=HK.out.frozen 0
    have e1:=HK.out.cell 1
    have f1:=HK.out.frozen 1
    have e2:=HK.out.cell 2
    have f2:=HK.out.frozen 2
    have e3:=HK.out.cell 3
    have f3:=HK.out.frozen 3
    have e4:=HK.out.cell 4
    have f4:=HK.out.frozen 4
    have e5:=HK.out.cell 5
    have f5:=HK.out.frozen 5
    have e6:=HK.out.cell 6
    have f6:=HK.out.frozen 6
    have e7:=HK.out.cell 7
    have f7:=HK.out.frozen 7
    have e8:=HK.out.cell 8
    have f8:=HK.out.frozen 8
    have e9:=HK.out.cell 9
    have f9:=HK.out.frozen 9
    have e10:=HK.out.cell 10
    have f10:=HK.out.frozen 10
    have e11:=HK.out.cell 11
    have f11:=HK.out.frozen 11
    have e12:=HK.out.cell 12
    have f12:=HK.out.frozen 12
    have e13:=HK.out.cell 13
    have f13:=HK.out.frozen 13
    simp only [List.getElem?_cons_zero,List.getElem?_cons_succ] at e0 e1 e2 e3 e4 e5 e6 e7 e8 e9 e10 e11 e12 e13
    have FB:=hide (HB.out.trans (below_put14 w1 w.heap.size (.int .i64 0) (.int .i64 0) (.int .i64 0) (.string { data:=#[] }) (.int .i64 0) (.int .i64 0) (.slice none 0 0) (.int .i64 0) (.slice none 0 0) (.slice none 0 0) (.slice none 0 0) (.bool false) (.slice none 0 0) (.string { data:=#[] })))
    clear HA HK
    go_wp2
    refine bodyPost_ret (v:=.tuple #[.agg #[.int .i64 0,.int .i64 0,.int .i64 0,.string { data:=#[] },.int .i64 0,.int .i64 0,.slice none 0 0,.int .i64 0,.slice none 0 0,.slice none 0 0,.slice none 0 0,.bool false,.slice none 0 0,.string { data:=#[] }],.bool false]) (by simp [results,Tryz.f18,go_sem,e0,e1,e2,e3,e4,e5,e6,e7,e8,e9,e10,e11,e12,e13]) rfl ?_
    exact ⟨bv0,by rw [HX.out,HD.out];rfl,by rw [HX.out];exact own_bk0 _ _,(fun g h=>by cases h),FB.out⟩
  · obtain ⟨b9,off9,ea,h3,hcell⟩:∃ b8 off8,(some ⟨b,off,none⟩:Option Addr)=some ⟨b8,off8,none⟩/\b8 < w.heap.size/\∀ i (h:i < l.length),∃ bv,BkAt w b8 (off8+i * 14) l[i] bv/\RdK w l[i] bv:=by
      rcases Hr.out with ⟨a',cap',e,rfl,hn⟩ | ⟨b,off,cap',h0,e,h1,h2,h3,h4⟩
      · simp at hkl
      · simp only [Value.slice.injEq] at e
        exact ⟨b,off,e.1,h3,h4⟩
    obtain ⟨rfl,rfl⟩:b=b9/\off=off9:=by simpa using ea
    have HX:=hide (baK_yes hkl hk)
    have HD:Hid (decide (0<=atI l id)=true):=hide (by rw [decide_eq_true_eq];omega)
    obtain ⟨lv,hat,hrl⟩:=hcell k hkl
    have hc9:=(hat.below HB.out h3).cells
    obtain ⟨c0,c1,c2,c3,c4,c5,c6,c7,c8,c9,c10,c11,c12,c13⟩:=hc9
    have HC:=hide (implCopiedK_any l[k] lv w1 (hrl.below HB.out (Nat.le_refl _)) (Hf.out _ (List.getElem_mem hkl)))
    have Hsh:=hide hrl.shapes9
    clear hat hrl hcell hk Hf Hr
    generalize l[k]=ak at c0 c1 c2 c3 c4 c5 c6 c7 c8 c9 c10 c11 c12 c13 HX HC Hsh
    obtain ⟨aq,cq,aw,cw,ah,ch,at_,ct,an,cn,rfl⟩:=Hsh.out
    clear Hsh
    have HX2:Hid (baK l id=ak):=HX
    obtain ⟨id',ep,rd,md,qr,qb,qw,tr,tw,th,ts,en,nx,rt⟩:=ak
    simp only [bkV] at c0 c1 c2 c3 c4 c5 c6 c7 c8 c9 c10 c11 c12 c13 HC
    go_wp2_with fail
    refine HC.out.mono ?_
    rintro e w2 ⟨v2,rfl,o2,hin,hb2⟩
    obtain ⟨aq2,cq2,aw2,cw2,ah2,ch2,at2,ct2,an2,cn2,rfl⟩:=o2.rd.shapes9
    have k2:=HK.out.below hb2 HK.out.lt
    have e0:=k2.cell 0
    have f0:=k2.frozen 0
    have e1:=k2.cell 1
    have f1:=k2.frozen 1
    have e2:=k2.cell 2
    have f2:=k2.frozen 2
    have e3:=k2.cell 3
    have f3:=k2.frozen 3
    have e4:=k2.cell 4
    have f4:=k2.frozen 4
    have e5:=k2.cell 5
    have f5:=k2.frozen 5
    have e6:=k2.cell 6
    have f6:=k2.frozen 6
    have e7:=k2.cell 7
    have f7:=k2.frozen 7
    have e8:=k2.cell 8
    have f8:=k2.frozen 8
    have e9:=k2.cell 9
    have f9:=k2.frozen 9
    have e10:=k2.cell 10
    have f10:=k2.frozen 10
    have e11:=k2.cell 11
    have f11:=k2.frozen 11
    have e12:=k2.cell 12
    have f12:=k2.frozen 12
    have e13:=k2.cell 13
    have f13:=k2.frozen 13
    simp only [List.getElem?_cons_zero,List.getElem?_cons_succ] at e0 e1 e2 e3 e4 e5 e6 e7 e8 e9 e10 e11 e12 e13
    have hsz:=HK.out.lt
    have F0:=hide ((o2.q.put14 (g:=w.heap.size) (by omega) (.int .i64 id') (.int .i64 ep) (.int .i64 rd) (.string md) (.int .i64 qr) (.int .i64 qb) (.slice aq2 qw.length cq2) (.int .i64 tr) (.slice aw2 tw.length cw2) (.slice ah2 th.length ch2) (.slice at2 ts.length ct2) (.bool en) (.slice an2 nx.length cn2) (.string rt)).mono HB.out.size)
    have F1:=hide ((o2.p.put14 (g:=w.heap.size) (by omega) (.int .i64 id') (.int .i64 ep) (.int .i64 rd) (.string md) (.int .i64 qr) (.int .i64 qb) (.slice aq2 qw.length cq2) (.int .i64 tr) (.slice aw2 tw.length cw2) (.slice ah2 th.length ch2) (.slice at2 ts.length ct2) (.bool en) (.slice an2 nx.length cn2) (.string rt)).mono HB.out.size)
    have F2:=hide ((o2.h.put14 (g:=w.heap.size) (by omega) (.int .i64 id') (.int .i64 ep) (.int .i64 rd) (.string md) (.int .i64 qr) (.int .i64 qb) (.slice aq2 qw.length cq2) (.int .i64 tr) (.slice aw2 tw.length cw2) (.slice ah2 th.length ch2) (.slice at2 ts.length ct2) (.bool en) (.slice an2 nx.length cn2) (.string rt)).mono HB.out.size)
    have F3:=hide ((o2.t.put14 (g:=w.heap.size) (by omega) (.int .i64 id') (.int .i64 ep) (.int .i64 rd) (.string md) (.int .i64 qr) (.int .i64 qb) (.slice aq2 qw.length cq2) (.int .i64 tr) (.slice aw2 tw.length cw2) (.slice ah2 th.length ch2) (.slice at2 ts.length ct2) (.bool en) (.slice an2 nx.length cn2) (.string rt)).mono HB.out.size)
    have F4:=hide ((o2.n.put14 (g:=w.heap.size) (by omega) (.int .i64 id') (.int .i64 ep) (.int .i64 rd) (.string md) (.int .i64 qr) (.int .i64 qb) (.slice aq2 qw.length cq2) (.int .i64 tr) (.slice aw2 tw.length cw2) (.slice ah2 th.length ch2) (.slice at2 ts.length ct2) (.bool en) (.slice an2 nx.length cn2) (.string rt)).mono HB.out.size)
    have FB:=hide ((HB.out.trans (hb2.mono HB.out.size)).trans (below_put14 w2 w.heap.size (.int .i64 id') (.int .i64 ep) (.int .i64 rd) (.string md) (.int .i64 qr) (.int .i64 qb) (.slice aq2 qw.length cq2) (.int .i64 tr) (.slice aw2 tw.length cw2) (.slice ah2 th.length ch2) (.slice at2 ts.length ct2) (.bool en) (.slice an2 nx.length cn2) (.string rt)))
    have Hin:=hide hin
    clear HA HK HC c0 c1 c2 c3 c4 c5 c6 c7 c8 c9 c10 c11 c12 c13 o2 hin k2 hb2
    simp only
    go_wp2
    refine bodyPost_ret (v:=.tuple #[.agg #[.int .i64 id',.int .i64 ep,.int .i64 rd,.string md,.int .i64 qr,.int .i64 qb,.slice aq2 qw.length cq2,.int .i64 tr,.slice aw2 tw.length cw2,.slice ah2 th.length ch2,.slice at2 ts.length ct2,.bool en,.slice an2 nx.length cn2,.string rt],.bool true]) (by simp [results,Tryz.f18,go_sem,e0,e1,e2,e3,e4,e5,e6,e7,e8,e9,e10,e11,e12,e13]) rfl ?_
    exact ⟨⟨_,_,_,_,_⟩,by rw [HX2.out,HD.out];rfl,by rw [HX2.out];exact ⟨F0.out,F1.out,F2.out,F3.out,F4.out⟩,Hin.out,FB.out⟩
end Go.Proofs.YtohachldbpejpaaGreatDoor
