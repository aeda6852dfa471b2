/- The landed code's NextEpoch. -/
import Derived.Test.YtohachldbpejpaaGreatDoorZbTrImpl
import Derived.Test.YtohachldbpejpaaGreatDoorZbPut
set_option maxRecDepth 20000
set_option maxHeartbeats 4000000
namespace Go.Proofs.YtohachldbpejpaaGreatDoor
open Go.RowKit
set_option linter.unusedVariables false
theorem lim_next {base:Nat} {w:World} {v:Value} {l:List Bk} {Bs:List Nat} (ht:treeP l) (h:Limbs base w v l l.length Bs) {i:Nat} (hi:i < Bs.length) (hil:i < l.length) :
    ∃ bv p,Blk w Bs[i] 207 (limC l[i] bv p)/\((p=.pointer none/\upN l i=[i])\/∃ j,∃ hj:j < Bs.length,p=ptr Bs[j]/\upN l i=i :: upN l j):=by
  obtain ⟨bv,p,k,_,r⟩:=h.at_ i hi hil
  refine ⟨bv,p,k,?_⟩
  rcases r with ⟨r,rfl⟩ | ⟨j,hj,e,rfl⟩
  · refine .inl ⟨rfl,up_root ht hil ?_⟩
    rw [root_qb r]
    exact at_low ht (by omega)
  · refine .inr ⟨j,by omega,rfl,up_step ht hil hj ?_⟩
    rw [<- e]
    exact atI_asc (tree_asc ht) (by omega)
def PtA (l:List Bk) (Bs:List Nat) (x:Value) (R:List Nat):Prop:=(x=.pointer none/\R=[])\/∃ i,∃ h:i < Bs.length,x=ptr Bs[i]/\R=upN l i
theorem chain_any (l:List Bk) (Bs:List Nat) (tv x:Value) (C:List Nat) (base:Nat) (w:World) (ht:treeP l) (hlm:Limbs base w tv l l.length Bs) (hx:PtA l Bs x C) (hC:C.length<=1000000) :
    Calls Tryz.prog 180 #[x] w fun e w'=>∃ v,e=.returned v/\OwnI w.heap.size w' v (C.reverse.map (idAt l))/\Below w.heap.size w w':=by
  have Hlm:=hide hlm
  have Hx:=hide hx
  have Ht:=hide ht
  have o1:=own_nilI w w.heap.size (Nat.le_refl _)
  have b1:Below w.heap.size w (w.alloc (.cells #[] 3)):=(Below.refl _ w).alloc (Nat.le_refl _) _
  clear hlm hx ht
  go_enter Tryz.func180,Tryz.ntmps180
  go_wp2
  go_loopw [0,3] (fun xv ov wr=>∃ (D R:List Nat),C=D ++ R/\PtA l Bs xv R/\slen ov=D.length/\OwnI w.heap.size wr ov (D.map (idAt l))/\Below w.heap.size w wr) (fun _ ov _=>C.length - slen ov)
  case atStart=>exact ⟨[],C,rfl,Hx.out,rfl,o1,b1⟩
  case round =>
    clear o1 b1
    obtain ⟨D,R,hC2,hp,hs,ho,hb⟩:=hrel
    obtain ⟨oa,oc,rfl⟩:=ho.rd.shape
    have Ho:=hide ho
    have HC2:=hide hC2
    have hln:(D.map (idAt l)).length=D.length:=by simp
    rw [hln] at Ho ⊢
    clear ho hs hC2 hln
    rcases hp with ⟨rfl,hR⟩ | ⟨i,hi,rfl,hR⟩
    · have HD:Hid (C=D):=hide (by rw [HC2.out,hR,List.append_nil])
      have HRv:=hide (reverseI_any (.slice oa D.length oc) (D.map (idAt l)) w.heap.size wr Ho.out (by have:=hC;have:=HD.out;subst this;simp;omega))
      clear hR
      go_wp2_with fail
      refine HRv.out.mono ?_
      rintro e w2 ⟨rfl,ho2,hg2⟩
      have HO2:Hid (OwnI w.heap.size w2 (.slice oa D.length oc) (C.reverse.map (idAt l))):=hide (by rw [HD.out,List.map_reverse];exact ho2)
      have HB2:=hide (hb.grown hg2 hb.size (fun k hk=>(Ho.out.ge k hk)))
      clear ho2 hg2
      go_wp2
      go_ret
      exact ⟨_,rfl,HO2.out,HB2.out⟩
    · have hil:i < l.length:=by have:=Hlm.out.len;omega
      obtain ⟨bv,p,kk,hnx⟩:=lim_next Ht.out Hlm.out hi hil
      have HK:=hide (fun V (hV:Below w.heap.size w V)=>kk.below hV kk.lt)
      have hnn:0 < R.length:=by rw [hR];exact up_pos i
      have hDR:D.length+R.length=C.length:=by rw [HC2.out];simp
      have hlt:D.length+1<=C.length:=by omega
      have HDn:Hid (∀ R2,R=i :: R2->C=(D ++ [i]) ++ R2/\(D ++ [i]).map (idAt l)=D.map (idAt l) ++ [l[i].id]):=hide (fun R2 h=>⟨by rw [HC2.out,h];simp,by simp [idAt_eq hil]⟩)
      have Hnx:Hid (∃ R2,R=i :: R2/\PtA l Bs p R2):=hide (by
        rcases hnx with ⟨rfl,e⟩ | ⟨j,hj,rfl,e⟩
        · exact ⟨[],by rw [hR,e],.inl ⟨rfl,rfl⟩⟩
        · exact ⟨upN l j,by rw [hR,e],.inr ⟨j,hj,rfl,rfl⟩⟩)
      have Hc:Hid (∀ V,Below w.heap.size w V->V.cell? ⟨Bs[i],0,none⟩=some (.int .i64 l[i].id)/\V.cell? ⟨Bs[i],15,none⟩=some p):=hide (fun V hV=>⟨by rw [(kk.below hV kk.lt).cell 0];rfl,by rw [(kk.below hV kk.lt).cell 15];rfl⟩)
      clear hnx hR kk HC2 hDR hnn HK
      generalize l[i].id=d at HDn Hc
      simp only [ptr]
      generalize Bs[i]=B at Hc
      obtain ⟨c0,c15⟩:=Hc.out wr hb
      obtain ⟨w4,hw4⟩:∃ x,wr.alloc (.cells #[.int .i64 d] 3)=x:=⟨_,rfl⟩
      have b4:Below wr.heap.size wr w4:=by rw [<- hw4];exact (Below.refl _ wr).alloc (Nat.le_refl _) _
      have k4:Blk w4 wr.heap.size 3 [.int .i64 d]:=by rw [<- hw4];exact Blk.new wr _ _
      have HB4:=hide (hb.trans (b4.mono hb.size))
      have HO4:=hide (Ho.out.below b4 (Nat.le_refl _))
      have HR4:=hide (rd_oneI k4)
      clear b4 k4 Ho
      go_wp2_with (at_builtin;(try rw [hw4]);refine app_ownIs w4 rfl _ _ rfl w.heap.size (.slice oa D.length oc) _ (D.map (idAt l)) [d] rfl rfl HO4.out HR4.out (by simp;omega) HB4.out.size ?_;intro v5 w5 ho5 hg5 hb5 hl5;have c9:=(Hc.out w5 (HB4.out.trans hb5)).2)
      obtain ⟨R2,hR2,hpt⟩:=Hnx.out
      obtain ⟨e1,e2⟩:=HDn.out R2 hR2
      have HO5:Hid (OwnI w.heap.size w5 v5 ((D ++ [i]).map (idAt l))):=hide (by rw [e2];exact ho5)
      have HS5:Hid (slen v5=D.length+1):=hide (by
        obtain ⟨a9,c9,e9⟩:=ho5.rd.shape
        rw [e9];simp [slen])
      have E1:=hide e1
      clear e1 e2 ho5
      go_roundw
      case rel=>exact ⟨D ++ [i],R2,E1.out,hpt,by rw [HS5.out];simp,HO5.out,HB4.out.trans hb5⟩
      case measure=>rw [HS5.out];simp [slen];omega
theorem lm_at {l:List Bk} (ht:treeP l) {Bs:List Nat} (hl:Bs.length=l.length) {y:Int} {x:Value} (h:LmP Bs ((l.take l.length).map (·.id)) y x) :
    (x=.pointer none/\atI l y=-1)\/∃ i,∃ hi:i < Bs.length,x=ptr Bs[i]/\atI l y=(i:Int):=by
  rcases h with ⟨rfl,h⟩ | ⟨p,h1,h2,e,rfl⟩
  · refine .inl ⟨rfl,atI_eq (.inl ⟨rfl,fun j hj e=>h j (by simp;exact hj) ?_⟩)⟩
    rw [ids_at (Nat.le_refl _)];exact e
  · rw [ids_at (Nat.le_refl _)] at e
    refine .inr ⟨p,h1,rfl,?_⟩
    rw [<- e]
    exact atI_asc (tree_asc ht) (by omega)
theorem lm_chain {l:List Bk} (ht:treeP l) {Bs:List Nat} (hl:Bs.length=l.length) {y:Int} {x:Value} (h:LmP Bs ((l.take l.length).map (·.id)) y x):∃ C,PtA l Bs x C/\C.reverse=chA l y:=by
  rcases lm_at ht hl h with ⟨rfl,e⟩ | ⟨i,hi,rfl,e⟩
  · exact ⟨[],.inl ⟨rfl,rfl⟩,by rw [chA_none (by omega)];rfl⟩
  · exact ⟨upN l i,.inr ⟨i,hi,rfl,rfl⟩,by rw [chA,e,if_neg (by omega),Int.toNat_natCast]⟩
theorem implChainOf_any (v:Value) (l:List Bk) (id:Int) (w:World) (hr:RdKs w v l) (hl:l.length<=4000000) (hf:∀ b ∈ l,FewK b) (hbd:∀ b ∈ l,-9223372036854775808<=b.tr/\b.tr<=9223372036854775807) :
    Calls Tryz.prog 131 #[v,.int .i64 id] w fun e w'=>∃ x,e=.returned x/\OwnI w.heap.size w' x (coA l id)/\Below w.heap.size w w':=by
  have HT:=hide (treeOf_any v l w hr hl hf hbd)
  clear hr hf hbd
  go_enter Tryz.func131,Tryz.ntmps131
  go_wp2_with fail
  refine HT.out.mono ?_
  rintro e w1 ⟨ta,tn,tc,rfl,hlm,hb1⟩
  obtain ⟨w2,hw2⟩:∃ x,w1.alloc (.cells #[.slice ta tn tc] 134)=x:=⟨_,rfl⟩
  have b2:Below w1.heap.size w1 w2:=by rw [<- hw2];exact (Below.refl _ w1).alloc (Nat.le_refl _) _
  have k2:Blk w2 w1.heap.size 134 [.slice ta tn tc]:=by rw [<- hw2];exact Blk.new w1 _ _
  have hB2:=hb1.trans (b2.mono hb1.size)
  have x0:=k2.cell 0
  simp only [List.getElem?_cons_zero] at x0
  cases htb:treeB l
  · have HX:Hid (coA l id=[]):=hide (by rw [coA,htb,if_neg (by simp)])
    have HO:=hide (own_nilI w2 w.heap.size hB2.size)
    have HB:=hide (hB2.alloc (o:=.cells #[] 3) hB2.size)
    clear hlm htb HT b2 k2
    go_wp2
    go_ret
    exact ⟨_,rfl,by rw [HX.out];exact HO.out,HB.out⟩
  · have ht:=treeP_of htb
    have HX:Hid (coA l id=(chA l id).map (idAt l)):=hide (by rw [coA,htb,if_pos rfl])
    obtain ⟨Bs,lm⟩:=hlm htb
    have lm2:=lm.below b2 (Nat.le_refl _)
    have HA:=hide (treeAt_any (.slice ta tn tc) Bs ((l.take l.length).map (·.id)) id w2 (fun U hU=>(lm2.below hU (Nat.le_refl _)).rdP) (ids_asc (Nat.le_refl _) (tree_asc ht)) (by have:=lm.len;have:=ht.1;omega))
    have Hlm:=hide lm2
    have Ht:=hide ht
    have HB2:=hide hB2
    clear hlm htb HT b2 k2 lm lm2 ht hB2
    go_wp2_with fail
    refine HA.out.mono ?_
    rintro e w3 ⟨x,rfl,hx,hb3⟩
    obtain ⟨C,hp,hC⟩:=lm_chain Ht.out Hlm.out.len hx
    have hCl:=chA_len Ht.out id
    have hl4:=Ht.out.1
    have HC:=hide (chain_any l Bs (.slice ta tn tc) x C w.heap.size w3 Ht.out (Hlm.out.below hb3 (Nat.le_refl _)) hp (by rw [<- hC] at hCl;simp at hCl;omega))
    have HE:Hid (C.reverse.map (idAt l)=coA l id):=hide (by rw [HX.out,hC])
    have HB3:=hide (HB2.out.trans (hb3.mono HB2.out.size))
    clear hp hC hCl hl4 hx hb3 HA
    go_wp2_with fail
    refine HC.out.mono ?_
    rintro e w4 ⟨v4,rfl,ho4,hb4⟩
    have HO4:Hid (OwnI w.heap.size w4 v4 (coA l id)):=hide (by rw [<- HE.out];exact ho4.mono HB3.out.size)
    have HB4:=hide (HB3.out.trans (hb4.mono HB3.out.size))
    clear ho4 hb4
    go_wp2
    go_ret
    exact ⟨_,rfl,HO4.out,HB4.out⟩
def pk (b off:Nat) (i:Nat):Value:=.pointer (some ⟨b,off+i * 14,none⟩)
def OwnQ (base:Nat) (w:World) (v:Value) (b off:Nat) (C:List Nat):Prop:=w.ownsRow base 120 1 v C.length (C.map (pk b off))
theorem OwnQ.below {B base:Nat} {w w':World} {v:Value} {b off:Nat} {C:List Nat} (h:OwnQ base w v b off C) (hb:Below B w w') (hB:w.heap.size<=B):OwnQ base w' v b off C:=row_below h hb hB
theorem OwnQ.shape {base:Nat} {w:World} {v:Value} {b off:Nat} {C:List Nat} (h:OwnQ base w v b off C):∃ a c,v=.slice a C.length c:=own_shape h
theorem OwnQ.cell {base:Nat} {w:World} {a:Option Addr} {c n:Nat} {b off:Nat} {C:List Nat} (h:OwnQ base w (.slice a n c) b off C) {k:Nat} (hk:k < C.length):∃ g,a=some ⟨g,0,none⟩/\w.cell? ⟨g,k,none⟩=some (pk b off C[k]):=by
  rcases h.2 with ⟨hv,hn⟩ | ⟨g,cap,cur,hv,hbb,hg,r⟩
  · omega
  · have h':=h
    unfold OwnQ at h'
    rw [hv] at h'
    simp only [Value.slice.injEq] at hv
    refine ⟨g,hv.1,?_⟩
    rw [h'.cellAt k (by omega)]
    simp [hk]
theorem Tryz.infoPq:(Tryz.prog.info? 120).map (fun i=>(i.zero,i.size,i.bytes))=some (some (.pointer none),1,8):=by kernel_rfl
theorem app_ownQ {ops:Array Oper} {rest:List Oper} {o:Oper} {a:Act} {Q:Exit->Act->World->Prop} (w:World) (hgd:o.guard=none) (s x:Operand)
    (ho:o.op=.call { callee:=.builtin .append,args:=#[s,x],argTypes:=#[126,126] })
    (base:Nat) (v:Value) (G b off:Nat) (C:List Nat) (i:Nat) (hs:a.eval s=v) (hx:a.eval x=.slice (some ⟨G,0,none⟩) 1 1) (hown:OwnQ base w v b off C) (hblk:Blk w G 120 [pk b off i])
    (hlen:C.length<=10000000) (hbase:base<=w.heap.size)
    (h:∀ v' w',OwnQ base w' v' b off (C ++ [i])->w.grownBy w' v.ownBlock->Below base w w'->wpList Tryz.prog ops Q rest (a.put o.dst v') w'):wpList Tryz.prog ops Q (o :: rest) a w:=by
  obtain ⟨i0,hi,hz0,hz1,hz2⟩:=info_parts Tryz.infoPq
  refine wpList_append_own w hgd s x 126 ho base 120 i0 (.pointer none) 1 8 Tryz.underlying126 hi hz0 hz1 hz2 rfl (by decide) v C.length (C.map (pk b off)) hs hown ⟨G,0,none⟩ 1 1 [pk b off i] hx rfl (fun j u hj=>by rw [add_flatP,Nat.zero_add,hblk.cell j];exact hj) (fun u hu=>by
    simp only [List.mem_cons,List.not_mem_nil,or_false] at hu
    subst hu;rfl) (by unfold maxLen;omega) (by omega) hbase ?_
  intro v' w' ho' hg _
  refine h v' w' ?_ hg ((Below.refl _ _).grown hg hbase (fun k hk=>(World.ownsRow.lt hown k hk).1))
  unfold OwnQ
  simpa using ho'
theorem chainBlocks_any (l:List Bk) (a:Option Addr) (cap:Nat) (id:Int) (w:World) (hr:RdKs w (.slice a l.length cap) l) (hl:l.length<=4000000) (hf:∀ b ∈ l,FewK b) (hbd:∀ b ∈ l,-9223372036854775808<=b.tr/\b.tr<=9223372036854775807) :
    Calls Tryz.prog 66 #[.slice a l.length cap,.int .i64 id] w fun e w'=>∃ v b off,e=.returned v/\OwnQ w.heap.size w' v b off (chT l id)/\(0 < (chT l id).length->a=some ⟨b,off,none⟩)/\Below w.heap.size w w':=by
  obtain ⟨b,off,hab⟩:∃ b off,0 < l.length->a=some ⟨b,off,none⟩:=by
    by_cases h0:0 < l.length
    · obtain ⟨b,off,e,-⟩:=hr.parts9 h0
      exact ⟨b,off,fun _=>e⟩
    · exact ⟨0,0,fun h=>absurd h h0⟩
  have HC:=hide (implChainOf_any _ l id w hr hl hf hbd)
  have HF:=hide (fun x V (hV:Below w.heap.size w V)=>firstOf_any l a cap x V (hr.below hV (Nat.le_refl _)) hl)
  rw [chT_co] at HC
  have hcl:=chT_len l id
  have Hat:=hide (chT_at l id)
  have Hclt:=hide (chT_lt l id)
  have HA:Hid (0 < (chT l id).length->a=some ⟨b,off,none⟩):=hide (fun h=>hab (by omega))
  have Hab:=hide hab
  clear hr hf hbd hab
  generalize chT l id=C at HC hcl Hat Hclt HA ⊢
  go_enter Tryz.func66,Tryz.ntmps66
  go_wp2_with fail
  refine HC.out.mono ?_
  rintro e w1 ⟨cv,rfl,oc,hb1⟩
  obtain ⟨ca,cc,rfl⟩:=oc.rd.shape
  have hlc:(C.map (idAt l)).length=C.length:=by simp
  rw [hlc] at oc ⊢
  have Hoc:=hide oc
  clear oc HC
  go_wp2
  go_loopw [12,5] (fun iv ov wr=>∃ k:Nat,k<=C.length/\iv=.int .i64 (k:Int)/\OwnQ w.heap.size wr ov b off (C.take k)/\Below w.heap.size w wr/\OwnI w.heap.size wr (.slice ca C.length cc) (C.map (idAt l))) (fun iv _ _=>C.length - (intOf iv).toNat)
  case atStart=>exact ⟨0,Nat.zero_le _,rfl,World.ownsRow_nil _ _ _ _,hb1,Hoc.out⟩
  case round =>
    clear Hoc hb1
    obtain ⟨k,hk,rfl,ho,hb,hoc⟩:=hrel
    obtain ⟨oa,occ,rfl⟩:=ho.shape
    have hln:(C.take k).length=k:=by simp;omega
    by_cases hlt:k < C.length
    · obtain ⟨b2,off2,rfl,h32,cc0⟩:=RdI.cellI hoc.rd (by simp) (k:=k) (by simpa using hlt)
      rw [List.getElem_map] at cc0
      have hCk:=Hclt.out C[k] (List.getElem_mem hlt)
      have HFk:=hide (HF.out (idAt l C[k]) wr hb)
      have HAk:=hide (Hat.out C[k] (List.getElem_mem hlt))
      have HY:Hid (C.take k ++ [C[k]]=C.take (k+1)):=hide (by rw [List.take_succ_eq_append_getElem hlt])
      have Hap:=hide (rows_apart (w:=wr) hoc ho (by decide))
      have Ho:=hide ho
      have Hoc:=hide hoc
      have Hb:=hide hb
      rw [hln] at Hap ⊢
      have hln2:(C.take k).length<=10000000:=by omega
      have Hln:=hide hln
      clear ho hoc hln
      generalize idAt l C[k]=d at cc0 HFk HAk
      generalize C[k]=j at HY HAk hCk
      have hki:(k:Int) < (C.length:Int):=by omega
      have hk0:(0:Int)<=(k:Int):=by omega
      go_wp2_with fail
      refine HFk.out.mono ?_
      rintro e w2 ⟨hcase,rfl⟩
      rcases hcase with ⟨hneg,-⟩ | ⟨k9,b9,off9,hk9,hkl9,ha9,rfl⟩
      · exfalso
        have:=HAk.out
        omega
      · have e9:k9=j:=by have:=HAk.out;omega
        subst e9
        have e8:=(Hab.out (by omega)).symm.trans ha9
        simp only [Option.some.injEq,Addr.mk.injEq,and_true] at e8
        clear ha9
        obtain ⟨rfl,rfl⟩:=e8
        obtain ⟨w4,hw4⟩:∃ x,w2.alloc (.cells #[.pointer (some ⟨b,off+k9 * 14,none⟩)] 120)=x:=⟨_,rfl⟩
        have b4:Below w2.heap.size w2 w4:=by rw [<- hw4];exact (Below.refl _ w2).alloc (Nat.le_refl _) _
        have K4:Hid (Blk w4 w2.heap.size 120 [pk b off k9]):=hide (by rw [<- hw4];exact Blk.new w2 _ _)
        have HB4:=hide (Hb.out.trans (b4.mono Hb.out.size))
        have HO4:=hide (Ho.out.below b4 (Nat.le_refl _))
        have HC4:=hide (Hoc.out.below b4 (Nat.le_refl _))
        clear b4 Ho Hoc Hb
        rw [Hln.out] at HO4
        go_wp2_with (at_builtin;(try rw [hw4]);refine app_ownQ w4 rfl _ _ rfl w.heap.size (.slice oa k occ) w2.heap.size b off (C.take k) k9 rfl rfl HO4.out K4.out hln2 HB4.out.size ?_;intro v5 w5 ho5 hg5 hb5)
        have HO5:Hid (OwnQ w.heap.size w5 v5 b off (C.take (k+1))):=hide (by rw [<- HY.out];exact ho5)
        have HC5:=hide (HC4.out.kept hg5 (by
          cases ho:(Value.slice oa k occ).ownBlock with
          | none=>right;simp [Value.ownBlock]
          | some g=>right;exact Hap.out g ho))
        go_roundw
        case rel=>exact ⟨k+1,by omega,by go_num,HO5.out,HB4.out.trans hb5,HC5.out⟩
        case measure=>simp [intOf];omega
    · obtain rfl:k=C.length:=by omega
      rw [List.take_length] at ho
      have Ho:=hide ho
      clear ho hoc hln
      simp only [List.take_length]
      go_wp2
      go_ret
      exact ⟨_,b,off,rfl,Ho.out,HA.out,hb⟩
theorem isEnd_any (b o:Nat) (d:Bool) (w:World) (h:w.cell? ⟨b,o+11,none⟩=some (.bool d)) :
    Calls Tryz.prog 130 #[.pointer (some ⟨b,o,none⟩)] w fun e w'=>e=.returned (.bool d)/\w'=w:=by
  go_enter Tryz.func130,Tryz.ntmps130
  go_wp2
  go_ret
  exact ⟨rfl,rfl⟩
theorem indexEnd_any (l:List Bk) (a:Option Addr) (cap:Nat) (v:Value) (b off:Nat) (C:List Nat) (base:Nat) (w:World) (hr:RdKs w (.slice a l.length cap) l) (ho:OwnQ base w v b off C) (ha:0 < C.length->a=some ⟨b,off,none⟩) (hlt:∀ x ∈ C,x < l.length) (hl:C.length<=4000000) :
    Calls Tryz.prog 179 #[v,.func (.func 130) #[] #[]] w fun e w'=>(∃ i:Int,e=.returned (.int .i64 i)/\C.any (enAt l)=decide (0<=i))/\w'=w:=by
  obtain ⟨oa,oc,rfl⟩:=ho.shape
  have Ho:=hide ho
  have Hr:=hide hr
  have Ha:=hide ha
  have Hlt:=hide hlt
  clear ho hr ha hlt
  go_enter Tryz.func179,Tryz.ntmps179
  go_wp2
  go_loopw [8] (fun i wr=>∃ k:Nat,k<=C.length/\i=.int .i64 k/\(∀ j (h:j < C.length),j < k->enAt l C[j]=false)/\wr=w) (fun i _=>C.length - (intOf i).toNat)
  case atStart=>exact ⟨0,Nat.zero_le _,rfl,fun j _ h=>by omega,rfl⟩
  case round =>
    obtain ⟨k,hk,rfl,hno,rfl⟩:=hrel
    have Hno:=hide hno
    clear hno
    by_cases hlt:k < C.length
    · obtain ⟨g,rfl,c0⟩:=Ho.out.cell hlt
      have hCk:=Hlt.out C[k] (List.getElem_mem hlt)
      have ea:=Ha.out (by omega)
      obtain ⟨b9,off9,e9,h3,hcell⟩:=Hr.out.parts9 (by omega)
      obtain ⟨rfl,rfl⟩:b9=b/\off9=off:=by
        rw [ea] at e9
        simp only [Option.some.injEq,Addr.mk.injEq,and_true] at e9
        exact ⟨e9.1.symm,e9.2.symm⟩
      obtain ⟨lv,hat,-⟩:=hcell C[k] hCk
      have HI:=hide (isEnd_any b9 (off9+C[k] * 14) l[C[k]].en wr hat.cells.2.2.2.2.2.2.2.2.2.2.2.1)
      have HE:=hide (enAt_eq hCk)
      have HY:=hide (fun h=>any_yes (f:=enAt l) hlt h)
      have HN:=hide (fun h=>no_next (f:=enAt l) hlt Hno.out h)
      generalize l[C[k]].en=d at HI HE
      simp only [pk] at c0
      have hki:(k:Int) < (C.length:Int):=by omega
      have hk0:(0:Int)<=(k:Int):=by omega
      generalize C[k]=j at c0 hCk HE HY HN HI
      clear hat hcell Hno e9 ea
      cases d
      · go_wp2_with fail
        refine HI.out.mono ?_
        rintro e w2 ⟨rfl,rfl⟩
        go_wp2
        go_roundw
        case rel=>exact ⟨k+1,by omega,by go_num,HN.out HE.out,by first | trivial | rfl⟩
        case measure=>simp [intOf];omega
      · have HZ:Hid (C.any (enAt l)=decide (0<=(k:Int))):=hide (by rw [HY.out HE.out,decide_eq_true hk0])
        go_wp2_with fail
        refine HI.out.mono ?_
        rintro e w2 ⟨rfl,rfl⟩
        go_wp2
        go_ret
        exact ⟨⟨_,rfl,HZ.out⟩,rfl⟩
    · have HZ:Hid (C.any (enAt l)=decide ((0:Int)<=-1)):=hide (by rw [any_no (fun j hj=>Hno.out j hj (by omega))];rfl)
      go_wp2
      go_ret
      exact ⟨⟨_,rfl,HZ.out⟩,rfl⟩
theorem hasEnd_any (l:List Bk) (a:Option Addr) (cap:Nat) (v:Value) (b off:Nat) (C:List Nat) (base:Nat) (w:World) (hr:RdKs w (.slice a l.length cap) l) (ho:OwnQ base w v b off C) (ha:0 < C.length->a=some ⟨b,off,none⟩) (hlt:∀ x ∈ C,x < l.length) (hl:C.length<=4000000) :
    Calls Tryz.prog 65 #[v] w fun e w'=>e=.returned (.bool (C.any (enAt l)))/\w'=w:=by
  have hmf:∀ (fn:Fn) (first cap:Array Value) (w:World),(Instr.makeFunc fn first cap).run Tryz.prog w=.ok (.func fn first cap) w:=fun _ _ _ _=>rfl
  have HI:=hide (indexEnd_any l a cap v b off C base w hr ho ha hlt hl)
  have HCf:Hid (Calls Tryz.prog 129 #[v,.func (.func 130) #[] #[]] w fun e w'=>e=.returned (.bool (C.any (enAt l)))/\w'=w):=hide (by
    obtain ⟨oa,oc,rfl⟩:=ho.shape
    clear hr ho ha hlt
    go_enter Tryz.func129,Tryz.ntmps129
    go_wp2_with fail
    refine HI.out.mono ?_
    rintro e w1 ⟨⟨i,rfl,hi⟩,rfl⟩
    have Hi:=hide hi
    clear hi
    go_wp2
    go_ret
    exact ⟨ret_bool Hi.out.symm,rfl⟩)
  obtain ⟨oa,oc,rfl⟩:=ho.shape
  clear hr ho ha hlt HI
  go_enter Tryz.func65,Tryz.ntmps65
  go_wp2_with fail
  refine HCf.out.mono ?_
  rintro e w1 ⟨rfl,rfl⟩
  go_wp2
  go_ret
  exact ⟨rfl,rfl⟩
theorem implEnded_any (v:Value) (l:List Bk) (id:Int) (w:World) (hr:RdKs w v l) (hl:l.length<=4000000) (hf:∀ b ∈ l,FewK b) (hbd:∀ b ∈ l,-9223372036854775808<=b.tr/\b.tr<=9223372036854775807) :
    Calls Tryz.prog 20 #[v,.int .i64 id] w fun e w'=>e=.returned (.bool (enB l id))/\Below w.heap.size w w':=by
  obtain ⟨a,cap,rfl⟩:=hr.shape
  have HC:=hide (chainBlocks_any l a cap id w hr hl hf hbd)
  have Hr:=hide hr
  have HL:=hide (chT_lt l id)
  have hcl:=chT_len l id
  have HX:Hid (enB l id=(chT l id).any (enAt l)):=hide rfl
  generalize enB l id=X at HX ⊢
  generalize chT l id=C at HC HL hcl HX
  clear hr hf hbd
  go_enter Tryz.func20,Tryz.ntmps20
  go_wp2_with fail
  refine HC.out.mono ?_
  rintro e w1 ⟨v1,b,off,rfl,ho,ha,hb1⟩
  have HE:=hide (hasEnd_any l a cap v1 b off C w.heap.size w1 (Hr.out.below hb1 (Nat.le_refl _)) ho ha HL.out (by omega))
  rw [<- HX.out] at HE
  obtain ⟨oa,oc,rfl⟩:=ho.shape
  clear ho ha HC
  go_wp2_with fail
  refine HE.out.mono ?_
  rintro e w2 ⟨rfl,rfl⟩
  go_wp2
  go_ret
  exact ⟨rfl,hb1⟩
theorem ledgerBehind_any (e:Int) (v vq:Value) (z:List Ac) (l:List Bk) (al:Option Addr) (cl b off base:Nat) (C:List Nat) (w:World) (hgh:Gh w) (hr:RdA w v z) (hrl:RdKs w (.slice al l.length cl) l) (hq:OwnQ base w vq b off C) (ha:0 < C.length->al=some ⟨b,off,none⟩) (hclt0:∀ x ∈ C,x < l.length) (hcl:C.length<=4000000) (hz:z.length<=3999999) (hall:∀ a ∈ z,a.1.size<=maxLen/\a.2.2.2.2.length<=3999999) (hf:∀ b ∈ l,FewK b) :
    Calls Tryz.prog 70 #[lgV e v,vq] w fun en w'=>∃ v',en=.returned (lgV e v')/\OwnA w.heap.size w' v' (foL e z l C)/\Below w.heap.size w w':=by
  obtain ⟨av,cv,rfl⟩:=hr.shape
  have hall2:∀ a ∈ z,a.2.2.2.2.length<=4000000:=fun a ha=>by have:=hall a ha;omega
  have Hfew:=hide (fun k C=>foL_few (e:=e) l (List.take k C) z hz hall)
  simp only [lgV] at *
  obtain ⟨w2,hw2⟩:∃ w2,(w.alloc (.cells #[.int .i64 e,.slice av z.length cv] 26)).alloc (.cells #[.int .i64 0,.slice none 0 0] 26)=w2:=⟨_,rfl⟩
  have hs2:w2.heap.size=w.heap.size+2:=by rw [<- hw2];simp
  have hb2:Below w.heap.size w w2:=by rw [<- hw2];exact ((Below.refl _ w).alloc (Nat.le_refl _) _).alloc (by simp) _
  have kA:Blk w2 w.heap.size 26 [.int .i64 e,.slice av z.length cv]:=by
    rw [<- hw2]
    exact (Blk.new w 26 [.int .i64 e,.slice av z.length cv]).below ((Below.refl (w.heap.size+1) _).alloc (by simp) _) (by omega)
  have kR:Blk w2 (w.heap.size+1) 26 [.int .i64 0,.slice none 0 0]:=by
    rw [<- hw2]
    have h:=Blk.new (w.alloc (.cells #[.int .i64 e,.slice av z.length cv] 26)) 26 [.int .i64 0,.slice none 0 0]
    simp only [World.size_alloc] at h
    exact h
  have HC:=hide (implCopiedLg_any e (.slice av z.length cv) z w2 (hr.below hb2 (Nat.le_refl _)) (by omega) hall2)
  simp only [lgV] at HC
  have Hf:=hide hf
  have Hb2:=hide hb2
  have KR:=hide kR
  have c0:=kA.cell 0
  have c1:=kA.cell 1
  simp only [List.getElem?_cons_zero,List.getElem?_cons_succ] at c0 c1
  obtain ⟨qa,qc,rfl⟩:=hq.shape
  have Hrl:=hide hrl
  have Hq:=hide hq
  have Ha:=hide ha
  have Hclt:=hide hclt0
  have Hgh:=hide hgh
  clear hq ha hclt0 hgh
  clear hr hrl hf hall hall2 hb2 kA kR
  go_enter Tryz.func70,Tryz.ntmps70
  go_wp2_with fail
  refine HC.out.mono ?_
  rintro en w3 ⟨v3,rfl,o3,hb3⟩
  obtain ⟨a3,c3,rfl⟩:=o3.rd.shape
  obtain ⟨w4,hw4⟩:∃ w4,w3.alloc (.cells #[.int .i64 e,.slice a3 z.length c3] 26)=w4:=⟨_,rfl⟩
  have b4:Below w3.heap.size w3 w4:=by rw [<- hw4];exact (Below.refl _ w3).alloc (Nat.le_refl _) _
  have k4:Blk w4 w3.heap.size 26 [.int .i64 e,.slice a3 z.length c3]:=by rw [<- hw4];exact Blk.new w3 _ _
  have s4:w4.heap.size=w3.heap.size+1:=by rw [<- hw4];simp
  have x4:=o3.ox.below b4 (Nat.le_refl _)
  have hB4:=hb3.trans (b4.mono hb3.size)
  have hz3:=hb3.size
  clear o3 hb3 b4 c0 c1 hw2 HC
  have K5:=hide k4
  have X5:=hide x4
  have B5:=hide hB4
  clear k4 x4 hB4
  go_wp2
  go_loopw [12] (fun iv wr=>∃ (i:Nat) (a:Option Addr) (c base hi:Nat),i<=C.length/\iv=.int .i64 (i:Int)/\Blk wr w3.heap.size 26 [.int .i64 e,.slice a (foL e z l (C.take i)).length c]/\OwnX base hi wr (.slice a (foL e z l (C.take i)).length c) (foL e z l (C.take i))/\w2.heap.size<=base/\(w3.heap.size < base\/hi<=w3.heap.size)/\Below w2.heap.size w2 wr) (fun iv _=>C.length - (intOf iv).toNat)
  case atStart=>exact ⟨0,a3,c3,w2.heap.size,w3.heap.size,by omega,rfl,K5.out,X5.out,Nat.le_refl _,.inr (Nat.le_refl _),B5.out⟩
  case round =>
    obtain ⟨i,a,c,base,hi,hi1,rfl,kO,x,hbase,hdis,hb⟩:=hrel
    clear K5 X5 B5 hw4
    have hwr:=hb.size
    have hO:=kO.lt
    have hBw:=Hb2.out.trans (hb.mono Hb2.out.size)
    have few:=Hfew.out i C
    by_cases hlt:i < C.length
    · have Hsn:=hide (foL_snoc e z l C i hlt)
      have hCk:=Hclt.out C[i] (List.getElem_mem hlt)
      obtain ⟨gq,rfl,cc0⟩:=Hq.out.cell hlt
      obtain rfl:=Ha.out (by omega)
      obtain ⟨b9,off9,e9,h3,hcell⟩:=Hrl.out.parts9 (by omega)
      simp only [Option.some.injEq,Addr.mk.injEq,and_true] at e9
      obtain ⟨rfl,rfl⟩:=e9
      obtain ⟨lv,hat,hrk⟩:=hcell C[i] hCk
      have hqlt:=(World.ownsRow.lt Hq.out gq rfl).2
      replace cc0:=(hBw.cell (p:=⟨gq,i,none⟩) hqlt).trans cc0
      have hfk:=Hf.out l[C[i]] (List.getElem_mem hCk)
      have ct:=(hat.below hBw h3).cells.2.2.2.2.2.2.2.2.2.2.1
      have hrt:=hrk.t
      obtain ⟨ta,tc,hte⟩:=hrt.shape
      rw [hte] at ct hrt
      rw [tsAt_eq hCk] at Hsn
      generalize foL e z l (C.take i)=P at kO x few Hsn
      have HAl:Hid (∀ V,Below wr.heap.size wr V->Calls Tryz.prog 10 #[.agg #[.int .i64 e,.slice a P.length c],.slice ta l[C[i]].ts.length tc] V fun en w'=>∃ v',en=.returned (.tuple #[.agg #[.int .i64 e,v'],.int .i64 ((alA e P l[C[i]].ts).2:Int)])/\OwnA V.heap.size w' v' (alA e P l[C[i]].ts).1/\Below wr.heap.size wr w'/\wr.heap.size<=V.heap.size):=hide (fun V hV=>(implAll_any e (.slice a P.length c) (.slice ta l[C[i]].ts.length tc) P l[C[i]].ts V (Hgh.out.below (hBw.trans (hV.mono hBw.size))) (x.rd.below hV (Nat.le_refl _)) (hrt.below (hBw.trans (hV.mono hBw.size)) (Nat.le_refl _)) few.1 few.2 hfk.t hfk.ts).mono (fun en w' ⟨v',h1,h2,h3⟩=>⟨v',h1,h2,hV.trans (h3.mono hV.size),hV.size⟩))
      have d0:=kO.cell 0
      have d1:=kO.cell 1
      simp only [List.getElem?_cons_zero,List.getElem?_cons_succ] at d0 d1
      have KO:=hide kO
      have Hb:=hide hb
      have hki:(i:Int) < (C.length:Int):=by omega
      have hk0:(0:Int)<=(i:Int):=by omega
      generalize l[C[i]].ts=ts at HAl ct Hsn hrt
      generalize C[i]=j at cc0 ct hCk
      simp only [pk] at cc0
      generalize hAA:alA e P ts=AA at HAl Hsn
      obtain ⟨A,nA⟩:=AA
      simp only at HAl Hsn
      have hji:(j:Int) < (l.length:Int):=by omega
      have hj0:(0:Int)<=(j:Int):=by omega
      clear hAA hat hrk hcell hfk hte hrt kO x few hb hBw
      go_upto_region 5 with fail
      go_region_law ((go_simp;go_at_call 10;refine (HAl.out _ (by first | exact Below.refl _ _ | exact (Below.refl _ _).drew)).mono ?_;rintro en wA ⟨vA,rfl,oA,bA,zA⟩;have hsh:=oA.rd.shape;obtain ⟨aA,cA,hvA⟩:=hsh;subst hvA;have kA:=KO.out.below bA KO.out.lt;have q0:=kA.cell 0;have q1:=kA.cell 1;have f0:=kA.frozen 0;have f1:=kA.frozen 1;simp only [List.getElem?_cons_zero,List.getElem?_cons_succ] at q0 q1))
      all_goals
        have kN:=(kA.set 0 (.int .i64 e)).set 1 (.slice aA A.length cA)
        have oN:=(oA.older (g:=w3.heap.size) (by omega) 0 (.int .i64 e)).older (g:=w3.heap.size) (by omega) 1 (.slice aA A.length cA)
        have bN:=((Hb.out.trans (bA.mono hwr)).setCell (p:=⟨w3.heap.size,0,none⟩) (show w2.heap.size<=w3.heap.size by omega) (.int .i64 e)).setCell (p:=⟨w3.heap.size,1,none⟩) (show w2.heap.size<=w3.heap.size by omega) (.slice aA A.length cA)
        simp only [List.set_cons_zero,List.set_cons_succ] at kN
        have KN:=hide kN
        have XN:=hide oN.ox
        have BN:=hide bN
        clear kA kN oA oN bA bN
        go_wp2
        go_roundw
        case rel=>exact ⟨i+1,aA,cA,_,_,by omega,by go_num,by rw [Hsn.out];exact KN.out,by rw [Hsn.out];exact XN.out,by omega,.inl (by omega),BN.out⟩
        case measure=>simp [intOf];omega
    · obtain rfl:i=C.length:=by omega
      rw [List.take_length] at kO x
      have d0:=kO.cell 0
      have d1:=kO.cell 1
      simp only [List.getElem?_cons_zero,List.getElem?_cons_succ] at d0 d1
      have kR:=KR.out.below hb KR.out.lt
      have r0:=kR.cell 0
      have r1:=kR.cell 1
      have g0:=kR.frozen 0
      have g1:=kR.frozen 1
      simp only [List.getElem?_cons_zero,List.getElem?_cons_succ] at r0 r1
      have HBx:=hide ((hBw.setCell (p:=⟨w.heap.size+1,0,none⟩) (show w.heap.size<=w.heap.size+1 by omega) (.int .i64 e)).setCell (p:=⟨w.heap.size+1,1,none⟩) (show w.heap.size<=w.heap.size+1 by omega) (.slice a (foL e z l C).length c))
      have HOx:=hide (((x.own.older (g:=w.heap.size+1) (by omega) 0 (.int .i64 e)).older (g:=w.heap.size+1) (by omega) 1 (.slice a (foL e z l C).length c)).mono (show w.heap.size<=_ by omega))
      clear kO x kR hb hBw few
      obtain ⟨P,hP⟩:∃ P,foL e z l C=P:=⟨_,rfl⟩
      rw [hP] at d1 HBx HOx
      have HPe:=hide hP
      clear hP
      go_wp2
      refine bodyPost_ret (v:=.agg #[.int .i64 e,.slice a P.length c]) (by simp [results,Tryz.f70,go_sem,r0,r1]) rfl ?_
      exact ⟨_,rfl,by rw [HPe.out];exact HOx.out,HBx.out⟩
theorem implFreed_any (a:Ac) (lv:Value) (e:Int) (w:World) (hr:RdL w lv a.2.2.2.2) (hl:a.2.2.2.2.length<=4000000) :
    Calls Tryz.prog 106 #[acV a lv,.int .i64 e] w fun en w'=>∃ lv',en=.returned (acV (frA e a) lv')/\OwnL w.heap.size w' lv' (stL e a.2.2.2.2)/\Below w.heap.size w w':=by
  obtain ⟨nm,fr,no,st,ls⟩:=a
  obtain ⟨av,cv,rfl⟩:=hr.shape
  simp only [acV,frA] at *
  obtain ⟨w2,hw2⟩:∃ w2,(w.alloc (.cells #[.string nm,.int .i64 fr,.int .i64 no,.int .i64 st,.slice av ls.length cv] 105)).alloc (.cells #[.string { data:=#[] },.int .i64 0,.int .i64 0,.int .i64 0,.slice none 0 0] 105)=w2:=⟨_,rfl⟩
  have hs2:w2.heap.size=w.heap.size+2:=by rw [<- hw2];simp
  have hb2:Below w.heap.size w w2:=by rw [<- hw2];exact ((Below.refl _ w).alloc (Nat.le_refl _) _).alloc (by simp) _
  have k1:Blk w2 w.heap.size 105 [.string nm,.int .i64 fr,.int .i64 no,.int .i64 st,.slice av ls.length cv]:=by
    rw [<- hw2]
    exact (Blk.new w _ _).below ((Below.refl (w.heap.size+1) _).alloc (by simp) _) (by omega)
  have k2:Blk w2 (w.heap.size+1) 105 acZ:=by
    rw [<- hw2]
    have h:=Blk.new (w.alloc (.cells #[.string nm,.int .i64 fr,.int .i64 no,.int .i64 st,.slice av ls.length cv] 105)) 105 acZ
    simp only [World.size_alloc] at h
    exact h
  have Hr:=hide hr
  have Hb2:=hide hb2
  have K1:=hide k1
  have K2:=hide k2
  have c4:=k1.cell 4
  simp only [List.getElem?_cons_zero,List.getElem?_cons_succ] at c4
  clear hr hb2 k1 k2
  go_enter Tryz.func106,Tryz.ntmps106
  go_wp2
  go_loopw [5,11] (fun sv iv wr=>∃ (k:Nat),k<=ls.length/\iv=.int .i64 (k:Int)/\OwnL (w.heap.size+2) wr sv (stL e (ls.take k))/\Below w.heap.size w wr/\Blk wr w.heap.size 105 [.string nm,.int .i64 (frF e fr (ls.take k)),.int .i64 no,.int .i64 st,.slice av ls.length cv]/\Blk wr (w.heap.size+1) 105 acZ) (fun _ iv _=>ls.length - (intOf iv).toNat)
  case atStart=>exact ⟨0,by omega,rfl,own_noneL w2 _,Hb2.out,K1.out,K2.out⟩
  case round =>
    obtain ⟨k,hk,rfl,ho,hb,j1,j2⟩:=hrel
    clear K1 K2 c4 hw2
    have hbs:=hb.size
    have hs:=j2.lt
    by_cases hlt:k < ls.length
    · obtain ⟨b,off,rfl,hc1,hc2,hbw,e0,e1⟩:=Hr.out.at hlt
      have f0:=(hb.cell (p:=⟨b,off+k * 2,none⟩) hbw).trans e0
      have f1:=(hb.cell (p:=⟨b,off+k * 2+1,none⟩) hbw).trans e1
      have HF:=hide (frF_snoc e fr ls k hlt)
      have HS:=hide (stL_snoc e ls k hlt)
      have hsl:=stL_len e (ls.take k)
      have htl:(ls.take k).length<=k:=by simp;omega
      generalize ls[k]=x at f0 f1 e0 e1 HF HS
      obtain ⟨xa,xt⟩:=x
      simp only at f0 f1 HF HS
      have hli:(k:Int) < (ls.length:Int):=by omega
      obtain ⟨w3,hw3⟩:∃ w3,wr.alloc (.cells #[.int .i64 xa,.int .i64 xt] 107)=w3:=⟨_,rfl⟩
      have hb3:Below w.heap.size w w3:=by rw [<- hw3];exact hb.alloc hbs _
      have ho3:OwnL (w.heap.size+2) w3 u5 (stL e (ls.take k)):=by rw [<- hw3];exact ho.alloc _
      have m1:Blk w3 w.heap.size 105 [.string nm,.int .i64 (frF e fr (ls.take k)),.int .i64 no,.int .i64 st,.slice (some ⟨b,off,none⟩) ls.length cv]:=by rw [<- hw3];exact j1.alloc _
      have m2:Blk w3 (w.heap.size+1) 105 acZ:=by rw [<- hw3];exact j2.alloc _
      have m3:Blk w3 wr.heap.size 107 [.int .i64 xa,.int .i64 xt]:=by rw [<- hw3];exact Blk.new wr _ _
      have hs3:w3.heap.size=wr.heap.size+1:=by rw [<- hw3];simp
      have d1:=m1.cell 1
      have q1:=m1.frozen 1
      have x0:=m3.cell 0
      have x1:=m3.cell 1
      simp only [List.getElem?_cons_zero,List.getElem?_cons_succ] at d1 x0 x1
      have Ho:=hide ho3
      have Hb:=hide hb3
      have J1:=hide m1
      have J2:=hide m2
      clear e0 e1 ho hb j1 j2 m1 m2 m3 ho3 hb3
      by_cases h1:xt<=e
      · rw [if_pos h1] at HF HS
        generalize frF e fr (ls.take k)=F at HF d1 J1
        go_wp2
        go_roundw
        case rel =>
          refine ⟨k+1,by omega,by go_num,?_,?_,?_,?_⟩
          · rw [HS.out];exact row_set Ho.out _ _ _ (fun j hj=>by have:=Ho.out.ge j hj;omega)
          · exact Hb.out.setCell (p:=⟨w.heap.size,1,none⟩) (Nat.le_refl _) _
          · rw [HF.out];exact J1.out.set 1 _
          · exact J2.out.other _ _ _ (by omega)
        case measure=>simp [intOf];omega
      · rw [if_neg h1] at HF HS
        go_wp2_with (at_builtin;refine app_ownLg _ rfl _ _ rfl (w.heap.size+2) _ _ (stL e (ls.take k)) [(xa,xt)] rfl rfl (Ho.out.alloc _) (rd_one_lv _ _ xa xt (by first | rfl | omega)) (by simp;omega) (by first | omega | (simp;omega)) ?_;intro v1 w1 ho1 hg1)
        have HB:=hide ((Hb.out.alloc (by omega) (.cells #[.int .i64 xa,.int .i64 xt] 107)).grown hg1 (by simp;omega) (fun k hk=>by have:=Ho.out.ge k hk;omega))
        go_roundw
        case rel =>
          refine ⟨k+1,by omega,by go_num,?_,HB.out,?_,?_⟩
          · rw [HS.out];exact ho1
          · rw [HF.out];exact (J1.out.alloc _).kept' hg1 (fun e=>by have:=Ho.out.ge _ e.symm;omega)
          · exact (J2.out.alloc _).kept' hg1 (fun e=>by have:=Ho.out.ge _ e.symm;omega)
        case measure=>simp [intOf];omega
    · have ek:k=ls.length:=by omega
      subst ek
      rw [List.take_length] at ho j1
      obtain ⟨a4,cv4,rfl⟩:=ho.rd.shape
      have d0:=j1.cell 0
      have d1:=j1.cell 1
      have d2:=j1.cell 2
      have d3:=j1.cell 3
      have d4:=j1.cell 4
      have q4:=j1.frozen 4
      have r0:=j2.cell 0
      have r1:=j2.cell 1
      have r2:=j2.cell 2
      have r3:=j2.cell 3
      have r4:=j2.cell 4
      have g0:=j2.frozen 0
      have g1:=j2.frozen 1
      have g2:=j2.frozen 2
      have g3:=j2.frozen 3
      have g4:=j2.frozen 4
      simp only [acZ,List.getElem?_cons_zero,List.getElem?_cons_succ] at d0 d1 d2 d3 d4 r0 r1 r2 r3 r4
      have Ho:=hide ho
      have Hb:=hide hb
      have hge:=ho.ge
      clear ho hb j1 j2
      go_wp2
      refine bodyPost_ret (v:=.agg #[.string nm,.int .i64 (frF e fr ls),.int .i64 no,.int .i64 st,.slice a4 (stL e ls).length cv4]) (by simp [results,Tryz.f106,go_sem,r0,r1,r2,r3,r4]) rfl ?_
      have n1:∀ k,(Value.slice a4 (stL e ls).length cv4).ownBlock=some k->k ≠ w.heap.size:=fun k hk=>by have:=hge k hk;omega
      have n2:∀ k,(Value.slice a4 (stL e ls).length cv4).ownBlock=some k->k ≠ w.heap.size+1:=fun k hk=>by have:=hge k hk;omega
      refine ⟨_,rfl,row_set (row_set (row_set (row_set (row_set (row_set (Ho.out.mono (by omega)) _ _ _ n1) _ _ _ n2) _ _ _ n2) _ _ _ n2) _ _ _ n2) _ _ _ n2,?_⟩
      exact (((((Hb.out.setCell (p:=⟨w.heap.size,4,none⟩) (by show w.heap.size<=w.heap.size;omega) _).setCell (p:=⟨w.heap.size+1,0,none⟩) (by show w.heap.size<=w.heap.size+1;omega) _).setCell (p:=⟨w.heap.size+1,1,none⟩) (by show w.heap.size<=w.heap.size+1;omega) _).setCell (p:=⟨w.heap.size+1,2,none⟩) (by show w.heap.size<=w.heap.size+1;omega) _).setCell (p:=⟨w.heap.size+1,3,none⟩) (by show w.heap.size<=w.heap.size+1;omega) _).setCell (p:=⟨w.heap.size+1,4,none⟩) (by show w.heap.size<=w.heap.size+1;omega) _
theorem implBehindL_any (e:Int) (v:Value) (l:List Ac) (w:World) (hr:RdA w v l) (hl:l.length<=4000000) (hall:∀ a ∈ l,a.2.2.2.2.length<=4000000) :
    Calls Tryz.prog 50 #[lgV e v] w fun en w'=>∃ v',en=.returned (lgV (wrap64 (e+1)) v')/\OwnA w.heap.size w' v' (l.map (frA (wrap64 (e+1))))/\Below w.heap.size w w':=by
  obtain ⟨av,cv,rfl⟩:=hr.shape
  simp only [lgV] at *
  obtain ⟨w2,hw2⟩:∃ w2,(w.alloc (.cells #[.int .i64 e,.slice av l.length cv] 26)).alloc (.cells #[.int .i64 0,.slice none 0 0] 26)=w2:=⟨_,rfl⟩
  have hs2:w2.heap.size=w.heap.size+2:=by rw [<- hw2];simp
  have hb2:Below w.heap.size w w2:=by rw [<- hw2];exact ((Below.refl _ w).alloc (Nat.le_refl _) _).alloc (by simp) _
  have k2:Blk w2 (w.heap.size+1) 26 [.int .i64 0,.slice none 0 0]:=by
    rw [<- hw2]
    have h:=Blk.new (w.alloc (.cells #[.int .i64 e,.slice av l.length cv] 26)) 26 [.int .i64 0,.slice none 0 0]
    simp only [World.size_alloc] at h
    exact h
  have k1:Blk w2 w.heap.size 26 [.int .i64 e,.slice av l.length cv]:=by
    rw [<- hw2]
    exact (Blk.new w 26 [.int .i64 e,.slice av l.length cv]).alloc _
  have c0:=k1.cell 0
  have c1:=k1.cell 1
  simp only [List.getElem?_cons_zero,List.getElem?_cons_succ] at c0 c1
  have HC:=hide (implCopiedLg_any e _ l w2 (hr.below hb2 (Nat.le_refl _)) hl hall)
  simp only [lgV] at HC
  have Hb2:=hide hb2
  have K2:=hide k2
  have Hall:=hide hall
  clear hr hb2 k1 k2 hall
  go_enter Tryz.func50,Tryz.ntmps50
  go_wp2_with fail
  refine HC.out.mono ?_
  rintro en w3 ⟨v3,rfl,ho3,hb3⟩
  have hB3:=Hb2.out.trans (hb3.mono Hb2.out.size)
  have hs3:=hb3.size
  have k3:=K2.out.below hb3 (by omega)
  obtain ⟨g,cap,Z,rfl,hZ,hG⟩:=ho3.rowG
  have hgl:=hG.lt
  obtain ⟨w4,hw4⟩:∃ w4,w3.alloc (.cells #[.int .i64 (wrap64 (e+1)),.slice (some ⟨g,0,none⟩) l.length cap] 26)=w4:=⟨_,rfl⟩
  have m4:Blk w4 w3.heap.size 26 [.int .i64 (wrap64 (e+1)),.slice (some ⟨g,0,none⟩) l.length cap]:=by rw [<- hw4];exact Blk.new w3 _ _
  have k4:Blk w4 (w.heap.size+1) 26 [.int .i64 0,.slice none 0 0]:=by rw [<- hw4];exact k3.alloc _
  have hB4:Below w.heap.size w w4:=by rw [<- hw4];exact hB3.alloc hB3.size _
  have hG4:RowG w2.heap.size w4 g l.length cap Z:=by
    rw [<- hw4]
    exact hG.below ((Below.refl w3.heap.size w3).alloc (Nat.le_refl _) _) (Nat.le_refl _)
  have hs4:w4.heap.size=w3.heap.size+1:=by rw [<- hw4];simp
  have d0:=m4.cell 0
  have d1:=m4.cell 1
  simp only [List.getElem?_cons_zero,List.getElem?_cons_succ] at d0 d1
  have M4:=hide m4
  have K4:=hide k4
  have HB4:=hide hB4
  have HG4:=hide hG4
  have HZ:=hide hZ
  clear m4 k4 hB4 hG4 hZ hG hb3 hB3 k3 ho3 HC c0 c1 hw2
  go_wp2
  go_loopw [15] (fun iv wr=>∃ (k:Nat) (Z:List (Ac × Value)),k<=l.length/\iv=.int .i64 (k:Int)/\Z.map (·.1)=frK (wrap64 (e+1)) l k/\RowG (w.heap.size+2) wr g l.length cap Z/\Blk wr w3.heap.size 26 [.int .i64 (wrap64 (e+1)),.slice (some ⟨g,0,none⟩) l.length cap]/\Blk wr (w.heap.size+1) 26 [.int .i64 0,.slice none 0 0]/\Below w.heap.size w wr) (fun iv _=>l.length - (intOf iv).toNat)
  case atStart=>exact ⟨0,Z,by omega,rfl,by rw [frK_zero];exact HZ.out,by rw [<- hs2];exact HG4.out,M4.out,K4.out,HB4.out⟩
  case round =>
    obtain ⟨k,Y,hk,rfl,hY,hG,m,kr,hb⟩:=hrel
    clear M4 K4 HB4 HG4 HZ d0 d1 hw4
    have hYl:=hG.len
    have hcap:=hG.caps
    by_cases hlt:k < l.length
    · have hkY:k < Y.length:=by omega
      have hYk:Y[k].1=l[k]:=by rw [fst_get hY k hkY (by rw [frK_len];exact hlt),frK_at _ _ _ hlt]
      obtain ⟨c0,c1,c2,c3,c4⟩:=hG.at k hkY
      have hown:=hG.lvs.own k hkY
      have hlen:=Hall.out l[k] (List.getElem_mem _)
      have Hnx:=hide (frK_next (wrap64 (e+1)) l k hlt)
      rw [<- hYk] at Hnx hlen
      have hshape:=hown.rd.shape
      obtain ⟨q,hq⟩:∃ q,Y[k]=q:=⟨_,rfl⟩
      rw [hq] at c0 c1 c2 c3 c4 hown hlen Hnx hshape
      obtain ⟨⟨nm,fr,no,st,ls⟩,lv⟩:=q
      simp only at c0 c1 c2 c3 c4 hown hlen Hnx hshape
      obtain ⟨av',cv',rfl⟩:=hshape
      have hli:(k:Int) < (l.length:Int):=by omega
      have hgl:=hG.lt
      obtain ⟨w5,hw5⟩:∃ w5,wr.alloc (.cells #[.string nm,.int .i64 fr,.int .i64 no,.int .i64 st,.slice av' ls.length cv'] 105)=w5:=⟨_,rfl⟩
      have hb5:Below wr.heap.size wr w5.drew:=by rw [<- hw5];exact ((Below.refl _ wr).alloc (Nat.le_refl _) _).drew
      have m5:Blk w5.drew w3.heap.size 26 [.int .i64 (wrap64 (e+1)),.slice (some ⟨g,0,none⟩) l.length cap]:=m.below hb5 m.lt
      have kr5:Blk w5.drew (w.heap.size+1) 26 [.int .i64 0,.slice none 0 0]:=kr.below hb5 kr.lt
      have n5:Blk w5.drew wr.heap.size 105 [.string nm,.int .i64 fr,.int .i64 no,.int .i64 st,.slice av' ls.length cv']:=by rw [<- hw5];exact Blk.new wr _ _
      have hG5:=hG.below hb5 (Nat.le_refl _)
      have ho5:=hown.below hb5 (Nat.le_refl _)
      have hB5:=hb.trans (hb5.mono hb.size)
      have HF:=hide (implFreed_any (nm,fr,no,st,ls) (.slice av' ls.length cv') (wrap64 (e+1)) w5.drew ho5.rd hlen)
      simp only [acV,frA] at HF
      have hml:=m.lt
      have hmb:=hb.size
      have Hm5:=hide m5
      have Hkr5:=hide kr5
      have Hn5:=hide n5
      have HG5:=hide hG5
      have HB5:=hide hB5
      have HQ:=hide hq
      have HSx:Hid (∀ W,Blk W w3.heap.size 26 [.int .i64 (wrap64 (e+1)),.slice (some ⟨g,0,none⟩) l.length cap]->Blk W wr.heap.size 105 [.string nm,.int .i64 fr,.int .i64 no,.int .i64 st,.slice av' ls.length cv']->W.cell? ⟨w3.heap.size,0,none⟩=some (.int .i64 (wrap64 (e+1)))/\W.cell? ⟨w3.heap.size,1,none⟩=some (.slice (some ⟨g,0,none⟩) l.length cap)/\W.cell? ⟨wr.heap.size,0,none⟩=some (.string nm)/\W.cell? ⟨wr.heap.size,1,none⟩=some (.int .i64 fr)/\W.cell? ⟨wr.heap.size,2,none⟩=some (.int .i64 no)/\W.cell? ⟨wr.heap.size,3,none⟩=some (.int .i64 st)/\W.cell? ⟨wr.heap.size,4,none⟩=some (.slice av' ls.length cv')):=hide (fun W h1 h2=>⟨h1.cell 0,h1.cell 1,h2.cell 0,h2.cell 1,h2.cell 2,h2.cell 3,h2.cell 4⟩)
      have hS5:=HSx.out _ m5 n5
      clear hq hG hown hb m kr m5 kr5 n5 hG5 ho5 hB5
      go_wp2
      go_region_held_law (fun w'=>w'.cell? ⟨w3.heap.size,0,none⟩=some (.int .i64 (wrap64 (e+1)))/\w'.cell? ⟨w3.heap.size,1,none⟩=some (.slice (some ⟨g,0,none⟩) l.length cap)/\w'.cell? ⟨wr.heap.size,0,none⟩=some (.string nm)/\w'.cell? ⟨wr.heap.size,1,none⟩=some (.int .i64 fr)/\w'.cell? ⟨wr.heap.size,2,none⟩=some (.int .i64 no)/\w'.cell? ⟨wr.heap.size,3,none⟩=some (.int .i64 st)/\w'.cell? ⟨wr.heap.size,4,none⟩=some (.slice av' ls.length cv')) (first | with_reducible exact hS5 | with_reducible exact hS6 | with_reducible exact HSx.out _ (Hm6.out.other5 _ _ _ _ _ _ _ (by omega)) (Hn6.out.other5 _ _ _ _ _ _ _ (by omega))) ((go_at_call 106;refine HF.out.mono ?_;rintro en w6 ⟨lv',rfl,ho6,hb6⟩;have hsh:=ho6.rd.shape;obtain ⟨a6,cv6,hv6⟩:=hsh;subst hv6;have Hm6:=hide (Hm5.out.below hb6 Hm5.out.lt);have Hn6:=hide (Hn5.out.below hb6 Hn5.out.lt);have HG6:=hide (HG5.out.below hb6 (Nat.le_refl _));have hS6:=HSx.out _ Hm6.out Hn6.out;have hat6:=HG6.out.at k hkY;rw [HQ.out] at hat6;have q0:=hat6.c0;have q1:=hat6.c1;have q2:=hat6.c2;have q3:=hat6.c3;have q4:=hat6.c4;simp only at q0 q1 q2 q3 q4;have f0:=HG6.out.frozen (k * 5);have f1:=HG6.out.frozen (k * 5+1);have f2:=HG6.out.frozen (k * 5+2);have f3:=HG6.out.frozen (k * 5+3);have f4:=HG6.out.frozen (k * 5+4);clear hat6))
      have hge6:=ho6.ge
      have hz5:w5.drew.heap.size=wr.heap.size+1:=by rw [<- hw5];simp
      have HP:=hide (HG6.out.put5 k hkY ((nm,frF (wrap64 (e+1)) fr ls,no,st,stL (wrap64 (e+1)) ls),.slice a6 (stL (wrap64 (e+1)) ls).length cv6) (ho6.mono (by omega)) (fun b hb=>by have:=hge6 b hb;omega) (fun i hi _ b hb e=>by have:=(HG5.out.lvs.own i hi).lt b hb;have:=hge6 b e;omega))
      have HB6:=hide (below_set5 (HB5.out.trans (hb6.mono HB5.out.size)) g (k * 5) (.string nm) (.int .i64 (frF (wrap64 (e+1)) fr ls)) (.int .i64 no) (.int .i64 st) (.slice a6 (stL (wrap64 (e+1)) ls).length cv6) (by omega))
      have Hm7:=hide (Hm6.out.other5 g (k * 5) (.string nm) (.int .i64 (frF (wrap64 (e+1)) fr ls)) (.int .i64 no) (.int .i64 st) (.slice a6 (stL (wrap64 (e+1)) ls).length cv6) (by omega))
      have Hk7:=hide ((Hkr5.out.below hb6 Hkr5.out.lt).other5 g (k * 5) (.string nm) (.int .i64 (frF (wrap64 (e+1)) fr ls)) (.int .i64 no) (.int .i64 st) (.slice a6 (stL (wrap64 (e+1)) ls).length cv6) (by omega))
      have HY2:Hid ((Y.set k ((nm,frF (wrap64 (e+1)) fr ls,no,st,stL (wrap64 (e+1)) ls),.slice a6 (stL (wrap64 (e+1)) ls).length cv6)).map (·.1)=frK (wrap64 (e+1)) l (k+1)):=hide (by rw [fst_set,hY];exact Hnx.out)
      clear ho6 hb6 hS6 hS5 HG6 Hm6 Hn6 hge6
      go_wp2
      go_roundw
      case rel=>exact ⟨k+1,_,by omega,by go_num,HY2.out,HP.out,Hm7.out,Hk7.out,HB6.out⟩
      case measure=>simp [intOf];omega
    · have ek:k=l.length:=by omega
      subst ek
      rw [frK_all] at hY
      have hG:=RowG.own hG
      rw [hY] at hG
      have d0:=m.cell 0
      have d1:=m.cell 1
      have r0:=kr.cell 0
      have r1:=kr.cell 1
      have g0:=kr.frozen 0
      have g1:=kr.frozen 1
      simp only [List.getElem?_cons_zero,List.getElem?_cons_succ] at d0 d1 r0 r1
      have hml:=m.lt
      have Ho:=hide (((hG.older (g:=w.heap.size+1) (by omega) 0 (.int .i64 (wrap64 (e+1)))).older (g:=w.heap.size+1) (by omega) 1 (.slice (some ⟨g,0,none⟩) l.length cap)).mono (show w.heap.size<=_ by omega))
      have HB:=hide ((hb.setCell (p:=⟨w.heap.size+1,0,none⟩) (show w.heap.size<=w.heap.size+1 by omega) (.int .i64 (wrap64 (e+1)))).setCell (p:=⟨w.heap.size+1,1,none⟩) (show w.heap.size<=w.heap.size+1 by omega) (.slice (some ⟨g,0,none⟩) l.length cap))
      clear hG hb m kr
      go_wp2
      refine bodyPost_ret (v:=.agg #[.int .i64 (wrap64 (e+1)),.slice (some ⟨g,0,none⟩) l.length cap]) (by simp [results,Tryz.f50,go_sem,r0,r1]) rfl ?_
      exact ⟨_,rfl,Ho.out,HB.out⟩
theorem implNext_any (e:Int) (v:Value) (l:List Ac) (w:World) (hr:RdA w v l) (hl:l.length<=4000000) (hall:∀ a ∈ l,a.1.size<=maxLen/\a.2.2.2.2.length<=4000000) :
    Calls Tryz.prog 11 #[lgV e v] w fun en w'=>∃ v',en=.returned (lgV (neA e l).1 v')/\OwnA w.heap.size w' v' (neA e l).2/\Below w.heap.size w w':=by
  obtain ⟨av,cv,rfl⟩:=hr.shape
  have hall2:∀ a ∈ l,a.2.2.2.2.length<=4000000:=fun a ha=>(hall a ha).2
  have hfa:=fr_all (wrap64 (e+1)) l hall
  obtain ⟨w2,hw2⟩:∃ w2,(w.alloc (.cells #[.int .i64 e,.slice av l.length cv] 26)).alloc (.cells #[.int .i64 0,.slice none 0 0] 26)=w2:=⟨_,rfl⟩
  have hs2:w2.heap.size=w.heap.size+2:=by rw [<- hw2];simp
  have hb2:Below w.heap.size w w2:=by rw [<- hw2];exact ((Below.refl _ w).alloc (Nat.le_refl _) _).alloc (by simp) _
  have k1:Blk w2 w.heap.size 26 [.int .i64 e,.slice av l.length cv]:=by
    rw [<- hw2]
    exact (Blk.new w 26 [.int .i64 e,.slice av l.length cv]).alloc _
  have k2:Blk w2 (w.heap.size+1) 26 [.int .i64 0,.slice none 0 0]:=by
    rw [<- hw2]
    have h:=Blk.new (w.alloc (.cells #[.int .i64 e,.slice av l.length cv] 26)) 26 [.int .i64 0,.slice none 0 0]
    simp only [World.size_alloc] at h
    exact h
  have c0:=k1.cell 0
  have c1:=k1.cell 1
  simp only [List.getElem?_cons_zero,List.getElem?_cons_succ] at c0 c1
  have r2:=hr.below hb2 (Nat.le_refl _)
  have HC:=hide (implBehindL_any e _ l w2 r2 hl hall2)
  have HO:=hide (fun w hr=>implLedgerOk_any e (.slice av l.length cv) l w hr hl hall)
  have HN:=hide (fun v w hr=>implLedgerOk_any (wrap64 (e+1)) v (l.map (frA (wrap64 (e+1)))) w hr (by simpa using hl) hfa)
  have HD:=hide (fun w hr=>implCopiedLg_any e (.slice av l.length cv) l w hr hl hall2)
  simp only [lgV] at HC HO HN HD ⊢
  have Hb2:=hide hb2
  have K1:=hide k1
  have K2:=hide k2
  have Hr2:=hide r2
  clear hr hb2 k1 k2 hall hall2 hfa r2
  go_enter Tryz.func11,Tryz.ntmps11
  go_wp2_with fail
  refine HC.out.mono ?_
  rintro en w3 ⟨v3,rfl,ho3,hb3⟩
  have hB3:=Hb2.out.trans (hb3.mono Hb2.out.size)
  have hs3:=hb3.size
  obtain ⟨a3,cv3,rfl⟩:=ho3.rd.shape
  obtain ⟨n,hn⟩:∃ n,(l.map (frA (wrap64 (e+1)))).length=n:=⟨_,rfl⟩
  rw [hn] at ho3
  obtain ⟨w4,hw4⟩:∃ w4,w3.alloc (.cells #[.int .i64 (wrap64 (e+1)),.slice a3 n cv3] 26)=w4:=⟨_,rfl⟩
  have b4:Below w3.heap.size w3 w4:=by rw [<- hw4];exact (Below.refl _ w3).alloc (Nat.le_refl _) _
  have hB4:Below w.heap.size w w4:=hB3.trans (b4.mono hB3.size)
  have n4:Blk w4 w3.heap.size 26 [.int .i64 (wrap64 (e+1)),.slice a3 n cv3]:=by rw [<- hw4];exact Blk.new w3 _ _
  have k14:=(K1.out.below hb3 K1.out.lt).below b4 (K1.out.below hb3 K1.out.lt).lt
  have k24:=(K2.out.below hb3 K2.out.lt).below b4 (K2.out.below hb3 K2.out.lt).lt
  have o4:=ho3.below b4 (Nat.le_refl _)
  have r4:=(Hr2.out.below hb3 (Nat.le_refl _)).below b4 (Nat.le_refl _)
  have hs4:w4.heap.size=w3.heap.size+1:=by rw [<- hw4];simp
  rw [hn]
  have d0:=k14.cell 0
  have d1:=k14.cell 1
  simp only [List.getElem?_cons_zero,List.getElem?_cons_succ] at d0 d1
  have Hno:Hid (lgB e l=false->neA e l=(e,l)):=hide neA_old
  have Hno2:Hid (lgB (wrap64 (e+1)) (l.map (frA (wrap64 (e+1))))=false->neA e l=(e,l)):=hide neA_new
  have Hyes:Hid (lgB e l=true->lgB (wrap64 (e+1)) (l.map (frA (wrap64 (e+1))))=true->neA e l=(wrap64 (e+1),l.map (frA (wrap64 (e+1))))):=hide neA_yes
  clear c0 c1 K1 K2 HC hb3 hB3 ho3 b4 Hr2
  go_wp2_with fail
  refine (HO.out _ r4).mono ?_
  rintro en w5 ⟨rfl,hb5⟩
  have hB5:Below w.heap.size w w5:=hB4.trans (hb5.mono hB4.size)
  have k15:=k14.below hb5 k14.lt
  have k25:=k24.below hb5 k24.lt
  have n5:=n4.below hb5 n4.lt
  have o5:=o4.below hb5 (Nat.le_refl _)
  have r5:=r4.below hb5 (Nat.le_refl _)
  clear d0 d1 k14 k24 n4 o4 r4 hB4
  cases h1:lgB e l
  · have Hne:=hide (Hno.out h1)
    have d0:=k15.cell 0
    have d1:=k15.cell 1
    simp only [List.getElem?_cons_zero,List.getElem?_cons_succ] at d0 d1
    clear Hno Hno2 Hyes h1
    go_wp2_with fail
    refine (HD.out _ r5).mono ?_
    rintro en w6 ⟨v6,rfl,ho6,hb6⟩
    have k26:=k25.below hb6 k25.lt
    obtain ⟨a6,cv6,rfl⟩:=ho6.rd.shape
    have r0:=k26.cell 0
    have r1:=k26.cell 1
    have g0:=k26.frozen 0
    have g1:=k26.frozen 1
    simp only [List.getElem?_cons_zero,List.getElem?_cons_succ] at r0 r1
    have hz5:=hb5.size
    have Ho:=hide (((ho6.older (g:=w.heap.size+1) (by omega) 0 (.int .i64 e)).older (g:=w.heap.size+1) (by omega) 1 (.slice a6 l.length cv6)).mono (show w.heap.size<=_ by omega))
    have HB:=hide (((hB5.trans (hb6.mono hB5.size)).setCell (p:=⟨w.heap.size+1,0,none⟩) (show w.heap.size<=w.heap.size+1 by omega) (.int .i64 e)).setCell (p:=⟨w.heap.size+1,1,none⟩) (show w.heap.size<=w.heap.size+1 by omega) (.slice a6 l.length cv6))
    clear ho6 hb6 k26
    go_wp2
    refine bodyPost_ret (v:=.agg #[.int .i64 e,.slice a6 l.length cv6]) (by simp [results,Tryz.f11,go_sem,r0,r1]) rfl ?_
    rw [Hne.out]
    exact ⟨_,rfl,Ho.out,HB.out⟩
  · have d0:=n5.cell 0
    have d1:=n5.cell 1
    simp only [List.getElem?_cons_zero,List.getElem?_cons_succ] at d0 d1
    have Hyes:=hide (Hyes.out h1)
    clear Hno h1
    go_wp2_with fail
    refine (HN.out _ _ o5.rd).mono ?_
    rintro en w7 ⟨rfl,hb7⟩
    have hB7:Below w.heap.size w w7:=hB5.trans (hb7.mono hB5.size)
    have k17:=k15.below hb7 k15.lt
    have k27:=k25.below hb7 k25.lt
    have n7:=n5.below hb7 n5.lt
    have o7:=o5.below hb7 (Nat.le_refl _)
    have r7:=r5.below hb7 (Nat.le_refl _)
    have hz7:=hb7.size
    clear d0 d1 k15 k25 n5 o5 r5
    cases h2:lgB (wrap64 (e+1)) (l.map (frA (wrap64 (e+1))))
    · have Hne:=hide (Hno2.out h2)
      have d0:=k17.cell 0
      have d1:=k17.cell 1
      simp only [List.getElem?_cons_zero,List.getElem?_cons_succ] at d0 d1
      clear Hno2 Hyes h2
      go_wp2_with fail
      refine (HD.out _ r7).mono ?_
      rintro en w6 ⟨v6,rfl,ho6,hb6⟩
      have k26:=k27.below hb6 k27.lt
      obtain ⟨a6,cv6,rfl⟩:=ho6.rd.shape
      have r0:=k26.cell 0
      have r1:=k26.cell 1
      have g0:=k26.frozen 0
      have g1:=k26.frozen 1
      simp only [List.getElem?_cons_zero,List.getElem?_cons_succ] at r0 r1
      have hz5:=hb5.size
      have Ho:=hide (((ho6.older (g:=w.heap.size+1) (by omega) 0 (.int .i64 e)).older (g:=w.heap.size+1) (by omega) 1 (.slice a6 l.length cv6)).mono (show w.heap.size<=_ by omega))
      have HB:=hide (((hB7.trans (hb6.mono hB7.size)).setCell (p:=⟨w.heap.size+1,0,none⟩) (show w.heap.size<=w.heap.size+1 by omega) (.int .i64 e)).setCell (p:=⟨w.heap.size+1,1,none⟩) (show w.heap.size<=w.heap.size+1 by omega) (.slice a6 l.length cv6))
      clear ho6 hb6 k26
      go_wp2
      refine bodyPost_ret (v:=.agg #[.int .i64 e,.slice a6 l.length cv6]) (by simp [results,Tryz.f11,go_sem,r0,r1]) rfl ?_
      rw [Hne.out]
      exact ⟨_,rfl,Ho.out,HB.out⟩
    · have Hne:=hide (Hyes.out h2)
      have d0:=n7.cell 0
      have d1:=n7.cell 1
      have r0:=k27.cell 0
      have r1:=k27.cell 1
      have g0:=k27.frozen 0
      have g1:=k27.frozen 1
      simp only [List.getElem?_cons_zero,List.getElem?_cons_succ] at d0 d1 r0 r1
      have hz5:=hb5.size
      have Ho:=hide (((o7.older (g:=w.heap.size+1) (by omega) 0 (.int .i64 (wrap64 (e+1)))).older (g:=w.heap.size+1) (by omega) 1 (.slice a3 n cv3)).mono (show w.heap.size<=_ by omega))
      have HB:=hide ((hB7.setCell (p:=⟨w.heap.size+1,0,none⟩) (show w.heap.size<=w.heap.size+1 by omega) (.int .i64 (wrap64 (e+1)))).setCell (p:=⟨w.heap.size+1,1,none⟩) (show w.heap.size<=w.heap.size+1 by omega) (.slice a3 n cv3))
      clear Hno2 Hyes h2 o7 r7 k17 k27 n7
      go_wp2
      refine bodyPost_ret (v:=.agg #[.int .i64 (wrap64 (e+1)),.slice a3 n cv3]) (by simp [results,Tryz.f11,go_sem,r0,r1]) rfl ?_
      rw [Hne.out]
      exact ⟨_,rfl,Ho.out,HB.out⟩
end Go.Proofs.YtohachldbpejpaaGreatDoor
