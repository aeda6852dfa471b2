/- What a block at a place does, plainly. -/
import Derived.Test.YtohachldbpejpaaGreatDoorZbLgText
import Derived.Test.YtohachldbpejpaaGreatDoorZbMerkRootI
set_option maxRecDepth 20000
set_option maxHeartbeats 4000000
namespace Go.Proofs.YtohachldbpejpaaGreatDoor
open Go.RowKit
set_option linter.unusedVariables false
def acT (a:Ac):ByteArray:=⟨(acP a).toArray⟩
def srB (e:Int) (l:List Ac):ByteArray:=if lgB e l=true then (if 64 < (l.map acT).length then ByteArray.empty else rootM (l.map acT)) else ByteArray.empty
structure AcSmall (a:Ac):Prop where
  nm:a.1.size<=1000
  lv:a.2.2.2.2.length<=1000
  b1:-9223372036854775808<=a.2.1/\a.2.1<=9223372036854775807
  b2:-9223372036854775808<=a.2.2.1/\a.2.2.1<=9223372036854775807
  b3:-9223372036854775808<=a.2.2.2.1/\a.2.2.2.1<=9223372036854775807
  b4:∀ p ∈ a.2.2.2.2,(-9223372036854775808<=p.1/\p.1<=9223372036854775807)/\(-9223372036854775808<=p.2/\p.2<=9223372036854775807)
theorem lvs_small {l:List (Int × Int)} (h:lvsB l=true):∀ p ∈ l,(-9223372036854775808<=p.1/\p.1<=9223372036854775807)/\(-9223372036854775808<=p.2/\p.2<=9223372036854775807):=by
  intro p hp
  obtain ⟨j,hj,rfl⟩:=List.mem_iff_getElem.1 hp
  unfold lvsB at h
  rw [List.all_eq_true] at h
  have:=h j (List.mem_range.2 hj)
  unfold lvAt at this
  rw [List.getD_eq_getElem?_getD,List.getElem?_eq_getElem hj] at this
  simp only [Bool.and_eq_true] at this
  have h1:=this.1
  have h2:=this.2.1
  unfold inB at h1 h2
  simp at h1 h2
  omega
theorem ac_small {a:Ac} (h:acB a=true):AcSmall a:=by
  unfold acB at h
  simp only [Bool.and_eq_true,decide_eq_true_eq] at h
  obtain ⟨h0,h1,h2,h3,h4,h5⟩:=h
  unfold nmB at h0
  simp only [Bool.and_eq_true] at h0
  have h6:=h0.2
  unfold inB at h1 h2 h3 h6
  simp only [decide_eq_true_eq] at h1 h2 h3 h6
  exact ⟨by omega,by omega,by omega,by omega,by omega,lvs_small h5⟩
theorem lg_small {e:Int} {l:List Ac} (h:lgB e l=true):∀ a ∈ l,AcSmall a:=by
  intro a ha
  obtain ⟨j,hj,rfl⟩:=List.mem_iff_getElem.1 ha
  unfold lgB acsB at h
  simp only [Bool.and_eq_true,List.all_eq_true] at h
  have:=h.2.1 j (List.mem_range.2 hj)
  unfold acAt at this
  rw [List.getD_eq_getElem?_getD,List.getElem?_eq_getElem hj,Bool.and_eq_true] at this
  exact ac_small this.1
theorem acT_size {a:Ac} (h:AcSmall a):(acT a).size<=1500000:=by
  have h1:=acHd_len a.1 a.2.1 a.2.2.1 a.2.2.2.1 (a.2.2.2.2.length:Int)
  have h2:=lvsP_len a.2.2.2.2
  have h3:=h.nm
  have h4:=h.lv
  have h5:(acT a).size=(acP a).length:=by simp [acT,ByteArray.size]
  rw [h5,acP,List.length_append]
  omega
theorem acT_all {l:List Ac} (h:∀ a ∈ l,AcSmall a):∀ s ∈ l.map acT,s.size<=1500000:=by
  intro s hs
  obtain ⟨a,ha,rfl⟩:=List.mem_map.1 hs
  exact acT_size (h a ha)
theorem acT_snoc (l:List Ac) (k:Nat) (h:k < l.length):(l.take (k+1)).map acT=(l.take k).map acT ++ [acT l[k]]:=by
  rw [List.take_succ_eq_append_getElem h,List.map_append];rfl
theorem RdA.at6 {w:World} {a:Option Addr} {cap i:Nat} {l:List Ac} (h:RdA w (.slice a l.length cap) l) (hi:i < l.length) :
    ∃ b off lv,a=some ⟨b,off,none⟩/\l.length<=cap/\cap<=maxLen/\b < w.heap.size/\AcAt w b (off+i * 5) l[i] lv/\RdL w lv l[i].2.2.2.2:=by
  rcases h with ⟨a',cap',e,rfl,-⟩ | ⟨b,off,cap',h0,e,h1,h2,h3,h4⟩
  · simp at hi
  · simp only [Value.slice.injEq,true_and] at e
    obtain ⟨rfl,rfl⟩:=e
    obtain ⟨lv,q1,q2⟩:=h4 i hi
    exact ⟨b,off,lv,rfl,h1,h2,h3,q1,q2⟩
theorem specStateRoot_any (e:Int) (v:Value) (l:List Ac) (w:World) (hr:RdA w v l) (hl:l.length<=4000000) (hall:∀ a ∈ l,a.1.size<=maxLen/\a.2.2.2.2.length<=4000000) :
    Calls Tryz.prog 86 #[lgV e v] w fun en w'=>en=.returned (.string (srB e l))/\Below w.heap.size w w':=by
  obtain ⟨a1,cv1,rfl⟩:=hr.shape
  simp only [lgV] at *
  obtain ⟨w2,hw2⟩:∃ w2,w.alloc (.cells #[.int .i64 e,.slice a1 l.length cv1] 26)=w2:=⟨_,rfl⟩
  have hb2:Below w.heap.size w w2:=by rw [<- hw2];exact (Below.refl _ w).alloc (Nat.le_refl _) _
  have k1:Blk w2 w.heap.size 26 [.int .i64 e,.slice a1 l.length cv1]:=by rw [<- hw2];exact Blk.new w _ _
  have HO:=hide (specLedgerOk_any e _ l w2 (hr.below hb2 (Nat.le_refl _)) hl hall)
  unfold lgV at HO
  have c0:=k1.cell 0
  have c1:=k1.cell 1
  simp only [List.getElem?_cons_zero,List.getElem?_cons_succ] at c0 c1
  have Hr:=hide hr
  have K1:=hide k1
  have Hb2:=hide hb2
  clear hr k1 hb2 hall
  have Hsm:=hide (fun h=>lg_small (e:=e) (l:=l) h)
  have HX:Hid (srB e l=if lgB e l=true then (if 64 < (l.map acT).length then ByteArray.empty else rootM (l.map acT)) else ByteArray.empty):=hide rfl
  cases hx:lgB e l
  · rw [hx,if_neg (by simp)] at HX
    rw [hx] at HO
    clear hx Hsm
    go_enter Tryz.func86,Tryz.ntmps86
    go_wp2_with fail
    refine HO.out.mono ?_
    rintro en w3 ⟨rfl,hb3⟩
    have HB:=hide (Hb2.out.trans (hb3.mono Hb2.out.size))
    clear c0 c1 hb3 hw2
    go_wp2
    go_ret
    exact ⟨by rw [HX.out] <;> rfl,HB.out⟩
  · rw [hx,if_pos rfl] at HX
    rw [hx] at HO
    have hsm:=Hsm.out hx
    clear hx Hsm
    go_enter Tryz.func86,Tryz.ntmps86
    go_wp2_with fail
    refine HO.out.mono ?_
    rintro en w3 ⟨rfl,hb3⟩
    have hs3:=hb3.size
    have k3:=K1.out.below hb3 K1.out.lt
    have Hb3:=hide hb3
    clear c0 c1 hb3 hw2
    have c0:=k3.cell 0
    have c1:=k3.cell 1
    simp only [List.getElem?_cons_zero,List.getElem?_cons_succ] at c0 c1
    obtain ⟨w4,hw4⟩:∃ w4,w3.alloc (.cells #[] 9)=w4:=⟨_,rfl⟩
    have b4:Below w2.heap.size w2 w4:=by rw [<- hw4];exact Hb3.out.alloc hs3 _
    have h4:OwnS w2.heap.size w4 (.slice (some ⟨w3.heap.size,0,none⟩) 0 0) []:=by rw [<- hw4];exact own_nilS w3 _ hs3
    go_wp2
    go_loopw [3,4] (fun tv iv wr=>∃ i:Nat,i<=l.length/\iv=.int .i64 (i:Int)/\OwnS w2.heap.size wr tv ((l.take i).map acT)/\Below w2.heap.size w2 wr) (fun _ iv _=>l.length - (intOf iv).toNat)
    case atStart=>exact ⟨0,by omega,rfl,by rw [List.take_zero];exact h4,b4⟩
    case round =>
      obtain ⟨i,hi,rfl,ho,hb⟩:=hrel
      clear k3 h4 hw4 b4
      have hwr:=hb.size
      have kr:=K1.out.below hb K1.out.lt
      have c0:=kr.cell 0
      have c1:=kr.cell 1
      simp only [List.getElem?_cons_zero,List.getElem?_cons_succ] at c0 c1
      by_cases hlt:i < l.length
      · obtain ⟨b,off,lv,rfl,hc1,hc2,hbw,hA,hL⟩:=Hr.out.at6 hlt
        have hB:=Hb2.out.trans (hb.mono Hb2.out.size)
        have hA':=hA.below hB hbw
        have hL':=hL.below hB (Nat.le_refl _)
        have sm:=hsm l[i] (List.getElem_mem _)
        have Hsn:=hide (acT_snoc l i hlt)
        have htl:((l.take i).map acT).length<=4000000:=by simp;omega
        have HT:=hide (specText_any l[i] lv wr hL' sm.nm sm.lv sm.b1 sm.b2 sm.b3 sm.b4)
        have HaT:Hid (acT l[i]=⟨(acP l[i]).toArray⟩):=hide rfl
        generalize (l.take i).map acT=pre at ho Hsn htl
        generalize l[i]=A at hA' hL' sm HT Hsn HaT
        obtain ⟨An,Af,Ao,As,Al⟩:=A
        obtain ⟨q0,q1,q2,q3,q4⟩:=hA'
        simp only [acV] at q0 q1 q2 q3 q4 HT
        obtain ⟨av,cv,rfl⟩:=hL'.shape
        have hli:(i:Int) < (l.length:Int):=by omega
        have Ho:=hide ho
        have Hb:=hide hb
        clear hA hL hL' sm ho hb kr hB
        generalize acP (An,Af,Ao,As,Al)=R at HT HaT
        go_wp2_with fail
        refine HT.out.mono ?_
        rintro en w5 ⟨rfl,hb5⟩
        have o5:=Ho.out.below hb5 (Nat.le_refl _)
        have hs5:=hb5.size
        have Hb5:=hide (Hb.out.trans (hb5.mono hwr))
        clear q0 q1 q2 q3 q4 c0 c1 hb5
        rw [<- HaT.out]
        generalize acT (An,Af,Ao,As,Al)=X at Hsn
        go_wp2_with (at_builtin;refine app_ownS _ rfl _ _ rfl w2.heap.size _ _ pre [X] rfl rfl (o5.alloc _) (rd6_one _ _ X (by simp) (c6_at rfl rfl)) (by simp;omega) (by first | omega | (simp;omega)) ?_;intro v1 w6 ho1 hb6)
        have HB:=hide ((Hb5.out.alloc (by omega) (.cells #[.string X] 9)).trans hb6)
        go_roundw
        case rel=>exact ⟨i+1,by omega,by go_num,by rw [Hsn.out];exact ho1,HB.out⟩
        case measure=>simp [intOf];omega
      · have ei:i=l.length:=by omega
        subst ei
        rw [List.take_length] at ho
        have HR:=hide (specRootOf_any (l.map acT) u3 wr (by simp;omega) ho.rd (acT_all hsm))
        have HB:=hide (Hb2.out.trans (hb.mono Hb2.out.size))
        generalize (if 64 < (l.map acT).length then ByteArray.empty else rootM (l.map acT))=R at HX HR
        clear ho hb kr hsm
        go_wp2_with fail
        refine HR.out.mono ?_
        rintro en w9 ⟨rfl,hb9⟩
        have HB9:=hide (HB.out.trans (hb9.mono HB.out.size))
        clear hb9 c0 c1
        go_wp2
        go_ret
        exact ⟨by rw [HX.out] <;> rfl,HB9.out⟩
theorem implStateRoot_any (e:Int) (v:Value) (l:List Ac) (w:World) (hr:RdA w v l) (hl:l.length<=4000000) (hall:∀ a ∈ l,a.1.size<=maxLen/\a.2.2.2.2.length<=4000000) (hgl:Gl w) :
    Calls Tryz.prog 15 #[lgV e v] w fun en w'=>en=.returned (.string (srB e l))/\Below w.heap.size w w':=by
  obtain ⟨a1,cv1,rfl⟩:=hr.shape
  simp only [lgV] at *
  obtain ⟨w2,hw2⟩:∃ w2,w.alloc (.cells #[.int .i64 e,.slice a1 l.length cv1] 26)=w2:=⟨_,rfl⟩
  have hb2:Below w.heap.size w w2:=by rw [<- hw2];exact (Below.refl _ w).alloc (Nat.le_refl _) _
  have k1:Blk w2 w.heap.size 26 [.int .i64 e,.slice a1 l.length cv1]:=by rw [<- hw2];exact Blk.new w _ _
  have HO:=hide (implLedgerOk_any e _ l w2 (hr.below hb2 (Nat.le_refl _)) hl hall)
  unfold lgV at HO
  have c0:=k1.cell 0
  have c1:=k1.cell 1
  simp only [List.getElem?_cons_zero,List.getElem?_cons_succ] at c0 c1
  have Hr:=hide hr
  have K1:=hide k1
  have Hb2:=hide hb2
  have Hgl:=hide hgl
  clear hr k1 hb2 hall hgl
  have Hsm:=hide (fun h=>lg_small (e:=e) (l:=l) h)
  have HX:Hid (srB e l=if lgB e l=true then (if 64 < (l.map acT).length then ByteArray.empty else rootM (l.map acT)) else ByteArray.empty):=hide rfl
  cases hx:lgB e l
  · rw [hx,if_neg (by simp)] at HX
    rw [hx] at HO
    clear hx Hsm
    go_enter Tryz.func15,Tryz.ntmps15
    go_wp2_with fail
    refine HO.out.mono ?_
    rintro en w3 ⟨rfl,hb3⟩
    have HB:=hide (Hb2.out.trans (hb3.mono Hb2.out.size))
    clear c0 c1 hb3 hw2
    go_wp2
    go_ret
    exact ⟨by rw [HX.out] <;> rfl,HB.out⟩
  · rw [hx,if_pos rfl] at HX
    rw [hx] at HO
    have hsm:=Hsm.out hx
    clear hx Hsm
    go_enter Tryz.func15,Tryz.ntmps15
    go_wp2_with fail
    refine HO.out.mono ?_
    rintro en w3 ⟨rfl,hb3⟩
    have hs3:=hb3.size
    have k3:=K1.out.below hb3 K1.out.lt
    have Hb3:=hide hb3
    clear c0 c1 hb3 hw2
    have c0:=k3.cell 0
    have c1:=k3.cell 1
    simp only [List.getElem?_cons_zero,List.getElem?_cons_succ] at c0 c1
    have b4:=Hb3.out
    go_wp2
    go_loopw [3,12] (fun tv iv wr=>∃ i:Nat,i<=l.length/\iv=.int .i64 (i:Int)/\OwnS w2.heap.size wr tv ((l.take i).map acT)/\Below w2.heap.size w2 wr) (fun _ iv _=>l.length - (intOf iv).toNat)
    case atStart=>exact ⟨0,by omega,rfl,by rw [List.take_zero];exact own_noneS _ _,b4⟩
    case round =>
      obtain ⟨i,hi,rfl,ho,hb⟩:=hrel
      clear k3 b4
      have hwr:=hb.size
      have kr:=K1.out.below hb K1.out.lt
      have c0:=kr.cell 0
      have c1:=kr.cell 1
      simp only [List.getElem?_cons_zero,List.getElem?_cons_succ] at c0 c1
      by_cases hlt:i < l.length
      · obtain ⟨b,off,lv,rfl,hc1,hc2,hbw,hA,hL⟩:=Hr.out.at6 hlt
        have hB:=Hb2.out.trans (hb.mono Hb2.out.size)
        have hA':=hA.below hB hbw
        have hL':=hL.below hB (Nat.le_refl _)
        have sm:=hsm l[i] (List.getElem_mem _)
        have Hsn:=hide (acT_snoc l i hlt)
        have htl:((l.take i).map acT).length<=4000000:=by simp;omega
        have HT:=hide (fun V (hv:Below wr.heap.size wr V)=>implText_any l[i] lv V (hL'.below hv (Nat.le_refl _)) sm.nm sm.lv sm.b1 sm.b2 sm.b3 sm.b4)
        have HaT:Hid (acT l[i]=⟨(acP l[i]).toArray⟩):=hide rfl
        generalize (l.take i).map acT=pre at ho Hsn htl
        generalize l[i]=A at hA' hL' sm HT Hsn HaT
        obtain ⟨An,Af,Ao,As,Al⟩:=A
        obtain ⟨q0,q1,q2,q3,q4⟩:=hA'
        simp only [acV] at q0 q1 q2 q3 q4 HT
        obtain ⟨av,cv,rfl⟩:=hL'.shape
        have hli:(i:Int) < (l.length:Int):=by omega
        have Ho:=hide ho
        have Hb:=hide hb
        clear hA hL hL' sm ho hb kr hB
        generalize acP (An,Af,Ao,As,Al)=R at HT HaT
        obtain ⟨w4,hw4⟩:∃ w4,wr.alloc (.cells #[.string An,.int .i64 Af,.int .i64 Ao,.int .i64 As,.slice av Al.length cv] 105)=w4:=⟨_,rfl⟩
        have b4:Below wr.heap.size wr w4:=by rw [<- hw4];exact (Below.refl _ wr).alloc (Nat.le_refl _) _
        have m4:Blk w4 wr.heap.size 105 [.string An,.int .i64 Af,.int .i64 Ao,.int .i64 As,.slice av Al.length cv]:=by rw [<- hw4];exact Blk.new wr _ _
        have x0:=m4.cell 0
        have x1:=m4.cell 1
        have x2:=m4.cell 2
        have x3:=m4.cell 3
        have x4:=m4.cell 4
        simp only [List.getElem?_cons_zero,List.getElem?_cons_succ] at x0 x1 x2 x3 x4
        have HT4:=hide (HT.out w4 b4)
        have hs4:=b4.size
        have Hb4:=hide b4
        clear m4 b4 HT
        go_wp2_with fail
        refine HT4.out.mono ?_
        rintro en w5 ⟨rfl,hb5⟩
        have o5:=(Ho.out.below Hb4.out (Nat.le_refl _)).below hb5 (Nat.le_refl _)
        have hs5:=hb5.size
        have Hb5:=hide ((Hb.out.trans (Hb4.out.mono hwr)).trans (hb5.mono (Nat.le_trans hwr hs4)))
        clear q0 q1 q2 q3 q4 c0 c1 hb5 x0 x1 x2 x3 x4 hw4
        rw [<- HaT.out]
        generalize acT (An,Af,Ao,As,Al)=X at Hsn
        go_wp2_with (at_builtin;refine app_ownS _ rfl _ _ rfl w2.heap.size _ _ pre [X] rfl rfl (o5.alloc _) (rd6_one _ _ X (by simp) (c6_at rfl rfl)) (by simp;omega) (by first | omega | (simp;omega)) ?_;intro v1 w6 ho1 hb6)
        have HB:=hide ((Hb5.out.alloc (by omega) (.cells #[.string X] 9)).trans hb6)
        go_roundw
        case rel=>exact ⟨i+1,by omega,by go_num,by rw [Hsn.out];exact ho1,HB.out⟩
        case measure=>simp [intOf];omega
      · have ei:i=l.length:=by omega
        subst ei
        rw [List.take_length] at ho
        have HR:=hide (implRootOf_any (l.map acT) u3 wr (by simp;omega) ho.rd (acT_all hsm) (Hgl.out.below (Hb2.out.trans (hb.mono Hb2.out.size)) (Nat.le_refl _)))
        have HB:=hide (Hb2.out.trans (hb.mono Hb2.out.size))
        generalize (if 64 < (l.map acT).length then ByteArray.empty else rootM (l.map acT))=R at HX HR
        clear ho hb kr hsm
        go_wp2_with fail
        refine HR.out.mono ?_
        rintro en w9 ⟨rfl,hb9⟩
        have HB9:=hide (HB.out.trans (hb9.mono HB.out.size))
        clear hb9 c0 c1
        go_wp2
        go_ret
        exact ⟨by rw [HX.out] <;> rfl,HB9.out⟩
theorem Blk.drewV {W:World} {B:Nat} {t:TypeId} {cs:List Value} (h:Blk W B t cs):Blk W.drew B t cs:=h
theorem Blk.newV (W:World) (t:TypeId) (cs:List Value) (n:Nat) (h:n=W.heap.size):Blk (W.alloc (.cells cs.toArray t)) n t cs:=by subst h;exact Blk.new W t cs
theorem OwnV.drew {base:Nat} {w:World} {v:Value} {l:List Vl} (h:OwnV base w v l):OwnV base w.drew v l:=h.below (Below.refl _ w).drew (Nat.le_refl _)
theorem step_appV {ops:Array Oper} {o:Oper} {a:Act} {w:World} {K:Act->World->Prop} {Q:Exit->Act->World->Prop} {E:Prop} (hgd:o.guard=none) (s x:Operand)
    (ho:o.op=.call { callee:=.builtin .append,args:=#[s,x],argTypes:=#[48,48] })
    (base:Nat) (v:Value) (B:Nat) (l:List Vl) (p:Vl) (hs:a.eval s=v) (hx:a.eval x=.slice (some ⟨B,0,none⟩) 1 1) (hown:OwnV base w v l) (hblk:Blk w B 124 (vlC p))
    (hlen:l.length<=100000000) (hbase:base<=w.heap.size)
    (h:∀ v' w',OwnV base w' v' (l ++ [p])->Below base w w'->K (a.put o.dst v') w'):if Region.wanted o (yielded ops a.tmps)=true then Oper.wp Tryz.prog o a w K Q else E:=by
  have hw:Region.wanted o (yielded ops a.tmps)=true:=by simp [Region.wanted,hgd]
  rw [if_pos hw]
  obtain ⟨i0,hi,hz0,hz1,hz2⟩:=info_parts Tryz.infoVl
  have hbel:∀ w',w.grownBy w' v.ownBlock->Below base w w':=fun w' hg=>(Below.refl _ _).grown hg hbase (fun k hk=>(hown.ge k hk))
  refine wp_append_own w s x 48 ho base 124 i0 (.agg #[.string { data:=#[] },.int .i64 0]) 2 24 Tryz.underlying48 hi hz0 hz1 hz2 rfl (by decide) v l.length (l.map vlC).flatten hs hown ⟨B,0,none⟩ 1 1 (vlC p) hx rfl ?_ ?_ (by unfold maxLen;omega) (by omega) hbase ?_
  · intro j u hj
    rw [add_flatV,Nat.zero_add,hblk.cell j]
    exact hj
  · intro u hu
    simp only [vlC,List.mem_cons,List.not_mem_nil,or_false] at hu
    rcases hu with rfl | rfl <;> rfl
  · intro v' w' ho' hg _
    exact h v' w' (by unfold OwnV;rw [List.length_append,List.map_append,List.flatten_append];simpa using ho') (hbel w' hg)
theorem RdA.atV {w:World} {a:Option Addr} {cap i:Nat} {l:List Ac} (h:RdA w (.slice a l.length cap) l) (hi:i < l.length) :
    ∃ b off lv,a=some ⟨b,off,none⟩/\l.length<=cap/\cap<=maxLen/\b < w.heap.size/\AcAt w b (off+i * 5) l[i] lv/\RdL w lv l[i].2.2.2.2:=by
  rcases h with ⟨a',cap',e,rfl,-⟩ | ⟨b,off,cap',h0,e,h1,h2,h3,h4⟩
  · simp at hi
  · simp only [Value.slice.injEq,true_and] at e
    obtain ⟨rfl,rfl⟩:=e
    obtain ⟨lv,q1,q2⟩:=h4 i hi
    exact ⟨b,off,lv,rfl,h1,h2,h3,q1,q2⟩
def setV (l:List Ac):List Vl:=(l.filter (fun a=>decide (5<=a.2.2.2.1))).map (fun a=>(a.1,a.2.2.2.1))
theorem setV_len (l:List Ac):(setV l).length<=l.length:=by unfold setV;rw [List.length_map];exact List.length_filter_le _ _
theorem setV_in (l:List Ac) (k:Nat) (h:k < l.length) (hs:5<=l[k].2.2.2.1):setV (l.take (k+1))=setV (l.take k) ++ [(l[k].1,l[k].2.2.2.1)]:=by
  unfold setV
  rw [List.take_succ_eq_append_getElem h,List.filter_append,List.map_append]
  simp [hs]
theorem setV_out (l:List Ac) (k:Nat) (h:k < l.length) (hs:¬ 5<=l[k].2.2.2.1):setV (l.take (k+1))=setV (l.take k):=by
  unfold setV
  rw [List.take_succ_eq_append_getElem h,List.filter_append,List.map_append]
  simp [hs]
def setA (e:Int) (l:List Ac):List Vl:=if lgB e l=true then setV l else []
theorem setA_len (e:Int) (l:List Ac):(setA e l).length<=l.length:=by
  unfold setA
  split
  · exact setV_len l
  · simp
theorem specL7Set_any (e:Int) (v:Value) (l:List Ac) (w:World) (hr:RdA w v l) (hl:l.length<=4000000) :
    Calls Tryz.prog 144 #[lgV e v] w fun en w'=>∃ v',en=.returned v'/\OwnV w.heap.size w' v' (setV l)/\Below w.heap.size w w':=by
  obtain ⟨av,cv,rfl⟩:=hr.shape
  simp only [lgV] at *
  obtain ⟨w1,hw1⟩:∃ w1,w.alloc (.cells #[.int .i64 e,.slice av l.length cv] 26)=w1:=⟨_,rfl⟩
  have hb1:Below w.heap.size w w1:=by rw [<- hw1];exact (Below.refl _ w).alloc (Nat.le_refl _) _
  have kL:Blk w1 w.heap.size 26 [.int .i64 e,.slice av l.length cv]:=by rw [<- hw1];exact Blk.new w _ _
  have hs1:w1.heap.size=w.heap.size+1:=by rw [<- hw1];simp
  have ho0:=own_nilV w1 (w.heap.size+1) (by omega)
  have hb0:Below (w.heap.size+1) w1 (w1.alloc (.cells #[] 124)):=(Below.refl _ w1).alloc (by omega) _
  have Hr:=hide (hr.below hb1 (Nat.le_refl _))
  have KL:=hide kL
  have HO:=hide ho0
  have HB:=hide hb0
  have HB1:=hide hb1
  have HS1:=hide hs1
  clear hr ho0 hb0 hb1 kL hs1
  go_enter Tryz.func144,Tryz.ntmps144
  go_wp2
  go_loopw [3,4] (fun ov iv wr=>∃ k:Nat,k<=l.length/\iv=.int .i64 (k:Int)/\OwnV (w.heap.size+1) wr ov (setV (l.take k))/\Below (w.heap.size+1) w1 wr) (fun _ iv _=>l.length - (intOf iv).toNat)
  case atStart=>exact ⟨0,by omega,rfl,HO.out,HB.out⟩
  case round =>
    obtain ⟨k,hk,rfl,ho,hb⟩:=hrel
    have hbs:=hb.size
    have hs1:=HS1.out
    have kR:=KL.out.below hb (by omega)
    have x0:=kR.cell 0
    have x1:=kR.cell 1
    simp only [List.getElem?_cons_zero,List.getElem?_cons_succ] at x0 x1
    clear HO HB
    by_cases hlt:k < l.length
    · obtain ⟨b,off,lv,rfl,hc1,hc2,hbw,hat,-⟩:=Hr.out.atV hlt
      have hli:(k:Int) < (l.length:Int):=by omega
      have hlen:=setV_len (l.take k)
      have htk:(l.take k).length<=l.length:=by simp;omega
      have hbw1:b < w.heap.size+1:=by omega
      have hwr:w.heap.size+1<=wr.heap.size:=by omega
      have c0:=(hb.cell (p:=⟨b,off+k * 5,none⟩) hbw1).trans hat.c0
      have c3:=(hb.cell (p:=⟨b,off+k * 5+3,none⟩) hbw1).trans hat.c3
      have Hin:=hide (setV_in l k hlt)
      have Hout:=hide (setV_out l k hlt)
      clear hat
      generalize setV (l.take k)=S at ho hlen Hin Hout
      generalize l[k].1=nm at c0 Hin
      generalize l[k].2.2.2.1=st at c3 Hin Hout
      have Ho:=hide ho
      have Hb:=hide hb
      clear ho hb kR hs1
      by_cases hst:5<=st
      · have Hin:=hide (Hin.out hst)
        clear Hout
        have hwlt:w.heap.size < w.heap.size+1:=Nat.lt_succ_self _
        go_wp2
        go_region_held_law (fun w'=>w'.cell? ⟨w.heap.size,1,none⟩=some (.slice (some ⟨b,off,none⟩) l.length cv)/\w'.cell? ⟨b,off+k * 5,none⟩=some (.string nm)/\w'.cell? ⟨b,off+k * 5+3,none⟩=some (.int .i64 st)) (go_keep)
          ((refine step_appV rfl _ _ rfl (w.heap.size+1) u3 wr.heap.size S (nm,st) (by rfl) (by rfl) (Ho.out.alloc _).drew (Blk.newV wr _ (vlC (nm,st)) _ rfl).drewV (by omega) (by simp;omega) ?_;intro v3 w3 ho3 hb3;have hbB:Below (w.heap.size+1) wr w3:=(((Below.refl _ wr).alloc (by omega) _).drew).trans hb3;have y1:=(hbB.cell (p:=⟨w.heap.size,1,none⟩) hwlt).trans x1;have y2:=(hbB.cell (p:=⟨b,off+k * 5,none⟩) hbw1).trans c0;have y3:=(hbB.cell (p:=⟨b,off+k * 5+3,none⟩) hbw1).trans c3))
        go_wp2
        go_roundw
        case rel=>exact ⟨k+1,by omega,by go_num,by rw [Hin.out];exact ho3,Hb.out.trans hbB⟩
        case measure=>simp [intOf];omega
      · have Hout:=hide (Hout.out hst)
        clear Hin
        have hst':¬ (5:Int)<=st:=hst
        go_wp2
        go_roundw
        case rel=>exact ⟨k+1,by omega,by go_num,by rw [Hout.out];exact Ho.out,Hb.out⟩
        case measure=>simp [intOf];omega
    · have ek:k=l.length:=by omega
      subst ek
      rw [List.take_length] at ho
      have Ho:=hide (show OwnV w.heap.size wr _ (setV l) from ho.mono (by omega))
      have Hb:=hide (HB1.out.trans (hb.mono (by omega)))
      clear ho hb kR hs1
      go_wp2
      go_ret
      exact ⟨_,rfl,Ho.out,Hb.out⟩
theorem specSetOf_any (e:Int) (v:Value) (l:List Ac) (w:World) (hr:RdA w v l) (hl:l.length<=4000000) (hall:∀ a ∈ l,a.1.size<=maxLen/\a.2.2.2.2.length<=4000000) :
    Calls Tryz.prog 85 #[lgV e v] w fun en w'=>∃ v',en=.returned v'/\OwnV w.heap.size w' v' (setA e l)/\Below w.heap.size w w':=by
  obtain ⟨av,cv,rfl⟩:=hr.shape
  obtain ⟨w1,hw1⟩:∃ w1,w.alloc (.cells #[.int .i64 e,.slice av l.length cv] 26)=w1:=⟨_,rfl⟩
  have hb1:Below w.heap.size w w1:=by rw [<- hw1];exact (Below.refl _ w).alloc (Nat.le_refl _) _
  have k1:Blk w1 w.heap.size 26 [.int .i64 e,.slice av l.length cv]:=by rw [<- hw1];exact Blk.new w _ _
  have HK:=hide (specLedgerOk_any e _ l w1 (hr.below hb1 (Nat.le_refl _)) hl hall)
  have HS:=hide (fun w h=>specL7Set_any e (.slice av l.length cv) l w h hl)
  have Hr:=hide (hr.below hb1 (Nat.le_refl _))
  have Hx:Hid (setA e l=if lgB e l=true then setV l else []):=hide rfl
  have c0:=k1.cell 0
  have c1:=k1.cell 1
  simp only [List.getElem?_cons_zero,List.getElem?_cons_succ] at c0 c1
  simp only [lgV] at *
  clear hr hall
  generalize setA e l=X at Hx ⊢
  generalize setV l=Y at Hx HS
  cases hok:lgB e l
  · rw [hok] at HK Hx
    rw [if_neg (by simp)] at Hx
    clear hok HS
    go_enter Tryz.func85,Tryz.ntmps85
    go_wp2_with fail
    refine HK.out.mono ?_
    rintro en w2 ⟨rfl,hb2⟩
    have hB2:=hb1.trans (hb2.mono hb1.size)
    have Ho:=hide (own_nilV w2 w.heap.size hB2.size)
    have Hb:=hide (hB2.alloc hB2.size (.cells #[] 124))
    clear c0 c1 k1
    go_wp2
    go_ret
    exact ⟨_,rfl,by rw [Hx.out];exact Ho.out,Hb.out⟩
  · rw [hok] at HK Hx
    rw [if_pos rfl] at Hx
    clear hok
    go_enter Tryz.func85,Tryz.ntmps85
    go_wp2_with fail
    refine HK.out.mono ?_
    rintro en w2 ⟨rfl,hb2⟩
    have hB2:=hb1.trans (hb2.mono hb1.size)
    have k2:=k1.below hb2 k1.lt
    have d0:=k2.cell 0
    have d1:=k2.cell 1
    simp only [List.getElem?_cons_zero,List.getElem?_cons_succ] at d0 d1
    clear c0 c1 k1
    go_wp2_with fail
    refine (HS.out _ (Hr.out.below hb2 (Nat.le_refl _))).mono ?_
    rintro en w3 ⟨v3,rfl,ho3,hb3⟩
    have hB3:=hB2.trans (hb3.mono hB2.size)
    have Ho:=hide (ho3.mono hB2.size)
    clear ho3
    go_wp2
    go_ret
    exact ⟨_,rfl,by rw [Hx.out];exact Ho.out,hB3⟩
theorem implSetOf_any (e:Int) (v:Value) (l:List Ac) (w:World) (hr:RdA w v l) (hl:l.length<=4000000) (hall:∀ a ∈ l,a.1.size<=maxLen/\a.2.2.2.2.length<=4000000) :
    Calls Tryz.prog 125 #[lgV e v] w fun en w'=>∃ v',en=.returned v'/\OwnV w.heap.size w' v' (setA e l)/\Below w.heap.size w w':=by
  obtain ⟨av,cv,rfl⟩:=hr.shape
  obtain ⟨w1,hw1⟩:∃ w1,(w.alloc (.cells #[.int .i64 e,.slice av l.length cv] 26)).alloc (.cells #[] 124)=w1:=⟨_,rfl⟩
  have hb1:Below w.heap.size w w1:=by rw [<- hw1];exact ((Below.refl _ w).alloc (Nat.le_refl _) _).alloc (by simp) _
  have k1:Blk w1 w.heap.size 26 [.int .i64 e,.slice av l.length cv]:=by rw [<- hw1];exact (Blk.new w 26 [.int .i64 e,.slice av l.length cv]).below ((Below.refl (w.heap.size+1) _).alloc (by simp) _) (by omega)
  have o1:OwnV (w.heap.size+1) w1 (.slice (some ⟨w.heap.size+1,0,none⟩) 0 0) []:=by
    rw [<- hw1]
    have h:=own_nilV (w.alloc (.cells #[.int .i64 e,.slice av l.length cv] 26)) (w.heap.size+1) (by simp)
    simp only [World.size_alloc] at h
    exact h
  have hs1:w1.heap.size=w.heap.size+2:=by rw [<- hw1];simp
  have HK:=hide (implLedgerOk_any e _ l w1 (hr.below hb1 (Nat.le_refl _)) hl hall)
  have Hr:=hide hr
  have Hx:Hid (setA e l=if lgB e l=true then setV l else []):=hide rfl
  have c0:=k1.cell 0
  have c1:=k1.cell 1
  have HS1:=hide hs1
  simp only [List.getElem?_cons_zero,List.getElem?_cons_succ] at c0 c1
  simp only [lgV] at *
  clear hr hall hs1
  generalize setA e l=X at Hx ⊢
  cases hok:lgB e l
  · rw [hok] at HK Hx
    rw [if_neg (by simp)] at Hx
    clear hok
    have O1:=hide o1
    clear o1
    go_enter Tryz.func125,Tryz.ntmps125
    go_wp2_with fail
    refine HK.out.mono ?_
    rintro en w2 ⟨rfl,hb2⟩
    have Hb:=hide (hb1.trans (hb2.mono hb1.size))
    have Ho:=hide ((O1.out.below hb2 (Nat.le_refl _)).mono (show w.heap.size<=w.heap.size+1 by omega))
    clear c0 c1 k1
    go_wp2
    go_ret
    exact ⟨_,rfl,by rw [Hx.out];exact Ho.out,Hb.out⟩
  · rw [hok] at HK Hx
    rw [if_pos rfl] at Hx
    clear hok
    have O1:=hide o1
    clear o1
    go_enter Tryz.func125,Tryz.ntmps125
    go_wp2_with fail
    refine HK.out.mono ?_
    rintro en w2 ⟨rfl,hb2⟩
    have HB2:=hide (hb1.trans (hb2.mono hb1.size))
    have k2:=k1.below hb2 k1.lt
    have d0:=k2.cell 0
    have d1:=k2.cell 1
    simp only [List.getElem?_cons_zero,List.getElem?_cons_succ] at d0 d1
    have HO:=hide (O1.out.below hb2 (Nat.le_refl _))
    have hs2:=hb2.size
    clear c0 c1 k1 k2 O1 hb2 hb1 hw1
    go_wp2
    go_loopw [3,14] (fun ov iv wr=>∃ k:Nat,k<=l.length/\iv=.int .i64 (k:Int)/\OwnV (w.heap.size+1) wr ov (setV (l.take k))/\Below (w.heap.size+1) w2 wr) (fun _ iv _=>l.length - (intOf iv).toNat)
    case atStart=>exact ⟨0,by omega,rfl,HO.out,Below.refl _ _⟩
    case round =>
      obtain ⟨k,hk,rfl,ho,hb⟩:=hrel
      have hbs:=hb.size
      have hs1:=HS1.out
      have hBw:Below w.heap.size w wr:=HB2.out.trans (hb.mono (by omega))
      clear HO d0 d1
      by_cases hlt:k < l.length
      · obtain ⟨b,off,lv,rfl,hc1,hc2,hbw,hat,hrl⟩:=Hr.out.atV hlt
        have hli:(k:Int) < (l.length:Int):=by omega
        have hlen:=setV_len (l.take k)
        have htk:(l.take k).length<=l.length:=by simp;omega
        have hwr:w.heap.size+1<=wr.heap.size:=by omega
        obtain ⟨c0,c1,c2,c3,c4⟩:=hat.below hBw hbw
        have Hin:=hide (setV_in l k hlt)
        have Hout:=hide (setV_out l k hlt)
        obtain ⟨la,lc,rfl⟩:=hrl.shape
        clear hat hrl
        generalize setV (l.take k)=S at ho hlen Hin Hout
        generalize l[k]=ak at c0 c1 c2 c3 c4 Hin Hout
        obtain ⟨nm,fr,no,st,ls⟩:=ak
        simp only at c0 c1 c2 c3 c4 Hin Hout
        obtain ⟨w4,hw4⟩:∃ w4,wr.alloc (.cells #[.string nm,.int .i64 fr,.int .i64 no,.int .i64 st,.slice la ls.length lc] 105)=w4:=⟨_,rfl⟩
        have hA:Below wr.heap.size wr w4:=by rw [<- hw4];exact (Below.refl _ wr).alloc (Nat.le_refl _) _
        have k4:Blk w4 wr.heap.size 105 [.string nm,.int .i64 fr,.int .i64 no,.int .i64 st,.slice la ls.length lc]:=by rw [<- hw4];exact Blk.new wr _ _
        have l4:w4.heap.size=wr.heap.size+1:=by rw [<- hw4];simp
        have L4:=hide l4
        have e0:=k4.cell 0
        have e3:=k4.cell 3
        simp only [List.getElem?_cons_zero,List.getElem?_cons_succ] at e0 e3
        have Ho:=hide (ho.below hA (Nat.le_refl _))
        have hlo:=ho.lt
        have Hb:=hide (hb.trans (hA.mono (by omega)))
        have HbA:=hide (hb.trans (hA.mono hwr))
        clear ho hb hBw hs1 l4
        by_cases hst:5<=st
        · have Hin:=hide (Hin.out hst)
          clear Hout
          have l4:=L4.out
          have hbase:w.heap.size+1<=w4.heap.size+1:=by omega
          clear l4
          go_wp2_with (at_builtin;refine app_ownV _ rfl _ _ rfl (w.heap.size+1) _ _ S [(nm,st)] rfl rfl (Ho.out.alloc _) (rd_one_v _ _ nm st (by simp)) (by simp;omega) (by simp;omega) ?_;intro v1 wn ho1 hg1 hb1)
          go_roundw
          case rel=>exact ⟨k+1,by omega,by go_num,by rw [Hin.out];exact ho1,(HbA.out.alloc (by have:=L4.out;omega) _).trans hb1⟩
          case measure=>simp [intOf];omega
        · have Hout:=hide (Hout.out hst)
          clear Hin
          go_wp2
          go_roundw
          case rel=>exact ⟨k+1,by omega,by go_num,by rw [Hout.out];exact Ho.out,HbA.out⟩
          case measure=>simp [intOf];omega
      · have ek:k=l.length:=by omega
        subst ek
        rw [List.take_length] at ho
        have Ho:=hide (show OwnV w.heap.size wr _ (setV l) from ho.mono (by omega))
        have Hb:=hide hBw
        clear ho hb hBw hs1
        go_wp2
        go_ret
        exact ⟨_,rfl,by rw [Hx.out];exact Ho.out,Hb.out⟩
theorem neA_few {e:Int} {l:List Ac} (hl:l.length<=3999999) (hall:∀ a ∈ l,a.1.size<=maxLen/\a.2.2.2.2.length<=3999999) :
    (neA e l).2.length<=3999999/\∀ a ∈ (neA e l).2,a.1.size<=maxLen/\a.2.2.2.2.length<=3999999:=by
  rcases neA_is e l with h | h
  · rw [h]
    exact ⟨hl,hall⟩
  · refine ⟨by have:=(acs_parts h).1;omega,fun a ha=>?_⟩
    have hp:=ac_parts (acs_all h a ha)
    have hn:=hp.1
    unfold nmB inB at hn
    simp only [Bool.and_eq_true,decide_eq_true_eq] at hn
    exact ⟨by unfold maxLen;omega,by omega⟩
structure Bd where
  ts:List Tx5
  en:Bool
  nx:List Vl
  rt:ByteArray
def bdC (e:Int) (z:List Ac) (l:List Bk) (C:List Nat) (ts:List Tx5) (most:Nat):Bd :=
  if C.any (enAt l)=true then ⟨[],false,[],{ data:=#[] }⟩
  else if C.length=1 then ⟨(gdA e (foL e z l C) ts most).2,true,setA (neA e (gdA e (foL e z l C) ts most).1).1 (neA e (gdA e (foL e z l C) ts most).1).2,srB (neA e (gdA e (foL e z l C) ts most).1).1 (neA e (gdA e (foL e z l C) ts most).1).2⟩
  else ⟨(gdA e (foL e z l C) ts most).2,false,[],{ data:=#[] }⟩
theorem bdC_x {e:Int} {z:List Ac} {l:List Bk} {C:List Nat} {ts:List Tx5} {most:Nat} (h:¬ C.any (enAt l)=true) :
    (C.length=1->bdC e z l C ts most=⟨(gdA e (foL e z l C) ts most).2,true,setA (neA e (gdA e (foL e z l C) ts most).1).1 (neA e (gdA e (foL e z l C) ts most).1).2,srB (neA e (gdA e (foL e z l C) ts most).1).1 (neA e (gdA e (foL e z l C) ts most).1).2⟩) /\
    (¬ C.length=1->bdC e z l C ts most=⟨(gdA e (foL e z l C) ts most).2,false,[],{ data:=#[] }⟩) :=
  ⟨fun h1=>by unfold bdC;rw [if_neg h,if_pos h1],fun h1=>by unfold bdC;rw [if_neg h,if_neg h1]⟩
def bdA (e:Int) (z:List Ac) (l:List Bk) (id:Int) (ts:List Tx5) (most:Nat):Bd × Bool :=
  if treeB l=true/\(chT l id=[]->id=-1) then (bdC e z l (chT l id) ts most,true) else (⟨[],false,[],{ data:=#[] }⟩,false)
end Go.Proofs.YtohachldbpejpaaGreatDoor
