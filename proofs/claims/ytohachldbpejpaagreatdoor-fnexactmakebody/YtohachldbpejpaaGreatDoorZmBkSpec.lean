/- The model's blocks that are right. -/
import Derived.Deep.DeepCutAuto
import Derived.Test.YtohachldbpejpaaGreatDoorZmLgApplyS
set_option maxRecDepth 20000
set_option maxHeartbeats 4000000
namespace Go.Proofs.YtohachldbpejpaaGreatDoor
end Go.Proofs.YtohachldbpejpaaGreatDoor
namespace Go.Proofs.YtohachldbpejpaaGreatDoor
open Go.RowKit
set_option linter.unusedVariables false
theorem RdT.at {w:World} {a:Option Addr} {cap i:Nat} {l:List Tx5} (h:RdT w (.slice a l.length cap) l) (hi:i < l.length) :
    ∃ b off,a=some ⟨b,off,none⟩/\l.length<=cap/\cap<=maxLen/\b < w.heap.size/\TxAt w b (off+i * 5) l[i]:=by
  rcases h with ⟨a',cap',e,rfl,-⟩ | ⟨b,off,cap',h0,e,h1,h2,h3,h4⟩
  · simp at hi
  · simp only [Value.slice.injEq,true_and] at e
    obtain ⟨rfl,rfl⟩:=e
    exact ⟨b,off,rfl,h1,h2,h3,h4 i hi⟩
theorem specAll_any (e:Int) (v vt:Value) (l:List Ac) (ts:List Tx5) (w:World) (hr:RdA w v l) (hrt:RdT w vt ts) (hl:l.length<=3999999) (hall:∀ a ∈ l,a.1.size<=maxLen/\a.2.2.2.2.length<=3999999) (hts:ts.length<=4000000) (hta:∀ t ∈ ts,t.2.1.size<=maxLen/\t.2.2.1.size<=maxLen) :
    Calls Tryz.prog 81 #[lgV e v,vt] w fun en w'=>∃ v',en=.returned (.tuple #[lgV e v',.int .i64 ((alA e l ts).2:Int)])/\OwnA w.heap.size w' v' (alA e l ts).1/\Below w.heap.size w w':=by
  obtain ⟨av,cv,rfl⟩:=hr.shape
  obtain ⟨at_,ct,rfl⟩:=hrt.shape
  have hall2:∀ a ∈ l,a.2.2.2.2.length<=4000000:=fun a ha=>by have:=hall a ha;omega
  simp only [lgV] at *
  obtain ⟨w2,hw2⟩:∃ w2,(w.alloc (.cells #[.int .i64 e,.slice av l.length cv] 26)).alloc (.cells #[.int .i64 0,.slice none 0 0] 26)=w2:=⟨_,rfl⟩
  have hs2:w2.heap.size=w.heap.size+2:=by rw [<- hw2];simp
  have hb2:Below w.heap.size w w2:=by rw [<- hw2];exact ((Below.refl _ w).alloc (Nat.le_refl _) _).alloc (by simp) _
  have kA:Blk w2 w.heap.size 26 [.int .i64 e,.slice av l.length cv]:=by
    rw [<- hw2]
    exact (Blk.new w 26 [.int .i64 e,.slice av l.length cv]).below ((Below.refl (w.heap.size+1) _).alloc (by simp) _) (by omega)
  have kR:Blk w2 (w.heap.size+1) 26 [.int .i64 0,.slice none 0 0]:=by
    rw [<- hw2]
    have h:=Blk.new (w.alloc (.cells #[.int .i64 e,.slice av l.length cv] 26)) 26 [.int .i64 0,.slice none 0 0]
    simp only [World.size_alloc] at h
    exact h
  have HC:=hide (specL6Copy_any e (.slice av l.length cv) l w2 (hr.below hb2 (Nat.le_refl _)) (by omega) hall2)
  simp only [lgV] at HC
  have HS2:=hide hs2
  have Hb2:=hide hb2
  have KR:=hide kR
  have Hrt:=hide (hrt.below hb2 (Nat.le_refl _))
  have Hfew:=hide (fun k=>alA_few (e:=e) (ts.take k) hl hall)
  have Hta:=hide hta
  have c0:=kA.cell 0
  have c1:=kA.cell 1
  simp only [List.getElem?_cons_zero,List.getElem?_cons_succ] at c0 c1
  clear hr hrt hb2 kA kR hall hall2 hta hs2
  go_enter Tryz.func81,Tryz.ntmps81
  go_wp2_with fail
  refine HC.out.mono ?_
  rintro en w3 ⟨v3,rfl,o3,hb3⟩
  obtain ⟨a3,c3,rfl⟩:=o3.rd.shape
  obtain ⟨w4,hw4⟩:∃ w4,w3.alloc (.cells #[.int .i64 e,.slice a3 l.length c3] 26)=w4:=⟨_,rfl⟩
  have b4:Below w3.heap.size w3 w4:=by rw [<- hw4];exact (Below.refl _ w3).alloc (Nat.le_refl _) _
  have K4:Hid (Blk w4 w3.heap.size 26 [.int .i64 e,.slice a3 l.length c3]):=hide (by rw [<- hw4];exact Blk.new w3 _ _)
  have X4:=hide (o3.ox.below b4 (Nat.le_refl _))
  have B4:=hide (hb3.trans (b4.mono hb3.size))
  have hz3:=hb3.size
  clear o3 hb3 b4 c0 c1 hw2
  go_wp2
  go_loopw [7,8] (fun nv iv wr=>∃ (i:Nat) (a:Option Addr) (c base hi:Nat),i<=ts.length/\iv=.int .i64 (i:Int)/\nv=.int .i64 ((alA e l (ts.take i)).2:Int)/\Blk wr w3.heap.size 26 [.int .i64 e,.slice a (alA e l (ts.take i)).1.length c]/\OwnX base hi wr (.slice a (alA e l (ts.take i)).1.length c) (alA e l (ts.take i)).1/\w2.heap.size<=base/\(w3.heap.size < base\/hi<=w3.heap.size)/\Below w2.heap.size w2 wr) (fun _ iv _=>ts.length - (intOf iv).toNat)
  case atStart=>exact ⟨0,a3,c3,w2.heap.size,w3.heap.size,by omega,rfl,rfl,K4.out,X4.out,Nat.le_refl _,.inr (Nat.le_refl _),B4.out⟩
  case round =>
    obtain ⟨i,a,c,base,hi,hi1,rfl,rfl,kO,x,hbase,hdis,hb⟩:=hrel
    clear K4 X4 B4 hw4
    have hwr:=hb.size
    have hO:=kO.lt
    have few:=Hfew.out i
    have hnl:=alA_len e l (ts.take i)
    have htk:(ts.take i).length<=ts.length:=by simp;omega
    by_cases hlt:i < ts.length
    · obtain ⟨b,off,rfl,hc1,hc2,hbw,hT⟩:=Hrt.out.at hlt
      have htx:=Hta.out ts[i] (List.getElem_mem _)
      have Hsn:=hide (alA_snoc e l ts i hlt)
      obtain ⟨s,hs⟩:∃ s,alA e l (ts.take i)=s:=⟨_,rfl⟩
      rw [hs] at kO x few hnl Hsn ⊢
      obtain ⟨P,n⟩:=s
      simp only at kO x few hnl ⊢
      have HA:=hide (fun V v h=>specApply_any e v P ts[i] V h few.1 few.2 htx.1 htx.2)
      have Hgd:=hide (alS_good (e:=e) (s:=(P,n)) (t:=ts[i]))
      have Hbd:=hide (alS_bad (e:=e) (s:=(P,n)) (t:=ts[i]))
      have Hsm:=hide (apA_same (e:=e) (l:=P) (t:=ts[i]))
      simp only at Hgd Hbd
      generalize ts[i]=t at hT HA Hgd Hbd Hsm Hsn
      generalize (apA e P t).1=A at HA Hgd Hsm
      generalize (apA e P t).2=C at HA Hgd Hbd Hsm
      obtain ⟨p0,p1,p2,p3,p4⟩:=hT
      have q0:=(hb.cell (p:=⟨b,off+i * 5,none⟩) hbw).trans p0
      have q1:=(hb.cell (p:=⟨b,off+i * 5+1,none⟩) hbw).trans p1
      have q2:=(hb.cell (p:=⟨b,off+i * 5+2,none⟩) hbw).trans p2
      have q3:=(hb.cell (p:=⟨b,off+i * 5+3,none⟩) hbw).trans p3
      have q4:=(hb.cell (p:=⟨b,off+i * 5+4,none⟩) hbw).trans p4
      obtain ⟨kd,fm,tn,am,nc⟩:=t
      simp only [lgV,txV] at q0 q1 q2 q3 q4 HA
      have hbr:b < wr.heap.size:=by omega
      have HS:Hid (∀ V,Below wr.heap.size wr V->(V.cell? ⟨w3.heap.size,0,none⟩=some (.int .i64 e)/\V.cell? ⟨w3.heap.size,1,none⟩=some (.slice a P.length c)/\V.cell? ⟨b,off+i * 5,none⟩=some (.int .i64 kd)/\V.cell? ⟨b,off+i * 5+1,none⟩=some (.string fm)/\V.cell? ⟨b,off+i * 5+2,none⟩=some (.string tn)/\V.cell? ⟨b,off+i * 5+3,none⟩=some (.int .i64 am)/\V.cell? ⟨b,off+i * 5+4,none⟩=some (.int .i64 nc))):=hide (fun V hv=>⟨(kO.below hv kO.lt).cell 0,(kO.below hv kO.lt).cell 1,(hv.cell (p:=⟨b,off+i * 5,none⟩) hbr).trans q0,(hv.cell (p:=⟨b,off+i * 5+1,none⟩) hbr).trans q1,(hv.cell (p:=⟨b,off+i * 5+2,none⟩) hbr).trans q2,(hv.cell (p:=⟨b,off+i * 5+3,none⟩) hbr).trans q3,(hv.cell (p:=⟨b,off+i * 5+4,none⟩) hbr).trans q4⟩)
      have bD:Below wr.heap.size wr wr.drew:=(Below.refl _ wr).drew
      have bE:Below wr.heap.size wr (wr.alloc (.cells #[.int .i64 0,.slice none 0 0] 26)).drew:=((Below.refl _ wr).alloc (Nat.le_refl _) _).drew
      have nE:Blk (wr.alloc (.cells #[.int .i64 0,.slice none 0 0] 26)).drew wr.heap.size 26 [.int .i64 0,.slice none 0 0]:=Blk.new wr 26 [.int .i64 0,.slice none 0 0]
      have rD:=x.rd.below bD (Nat.le_refl _)
      have rE:=x.rd.below bE (Nat.le_refl _)
      have zD:wr.drew.heap.size=wr.heap.size:=rfl
      have zE:(wr.alloc (.cells #[.int .i64 0,.slice none 0 0] 26)).drew.heap.size=wr.heap.size+1:=by simp
      have HL:Hid (∀ (V:World) (v:Value),RdA V v A->∃ a c,v=.slice a A.length c):=hide (fun V v h=>h.shape)
      have hli:(i:Int) < (ts.length:Int):=by omega
      have KO:=hide kO
      have Xx:=hide x
      have Hb:=hide hb
      have hnb:n<=4000000:=by omega
      clear kO x hb p0 p1 p2 p3 p4 q0 q1 q2 q3 q4 few htx hs
      go_upto_region 6 with fail
      go_cut [9,10] (fun sp sc wc=>∃ (B:Nat) (a':Option Addr) (c' base' hi':Nat),sp=.pointer (some ⟨B,0,none⟩)/\sc=.int .i64 C/\Blk wc B 26 [.int .i64 e,.slice a' A.length c']/\OwnX base' hi' wc (.slice a' A.length c') A/\wr.heap.size<=base'/\hi'<=wc.heap.size/\(B < base'\/hi'<=B)/\wr.heap.size<=B/\Below wr.heap.size wr wc)
      case first =>
        go_region_held_law (fun w'=>w'.cell? ⟨w3.heap.size,0,none⟩=some (.int .i64 e)/\w'.cell? ⟨w3.heap.size,1,none⟩=some (.slice a P.length c)/\w'.cell? ⟨b,off+i * 5,none⟩=some (.int .i64 kd)/\w'.cell? ⟨b,off+i * 5+1,none⟩=some (.string fm)/\w'.cell? ⟨b,off+i * 5+2,none⟩=some (.string tn)/\w'.cell? ⟨b,off+i * 5+3,none⟩=some (.int .i64 am)/\w'.cell? ⟨b,off+i * 5+4,none⟩=some (.int .i64 nc)) ((refine HS.out _ ?_;repeat (first | with_reducible exact bD | with_reducible exact bE | with_reducible exact bA | with_reducible exact Below.refl _ _ | refine Below.drew ?_ | refine Below.alloc ?_ (by first | omega | (simp;done) | (simp;omega) | (dsimp only;omega)) _ | refine Below.setCell ?_ (by first | omega | (simp;done) | (simp;omega) | (dsimp only;omega)) _))) ((first
          | (go_at_call 95;with_reducible refine (HA.out wr.drew _ rD).mono ?_;rintro e' wA ⟨vA,rfl,oA,hbA⟩;have bA:=bD.trans (hbA.mono bD.size);have zA:=hbA.size;have xA:=oA.ox;have hsh:=HL.out _ _ xA.rd;obtain ⟨aA,cA,hvA⟩:=hsh;subst hvA)
          | (go_at_call 95;with_reducible refine (HA.out (wr.alloc (.cells #[.int .i64 0,.slice none 0 0] 26)).drew _ rE).mono ?_;rintro e' wA ⟨vA,rfl,oA,hbA⟩;have bA:=bE.trans (hbA.mono bE.size);have zA:=hbA.size;have xA:=oA.ox;have hsh:=HL.out _ _ xA.rd;obtain ⟨aA,cA,hvA⟩:=hsh;subst hvA;have hBlt:=nE.lt;have nb:=nE.below hbA nE.lt;have y0:=nb.cell 0;have y1:=nb.cell 1;have y0f:=nb.frozen 0;have y1f:=nb.frozen 1;simp only [List.getElem?_cons_zero,List.getElem?_cons_succ] at y0 y1)))
        all_goals
          go_wp2_with fail
          go_meet
          case rel =>
            first
              | exact ⟨wA.heap.size,aA,cA,_,wA.heap.size,rfl,rfl,Blk.new wA _ _,xA.below ((Below.refl _ wA).alloc (Nat.le_refl _) _) (Nat.le_refl _),by first | omega | (simp;omega),by simp,.inr (Nat.le_refl _),by omega,bA.alloc (by omega) _⟩
              | exact ⟨_,aA,cA,_,wA.heap.size,rfl,rfl,(nb.set 0 _).set 1 _,(xA.old (by first | omega | (simp;done) | (simp;omega) | (dsimp only;omega)) _ _).old (by first | omega | (simp;done) | (simp;omega) | (dsimp only;omega)) _ _,by first | omega | (simp;omega),by simp,.inl (by first | omega | (simp;done) | (simp;omega) | (dsimp only;omega)),by omega,(bA.setCell (p:=⟨_,0,none⟩) (by dsimp only;omega) _).setCell (p:=⟨_,1,none⟩) (by dsimp only;omega) _⟩
      obtain ⟨w9,rfl⟩:∃ z,z=wc:=⟨_,rfl⟩
      obtain ⟨B9,a9,c9,base9,hi9,rfl,rfl,b9,x9,h9_1,h9_2,h9_3,h9_4,hb9⟩:=hcut
      clear HS bD bE nE rD rE zD zE
      have hB9:=Hb.out.trans (hb9.mono hwr)
      have k9:=KO.out.below hb9 KO.out.lt
      have hO9:=k9.lt
      by_cases hC:C=0
      · have Hs1:=hide (Hsn.out.trans (Hgd.out hC))
        have d0:=b9.cell 0
        have d1:=b9.cell 1
        have o0:=k9.cell 0
        have o1:=k9.cell 1
        have o0f:=k9.frozen 0
        have o1f:=k9.frozen 1
        simp only [List.getElem?_cons_zero,List.getElem?_cons_succ] at d0 d1 o0 o1
        have K9:=hide k9
        have X9:=hide x9
        have HB9:=hide hB9
        clear k9 x9 hB9 hb9 b9 Hgd Hbd Hsm Hsn Xx KO
        subst hC
        go_wp2
        go_roundw
        case rel =>
          refine ⟨i+1,a9,c9,base9,hi9,by omega,by go_num,by rw [Hs1.out];go_num,?_,?_,by omega,.inl (by omega),?_⟩
          · rw [Hs1.out];exact (K9.out.set 0 _).set 1 _
          · rw [Hs1.out];exact (X9.out.old (by omega) _ _).old (by omega) _ _
          · exact (HB9.out.setCell (p:=⟨w3.heap.size,0,none⟩) (show w2.heap.size<=w3.heap.size by omega) _).setCell (p:=⟨w3.heap.size,1,none⟩) (show w2.heap.size<=w3.heap.size by omega) _
        case measure=>simp [intOf];omega
      · have Hs1:=hide (Hsn.out.trans (Hbd.out hC))
        have K9:=hide k9
        have X9:=hide (Xx.out.below hb9 (Nat.le_refl _))
        have HB9:=hide hB9
        have hCb:(C == 0)=false:=by rw [beq_eq_false_iff_ne];exact hC
        clear k9 x9 hB9 hb9 b9 Hgd Hbd Hsm Hsn Xx KO hC
        go_wp2
        go_roundw
        case rel =>
          refine ⟨i+1,a,c,base,hi,by omega,by go_num,by rw [Hs1.out],?_,?_,hbase,hdis,HB9.out⟩
          · rw [Hs1.out];exact K9.out
          · rw [Hs1.out];exact X9.out
        case measure=>simp [intOf];omega
    · have ei:i=ts.length:=by omega
      subst ei
      rw [List.take_length] at kO x ⊢
      obtain ⟨s,hs⟩:∃ s,alA e l ts=s:=⟨_,rfl⟩
      rw [hs] at kO x ⊢
      have Hs:=hide hs
      clear hs
      obtain ⟨P,n⟩:=s
      simp only at kO x ⊢
      have kR:=KR.out.below hb KR.out.lt
      have d0:=kO.cell 0
      have d1:=kO.cell 1
      have r0:=kR.cell 0
      have r1:=kR.cell 1
      have r0f:=kR.frozen 0
      have r1f:=kR.frozen 1
      simp only [List.getElem?_cons_zero,List.getElem?_cons_succ] at d0 d1 r0 r1
      have hs2:=HS2.out
      have X9:=hide (((x.old (b:=w.heap.size+1) (by omega) 0 (.int .i64 e)).old (b:=w.heap.size+1) (by omega) 1 (.slice a P.length c)).own.mono (show w.heap.size<=base by omega))
      have HB9:=hide (((Hb2.out.trans (hb.mono Hb2.out.size)).setCell (p:=⟨w.heap.size+1,0,none⟩) (show w.heap.size<=w.heap.size+1 by omega) (.int .i64 e)).setCell (p:=⟨w.heap.size+1,1,none⟩) (show w.heap.size<=w.heap.size+1 by omega) (.slice a P.length c))
      clear kO x hb kR hs2
      go_wp2
      refine bodyPost_ret (v:=.tuple #[.agg #[.int .i64 e,.slice a P.length c],.int .i64 (n:Int)]) (by simp [results,Tryz.f81,go_sem,r0,r1]) rfl ?_
      rw [Hs.out]
      exact ⟨_,rfl,X9.out,HB9.out⟩
def okP (l:List Bk) (i:Nat) (h:i < l.length):Prop :=
  blB l[i]=true/\l[i].ep=(l[0]'(by omega)).ep/\(0 < i->(l[i - 1]'(by omega)).id < l[i].id) /\
    (rootB l[i].qr l[i].qb l[i].qw=true\/∃ k,∃ hk:k < i,(l[k]'(by omega)).id=l[i].qb/\(l[k]'(by omega)).rd=l[i].qr)
def treeP (l:List Bk):Prop:=l.length<=400/\∀ i (h:i < l.length),okP l i h
def okD (l:List Bk) (i:Nat) (h:i < l.length):Decidable (okP l i h):=by unfold okP;exact inferInstance
def treeD (l:List Bk):Decidable (treeP l):=@instDecidableAnd _ _ _ (@Nat.decidableBallLT l.length (okP l) (okD l))
def treeB (l:List Bk):Bool:=@decide (treeP l) (treeD l)
theorem treeB_yes {l:List Bk} (h:treeP l):treeB l=true:=by unfold treeB;exact @decide_eq_true _ (treeD l) h
theorem treeB_no {l:List Bk} (h:¬ treeP l):treeB l=false:=by unfold treeB;exact @decide_eq_false _ (treeD l) h
theorem treeP_of {l:List Bk} (h:treeB l=true):treeP l:=by unfold treeB at h;exact @of_decide_eq_true _ (treeD l) h
theorem tree_not {l:List Bk} {i:Nat} (hi:i < l.length) (h:¬ okP l i hi):treeB l=false:=treeB_no (fun t=>h (t.2 i hi))
theorem tree_big {l:List Bk} (h:400 < l.length):treeB l=false:=treeB_no (fun t=>by have:=t.1;omega)
def AscP (l:List Bk) (n:Nat):Prop:=∀ a b (ha:a < l.length) (hb:b < l.length),a < b->b < n->l[a].id < l[b].id
theorem asc_of {l:List Bk} {n:Nat} (h:∀ i (hi:i < l.length),i < n->okP l i hi):AscP l n:=by
  intro a b ha hb hab hbn
  induction b with
  | zero=>omega
  | succ b ih =>
    have hk:=(h (b+1) hb hbn).2.2.1 (by omega)
    simp only [Nat.add_sub_cancel] at hk
    by_cases e:a=b
    · subst e;exact hk
    · have:=ih (by omega) (by omega) (by omega)
      omega
theorem AscP.one {l:List Bk} {n:Nat} (h:AscP l n) {a b:Nat} (ha:a < l.length) (hb:b < l.length) (han:a < n) (hbn:b < n) (e:l[a].id=l[b].id):a=b:=by
  by_cases h1:a < b
  · have:=h a b ha hb h1 hbn;omega
  · by_cases h2:b < a
    · have:=h b a hb ha h2 han;omega
    · omega
def AtR (l:List Bk) (id r:Int):Prop :=
  (r=-1/\∀ j (h:j < l.length),l[j].id ≠ id)\/∃ j,∃ h:j < l.length,r=(j:Int)/\l[j].id=id/\∀ i (h2:i < l.length),i < j->l[i].id ≠ id
theorem AtR.one {l:List Bk} {id r s:Int} (h:AtR l id r) (k:AtR l id s):r=s:=by
  rcases h with ⟨rfl,h⟩ | ⟨i,hi,rfl,e,h⟩ <;> rcases k with ⟨rfl,k⟩ | ⟨j,hj,rfl,f,k⟩
  · rfl
  · exact absurd f (h j hj)
  · exact absurd e (k i hi)
  · by_cases h1:i < j
    · exact absurd e (k i hi h1)
    · by_cases h2:j < i
      · exact absurd f (h j hj h2)
      · omega
def atI:List Bk->Int->Int
  | [],_=>-1
  | b :: l,id=>if b.id=id then 0 else if atI l id=-1 then -1 else atI l id+1
theorem atI_is (l:List Bk) (id:Int):AtR l id (atI l id):=by
  induction l with
  | nil=>exact .inl ⟨rfl,fun j h=>by simp at h⟩
  | cons b l ih =>
    unfold atI
    by_cases e:b.id=id
    · rw [if_pos e];exact .inr ⟨0,by simp,rfl,e,fun i _ h=>by omega⟩
    · rw [if_neg e]
      obtain ⟨h1,h⟩ | ⟨j,hj,h1,f,h⟩:=ih
      · rw [h1,if_pos rfl]
        refine .inl ⟨rfl,fun j hj=>?_⟩
        cases j with
        | zero=>exact e
        | succ j=>exact h j (by simpa using hj)
      · rw [h1,if_neg (by omega)]
        refine .inr ⟨j+1,by simpa using hj,by omega,f,fun i hi hij=>?_⟩
        cases i with
        | zero=>exact e
        | succ i=>exact h i (by simpa using hi) (by omega)
theorem atI_eq {l:List Bk} {id r:Int} (h:AtR l id r):atI l id=r:=(atI_is l id).one h
theorem atI_asc {l:List Bk} (h:AscP l l.length) {j:Nat} (hj:j < l.length):atI l l[j].id=(j:Int) :=
  atI_eq (.inr ⟨j,hj,rfl,rfl,fun i hi hij e=>by have:=h i j hi hj hij hj;omega⟩)
theorem ok_by {l:List Bk} {i:Nat} (hi:i < l.length) (hasc:AscP l i) (hB:blB l[i]=true) (hE:l[i].ep=(l[0]'(by omega)).ep) (hP:0 < i->(l[i - 1]'(by omega)).id < l[i].id)
    (hn:rootB l[i].qr l[i].qb l[i].qw=false) {r:Int} (hr:AtR (l.take i) l[i].qb r):okP l i hi ↔ ∃ k,∃ hk:k < i,r=(k:Int)/\(l[k]'(by omega)).rd=l[i].qr:=by
  constructor
  · rintro ⟨_,_,_,h | ⟨k,hk,e,f⟩⟩
    · rw [hn] at h;cases h
    · rcases hr with ⟨rfl,h⟩ | ⟨j,hj,rfl,g,h⟩
      · exact absurd (by rw [List.getElem_take];exact e) (h k (by simp;omega))
      · have hj2:j < i:=by simp at hj;omega
        have:j=k:=hasc.one (by omega) (by omega) hj2 hk (by rw [e];simpa using g)
        subst this
        exact ⟨j,hj2,rfl,f⟩
  · rintro ⟨k,hk,rfl,f⟩
    refine ⟨hB,hE,hP,.inr ⟨k,hk,?_,f⟩⟩
    rcases hr with ⟨h,_⟩ | ⟨j,hj,e,g,_⟩
    · omega
    · obtain rfl:k=j:=by omega
      simpa using g
theorem RdKs.take {w:World} {a:Option Addr} {cap:Nat} {l:List Bk} (h:RdKs w (.slice a l.length cap) l) (k:Nat) (hk:k<=l.length):RdKs w (.slice a k cap) (l.take k):=by
  rcases h with ⟨a',cap',e,rfl,hn⟩ | ⟨b,off,cap',h0,e,h1,h2,h3,h4⟩
  · simp only [Value.slice.injEq] at e
    obtain ⟨rfl,-,rfl⟩:=e
    obtain rfl:k=0:=by simpa using hk
    exact .inl ⟨_,_,rfl,rfl,hn⟩
  · simp only [Value.slice.injEq] at e
    obtain ⟨rfl,-,rfl⟩:=e
    by_cases hz:k=0
    · subst hz;exact .inl ⟨_,_,rfl,by simp,fun h=>by cases h⟩
    · have hl:(l.take k).length=k:=by simp;omega
      refine .inr ⟨b,off,cap,?_,by rw [hl],by omega,h2,h3,fun i hi=>?_⟩
      · intro e;rw [e] at hl;simp at hl;omega
      · rw [hl] at hi
        obtain ⟨bv,p,q⟩:=h4 i (by omega)
        exact ⟨bv,by simpa using p,by simpa using q⟩
theorem specAt_any (v:Value) (l:List Bk) (id:Int) (w:World) (hr:RdKs w v l) (hl:l.length<=4000000) :
    Calls Tryz.prog 73 #[v,.int .i64 id] w fun e w'=>e=.returned (.int .i64 (atI l id))/\w'=w:=by
  rcases hr with ⟨a,cap,rfl,rfl,-⟩ | ⟨b,off,cap,h0,rfl,h1,h2,h3,h4⟩
  · have HX:=hide (atI_eq (l:=[]) (id:=id) (.inl ⟨rfl,fun j h=>by simp at h⟩))
    go_enter Tryz.func73,Tryz.ntmps73
    go_wp2
    refine wp_loop_rounds 1 ?_
    rw [rounds_succ]
    go_wp2
    go_ret
    exact ⟨ret_int HX.out.symm,rfl⟩
  · have H4 := hide h4
    clear h4 h0
    go_enter Tryz.func73,Tryz.ntmps73
    go_wp2
    go_loopw [5] (fun i wr=>∃ k:Nat,k<=l.length/\i=.int .i64 k/\(∀ j (h:j < l.length),j < k->l[j].id ≠ id)/\wr=w) (fun i _=>l.length - (intOf i).toNat)
    case atStart=>exact ⟨0,Nat.zero_le _,rfl,fun j _ h=>by omega,rfl⟩
    case round =>
      obtain ⟨k,hk,rfl,hno,rfl⟩:=hrel
      have Hno:=hide hno
      clear hno
      by_cases hlt:k < l.length
      · obtain ⟨lv,hat,-⟩:=H4.out k hlt
        have c0:=hat.cells.1
        clear hat
        have hli:(k:Int) < (l.length:Int):=by omega
        by_cases he:l[k].id=id
        · have HX:=hide (atI_eq (l:=l) (id:=id) (.inr ⟨k,hlt,rfl,he,Hno.out⟩))
          rw [he] at c0
          clear he
          go_wp2
          go_ret
          exact ⟨ret_int HX.out.symm,rfl⟩
        · have HY:Hid (∀ j (h:j < l.length),j < k+1->l[j].id ≠ id):=hide (fun j h hj=>by
            by_cases e:j=k
            · subst e;exact he
            · exact Hno.out j h (by omega))
          generalize l[k].id=d at c0 he
          go_wp2
          go_roundw
          case rel=>exact ⟨k+1,by omega,by go_num,HY.out,by first | trivial | rfl⟩
          case measure=>simp [intOf];omega
      · have HX:=hide (atI_eq (l:=l) (id:=id) (.inl ⟨rfl,fun j h=>Hno.out j h (by omega)⟩))
        go_wp2
        go_ret
        exact ⟨ret_int HX.out.symm,rfl⟩
theorem firstOf_any (l:List Bk) (a:Option Addr) (cap:Nat) (id:Int) (w:World) (hr:RdKs w (.slice a l.length cap) l) (hl:l.length<=4000000) :
    Calls Tryz.prog 61 #[.slice a l.length cap,.int .i64 id] w fun e w'=>((atI l id < 0/\e=.returned (.pointer none))\/∃ k b off,atI l id=((k:Nat):Int)/\k < l.length/\a=some ⟨b,off,none⟩/\e=.returned (.pointer (some ⟨b,off+k * 14,none⟩)))/\w'=w:=by
  by_cases h0:l.length=0
  · have e:l=[]:=List.length_eq_zero_iff.1 h0
    subst e
    have HX:Hid (atI [] id < 0):=hide (by rw [atI_eq (l:=[]) (id:=id) (.inl ⟨rfl,fun j h=>by simp at h⟩)];omega)
    clear hr h0
    go_enter Tryz.func61,Tryz.ntmps61
    go_wp2
    refine wp_loop_rounds 1 ?_
    rw [rounds_succ]
    go_wp2
    go_ret
    exact ⟨.inl ⟨HX.out,rfl⟩,rfl⟩
  · obtain ⟨b,off,rfl,h3,hcell⟩:∃ b off,a=some ⟨b,off,none⟩/\b < w.heap.size/\∀ i (h:i < l.length),∃ bv,BkAt w b (off+i * 14) l[i] bv/\RdK w l[i] bv:=by
      rcases hr with ⟨a',cap',e,rfl,hn⟩ | ⟨b,off,cap',h0,e,h1,h2,h3,h4⟩
      · simp at h0
      · simp only [Value.slice.injEq] at e
        exact ⟨b,off,e.1,h3,h4⟩
    have H4:=hide hcell
    clear hcell h0 hr
    go_enter Tryz.func61,Tryz.ntmps61
    go_wp2
    go_loopw [8] (fun i wr=>∃ k:Nat,k<=l.length/\i=.int .i64 k/\(∀ j (h:j < l.length),j < k->l[j].id ≠ id)/\wr=w) (fun i _=>l.length - (intOf i).toNat)
    case atStart=>exact ⟨0,Nat.zero_le _,rfl,fun j _ h=>by omega,rfl⟩
    case round =>
      obtain ⟨k,hk,rfl,hno,rfl⟩:=hrel
      have Hno:=hide hno
      clear hno
      by_cases hlt:k < l.length
      · obtain ⟨lv,hat,-⟩:=H4.out k hlt
        have c0:=hat.cells.1
        clear hat
        have hli:(k:Int) < (l.length:Int):=by omega
        by_cases he:l[k].id=id
        · have HX:=hide (atI_eq (l:=l) (id:=id) (.inr ⟨k,hlt,rfl,he,Hno.out⟩))
          rw [he] at c0
          clear he
          go_wp2
          go_ret
          exact ⟨.inr ⟨k,b,off,HX.out,hlt,rfl,rfl⟩,rfl⟩
        · have HY:Hid (∀ j (h:j < l.length),j < k+1->l[j].id ≠ id):=hide (fun j h hj=>by
            by_cases e:j=k
            · subst e;exact he
            · exact Hno.out j h (by omega))
          generalize l[k].id=d at c0 he
          go_wp2
          go_roundw
          case rel=>exact ⟨k+1,by omega,by go_num,HY.out,by first | trivial | rfl⟩
          case measure=>simp [intOf];omega
      · have HX:Hid (atI l id < 0):=hide (by rw [atI_eq (l:=l) (id:=id) (.inl ⟨rfl,fun j h=>Hno.out j h (by omega)⟩)];omega)
        go_wp2
        go_ret
        exact ⟨.inl ⟨HX.out,rfl⟩,rfl⟩
end Go.Proofs.YtohachldbpejpaaGreatDoor
namespace Go.Proofs.YtohachldbpejpaaGreatDoor
open Go.RowKit Go.Sort
set_option linter.unusedVariables false
theorem specL9Qc_any (b:Bk) (v:Bv) (w:World) (hr:RdK w b v) (hf:FewK b) :
    Calls Tryz.prog 183 #[bkV b v] w fun e w'=>e=.returned (.bool (q9B b))/\Below w.heap.size w w':=by
  have hlq:=hf.q
  have hsq:=hf.qs
  have HX:Hid (q9B b=(rootB b.qr b.qb b.qw || (inB b.qr 1 (wrap64 (b.rd - 1)) && (inB b.qb 0 (wrap64 (b.id - 1)) && nmsB b.qw)))):=hide rfl
  generalize q9B b=X at HX ⊢
  obtain ⟨id,ep,rd,mk,qr,qb,qw,tr,tw,th,ts,en,nx,rt⟩:=b
  obtain ⟨vq,vw,vh,vt,vn⟩:=v
  obtain ⟨hq,hw,hh,ht,hn⟩:=hr
  simp only [bkV] at *
  obtain ⟨aq,cq,rfl⟩:=hq.shape
  obtain ⟨aw,cw,rfl⟩:=hw.shape
  obtain ⟨ah,ch,rfl⟩:=hh.shape
  obtain ⟨at_,ct,rfl⟩:=ht.shape
  obtain ⟨an,cn,rfl⟩:=hn.shape
  clear hw hh ht hn hf
  obtain ⟨w1,hw1⟩:∃ x,w.alloc (.cells #[.int .i64 id,.int .i64 ep,.int .i64 rd,.string mk,.int .i64 qr,.int .i64 qb,.slice aq qw.length cq,.int .i64 tr,.slice aw tw.length cw,.slice ah th.length ch,.slice at_ ts.length ct,.bool en,.slice an nx.length cn,.string rt] 50)=x:=⟨_,rfl⟩
  have b1:Below w.heap.size w w1:=by rw [<- hw1];exact (Below.refl _ w).alloc (Nat.le_refl _) _
  have k1:Blk w1 w.heap.size 50 [.int .i64 id,.int .i64 ep,.int .i64 rd,.string mk,.int .i64 qr,.int .i64 qb,.slice aq qw.length cq,.int .i64 tr,.slice aw tw.length cw,.slice ah th.length ch,.slice at_ ts.length ct,.bool en,.slice an nx.length cn,.string rt]:=by rw [<- hw1];exact Blk.new w _ _
  have s1:w1.heap.size=w.heap.size+1:=by rw [<- hw1];simp
  obtain ⟨w2,hw2⟩:∃ x,w1.alloc (.cells #[.int .i64 qr,.int .i64 qb,.slice aq qw.length cq] 44)=x:=⟨_,rfl⟩
  have b2:Below w1.heap.size w1 w2:=by rw [<- hw2];exact (Below.refl _ w1).alloc (Nat.le_refl _) _
  have k2:Blk w2 (w.heap.size+1) 44 [.int .i64 qr,.int .i64 qb,.slice aq qw.length cq]:=by rw [<- hw2,<- s1];exact Blk.new w1 _ _
  have hb2:Below w.heap.size w w2:=b1.trans (b2.mono b1.size)
  have HR:=hide (specL8Root_any qr qb (.slice aq qw.length cq) qw w2 (hq.below hb2 (Nat.le_refl _)) hlq)
  have HN:=hide (fun V (hV:Below w.heap.size w V)=>specNamesOk_any (.slice aq qw.length cq) qw V (hq.below hV (Nat.le_refl _)) hlq hsq)
  generalize rootB qr qb qw=R0 at HX HR
  generalize nmsB qw=N0 at HX HN
  have e1:IntKind.i64.wrap (rd - 1)=wrap64 (rd - 1):=by rw [IntKind.wrap_i64];unfold wrap64;omega
  have e2:IntKind.i64.wrap (id - 1)=wrap64 (id - 1):=by rw [IntKind.wrap_i64];unfold wrap64;omega
  generalize wrap64 (rd - 1)=D1 at HX e1
  generalize wrap64 (id - 1)=D2 at HX e2
  simp only [qcV] at HR
  have x4:=k1.cell 4
  have x5:=k1.cell 5
  have x6:=k1.cell 6
  have y0:=k2.cell 0
  have y1:=k2.cell 1
  have y2:=k2.cell 2
  simp only [List.getElem?_cons_zero,List.getElem?_cons_succ] at x4 x5 x6 y0 y1 y2
  have K1:=hide (k1.below b2 (by omega))
  have K2:=hide k2
  have HB2:=hide hb2
  clear hq hsq k1 k2 b1 b2 hb2
  go_enter Tryz.func183,Tryz.ntmps183
  go_wp2_with fail
  refine HR.out.mono ?_
  rintro e w3 ⟨rfl,hb3⟩
  have hB3:=HB2.out.trans (hb3.mono HB2.out.size)
  have k13:=K1.out.below hb3 K1.out.lt
  have k23:=K2.out.below hb3 K2.out.lt
  have HN3:=hide (HN.out w3 hB3)
  clear x4 x5 x6 y0 y1 y2 hw1 hw2 HN hb3
  have x0:=k13.cell 0
  have x2:=k13.cell 2
  have y0:=k23.cell 0
  have y1:=k23.cell 1
  have y2:=k23.cell 2
  simp only [List.getElem?_cons_zero,List.getElem?_cons_succ] at x0 x2 y0 y1 y2
  clear k13 k23 K1 K2 s1
  cases R0
  · rw [Bool.false_or] at HX
    cases h1:inB qr 1 D1
    · rw [h1,Bool.false_and] at HX
      go_wp2_with (go_at_call 181;refine (l1In_any _ _ _ _).mono ?_;rintro e w4 ⟨rfl,rfl⟩)
      go_ret
      exact ⟨ret_bool HX.out.symm,hB3⟩
    · rw [h1,Bool.true_and] at HX
      cases h2:inB qb 0 D2
      · rw [h2,Bool.false_and] at HX
        go_wp2_with (go_at_call 181;refine (l1In_any _ _ _ _).mono ?_;rintro e w4 ⟨rfl,rfl⟩)
        go_ret
        exact ⟨ret_bool HX.out.symm,hB3⟩
      · rw [h2,Bool.true_and] at HX
        go_wp2_with (first
          | (go_at_call 181;refine (l1In_any _ _ _ _).mono ?_;rintro e w4 ⟨rfl,rfl⟩)
          | (go_at_call 216;refine HN3.out.mono ?_;rintro e w5 ⟨rfl,hb5⟩))
        go_ret
        exact ⟨ret_bool HX.out.symm,hB3.trans (hb5 _)⟩
  · rw [Bool.true_or] at HX
    go_wp2
    go_ret
    exact ⟨ret_bool HX.out.symm,hB3⟩
theorem specL9Tc_any (b:Bk) (v:Bv) (w:World) (hr:RdK w b v) (hf:FewK b) (hbd:-9223372036854775808<=b.tr/\b.tr<=9223372036854775807) :
    Calls Tryz.prog 184 #[bkV b v] w fun e w'=>e=.returned (.bool (t9B b))/\Below w.heap.size w w':=by
  have hlw:=hf.w
  have hlh:=hf.h
  have hsw:=hf.ws
  have HX:Hid (t9B b=(noneB b.tr b.tw b.th || (inB b.tr 1 (wrap64 (b.rd - 1)) && (nmsB b.tw && (decide (b.th.length=b.tw.length) && hisB b.tr b.th))))):=hide rfl
  generalize t9B b=X at HX ⊢
  obtain ⟨id,ep,rd,mk,qr,qb,qw,tr,tw,th,ts,en,nx,rt⟩:=b
  obtain ⟨vq,vw,vh,vt,vn⟩:=v
  obtain ⟨hq,hw,hh,ht,hn⟩:=hr
  simp only [bkV] at *
  obtain ⟨aq,cq,rfl⟩:=hq.shape
  obtain ⟨aw,cw,rfl⟩:=hw.shape
  obtain ⟨ah,ch,rfl⟩:=hh.shape
  obtain ⟨at_,ct,rfl⟩:=ht.shape
  obtain ⟨an,cn,rfl⟩:=hn.shape
  clear hq ht hn hf
  obtain ⟨w1,hw1⟩:∃ x,w.alloc (.cells #[.int .i64 id,.int .i64 ep,.int .i64 rd,.string mk,.int .i64 qr,.int .i64 qb,.slice aq qw.length cq,.int .i64 tr,.slice aw tw.length cw,.slice ah th.length ch,.slice at_ ts.length ct,.bool en,.slice an nx.length cn,.string rt] 50)=x:=⟨_,rfl⟩
  have b1:Below w.heap.size w w1:=by rw [<- hw1];exact (Below.refl _ w).alloc (Nat.le_refl _) _
  have k1:Blk w1 w.heap.size 50 [.int .i64 id,.int .i64 ep,.int .i64 rd,.string mk,.int .i64 qr,.int .i64 qb,.slice aq qw.length cq,.int .i64 tr,.slice aw tw.length cw,.slice ah th.length ch,.slice at_ ts.length ct,.bool en,.slice an nx.length cn,.string rt]:=by rw [<- hw1];exact Blk.new w _ _
  have s1:w1.heap.size=w.heap.size+1:=by rw [<- hw1];simp
  obtain ⟨w2,hw2⟩:∃ x,w1.alloc (.cells #[.int .i64 tr,.slice aw tw.length cw,.slice ah th.length ch] 47)=x:=⟨_,rfl⟩
  have b2:Below w1.heap.size w1 w2:=by rw [<- hw2];exact (Below.refl _ w1).alloc (Nat.le_refl _) _
  have k2:Blk w2 (w.heap.size+1) 47 [.int .i64 tr,.slice aw tw.length cw,.slice ah th.length ch]:=by rw [<- hw2,<- s1];exact Blk.new w1 _ _
  have hb2:Below w.heap.size w w2:=b1.trans (b2.mono b1.size)
  have HR:=hide (specL8None_any tr (.slice aw tw.length cw) (.slice ah th.length ch) tw th w2 (hw.below hb2 (Nat.le_refl _)) (hh.below hb2 (Nat.le_refl _)) hlw hlh)
  have HN:=hide (fun V (hV:Below w.heap.size w V)=>specNamesOk_any (.slice aw tw.length cw) tw V (hw.below hV (Nat.le_refl _)) hlw hsw)
  generalize noneB tr tw th=R0 at HX HR
  generalize nmsB tw=N0 at HX HN
  have e1:IntKind.i64.wrap (rd - 1)=wrap64 (rd - 1):=by rw [IntKind.wrap_i64];unfold wrap64;omega
  generalize wrap64 (rd - 1)=D1 at HX e1
  simp only [tcV] at HR
  have x4:=k1.cell 7
  have x5:=k1.cell 8
  have x6:=k1.cell 9
  have y0:=k2.cell 0
  have y1:=k2.cell 1
  have y2:=k2.cell 2
  simp only [List.getElem?_cons_zero,List.getElem?_cons_succ] at x4 x5 x6 y0 y1 y2
  have K1:=hide (k1.below b2 (by omega))
  have K2:=hide k2
  have HB2:=hide hb2
  have Hh:=hide hh
  clear hw hh hsw k1 k2 b1 b2 hb2
  go_enter Tryz.func184,Tryz.ntmps184
  go_wp2_with fail
  refine HR.out.mono ?_
  rintro e w3 ⟨rfl,hb3⟩
  have hB3:=HB2.out.trans (hb3.mono HB2.out.size)
  have k13:=K1.out.below hb3 K1.out.lt
  have k23:=K2.out.below hb3 K2.out.lt
  have HN3:=hide (HN.out w3 hB3)
  clear x4 x5 x6 y0 y1 y2 hw1 hw2 HN hb3
  have x2:=k13.cell 2
  have y0:=k23.cell 0
  have y1:=k23.cell 1
  have y2:=k23.cell 2
  simp only [List.getElem?_cons_zero,List.getElem?_cons_succ] at x2 y0 y1 y2
  have K23:=hide k23
  clear k13 k23 K1 K2 s1
  cases R0
  · rw [Bool.false_or] at HX
    cases h1:inB tr 1 D1
    · rw [h1,Bool.false_and] at HX
      go_wp2_with (go_at_call 181;refine (l1In_any _ _ _ _).mono ?_;rintro e w4 ⟨rfl,rfl⟩)
      go_ret
      exact ⟨ret_bool HX.out.symm,hB3⟩
    · rw [h1, Bool.true_and] at HX
      have Hr1:Hid (1<=tr):=hide (by unfold inB at h1;simp at h1;exact h1.1)
      cases N0
      · rw [Bool.false_and] at HX
        go_wp2_with (first
          | (go_at_call 181;refine (l1In_any _ _ _ _).mono ?_;rintro e w4 ⟨rfl,rfl⟩)
          | (go_at_call 216;refine HN3.out.mono ?_;rintro e w5 ⟨rfl,hb5⟩))
        go_ret
        exact ⟨ret_bool HX.out.symm,hB3.trans (hb5 _)⟩
      · rw [Bool.true_and] at HX
        by_cases hlen:th.length=tw.length
        · rw [decide_eq_true hlen,Bool.true_and] at HX
          have hli:((th.length:Int) != (tw.length:Int))=false:=by rw [hlen];simp
          clear hlen
          go_wp2_with (first
            | (go_at_call 181;refine (l1In_any _ _ _ _).mono ?_;rintro e w4 ⟨rfl,rfl⟩)
            | (go_at_call 216;refine HN3.out.mono ?_;rintro e w5 ⟨rfl,hb5⟩;have hB5:=hB3.trans (hb5 _);have k5:=K23.out.below (hb5 _) K23.out.lt;have t1:=k5.cell 1;have t2:=k5.cell 2;simp only [List.getElem?_cons_zero,List.getElem?_cons_succ] at t1 t2))
          have K5:=hide k5
          have HB5:=hide hB5
          clear k5 x2 y0 y1 y2 t1 t2 hb5 hB5 hB3 hli h1
          go_loopw [4] (fun iv wr=>∃ i:Nat,i<=th.length/\iv=.int .i64 (i:Int)/\(∀ j (hj:j < th.length),j < i->inB th[j] 0 (tr - 1)=true)/\Below w5.heap.size w5 wr) (fun iv _=>th.length - (intOf iv).toNat)
          case atStart=>exact ⟨0,Nat.zero_le _,rfl,fun j _ hj=>by omega,Below.refl _ _⟩
          case round =>
            obtain ⟨i,hi,rfl,hok,hb⟩:=hrel
            have kr:=K5.out.below hb K5.out.lt
            have t0:=kr.cell 0
            have t2:=kr.cell 2
            simp only [List.getElem?_cons_zero,List.getElem?_cons_succ] at t0 t2
            have Hok:=hide hok
            have HBr:=hide (HB5.out.trans (hb.mono HB5.out.size))
            clear hok kr
            by_cases hlt:i < th.length
            · obtain ⟨bh,oh,rfl,hc1,hc2,hbh,hch⟩:=Hh.out.at hlt
              have c0:=(HBr.out.cell (p:=⟨bh,oh+i,none⟩) hbh).trans hch
              have hli:(i:Int) < (th.length:Int):=by omega
              have Hno:=hide (his_no tr th i hlt)
              have Hnx:Hid (inB th[i] 0 (tr - 1)=true->∀ j (hj:j < th.length),j < i+1->inB th[j] 0 (tr - 1)=true):=hide (fun h j hj hji=>by
                by_cases e:j=i
                · subst e;exact h
                · exact Hok.out j hj (by omega))
              generalize th[i]=x at c0 hch Hno Hnx
              have hr1:=Hr1.out
              have hwr:IntKind.i64.wrap (tr - 1)=tr - 1:=by rw [IntKind.wrap_i64];omega
              have Hb:=hide hb
              have g0:=cell_regrown c0
              have g1:=cell_regrown t0
              have g2:=cell_regrown t2
              clear hb hch hr1 c0
              cases hx:inB x 0 (tr - 1)
              · have Hf:=hide (HX.out.trans (Hno.out hx))
                have HI:=hide (fun (d:Nat) (os:Array Obj)=>sameC_regrown (l1In_any x 0 (tr - 1) (grow (redrawn wr d) os)))
                rw [hx] at HI
                clear hx Hnx
                go_wp2
                refine wp_region_quiet_below (by kernel_rfl) (by kernel_rfl) ?_
                repeat (go_big_quiet_step ((go_at_call 181;exact HI.out _ _)))
                refine wpQuiet_nil ?_
                intro _ hw'
                obtain ⟨⟨dq,osq⟩,hw''⟩:=hw'
                subst hw''
                go_wp2
                go_ret
                exact ⟨ret_bool Hf.out.symm,HBr.out.trans ((below_regrown wr dq osq).mono HBr.out.size)⟩
              · have Hnx:=hide (Hnx.out hx)
                have HI:=hide (fun (d:Nat) (os:Array Obj)=>sameC_regrown (l1In_any x 0 (tr - 1) (grow (redrawn wr d) os)))
                rw [hx] at HI
                clear hx Hno
                go_wp2
                refine wp_region_quiet_below (by kernel_rfl) (by kernel_rfl) ?_
                repeat (go_big_quiet_step ((go_at_call 181;exact HI.out _ _)))
                refine wpQuiet_nil ?_
                intro _ hw'
                obtain ⟨⟨dq,osq⟩,hw''⟩:=hw'
                subst hw''
                go_wp2
                go_roundw
                case rel=>exact ⟨i+1,by omega,by go_num,Hnx.out,Hb.out.trans ((below_regrown wr dq osq).mono Hb.out.size)⟩
                case measure=>simp [intOf];omega
            · have Hf:=hide (HX.out.trans (his_yes tr th (fun j hj=>Hok.out j hj (by omega))))
              clear hb
              go_wp2
              go_ret
              exact ⟨ret_bool Hf.out.symm,HBr.out⟩
        · rw [decide_eq_false hlen,Bool.false_and] at HX
          have hli:((th.length:Int) != (tw.length:Int))=true:=by rw [bne_iff_ne];omega
          clear hlen
          go_wp2_with (first
            | (go_at_call 181;refine (l1In_any _ _ _ _).mono ?_;rintro e w4 ⟨rfl,rfl⟩)
            | (go_at_call 216;refine HN3.out.mono ?_;rintro e w5 ⟨rfl,hb5⟩;have hB5:=hB3.trans (hb5 _);have k5:=K23.out.below (hb5 _) K23.out.lt;have t1:=k5.cell 1;have t2:=k5.cell 2;simp only [List.getElem?_cons_zero,List.getElem?_cons_succ] at t1 t2))
          go_ret
          exact ⟨ret_bool HX.out.symm,hB5⟩
  · rw [Bool.true_or] at HX
    go_wp2
    go_ret
    exact ⟨ret_bool HX.out.symm,hB3⟩
end Go.Proofs.YtohachldbpejpaaGreatDoor
