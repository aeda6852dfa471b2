/- Rows that are the same. -/
import Derived.Test.YtohachldbpejpaaGreatDoorZbLgNextJ
import Derived.Test.YtohachldbpejpaaGreatDoorZbBdPure
set_option maxRecDepth 20000
set_option maxHeartbeats 3000000
namespace Go.Proofs.YtohachldbpejpaaGreatDoor
open Go.RowKit
set_option linter.unusedVariables false
set_option linter.unusedSimpArgs false
theorem own_noneV9 (base:Nat) (w:World):OwnV base w (.slice none 0 0) []:=⟨by simp,.inl ⟨rfl,rfl⟩⟩
abbrev put4 (W:World) (g:Nat) (y0 y1 y2 y3:Value):World:=(((W.setCell ⟨g,0,none⟩ y0).setCell ⟨g,1,none⟩ y1).setCell ⟨g,2,none⟩ y2).setCell ⟨g,3,none⟩ y3
theorem row_put4 {base:Nat} {w:World} {t:TypeId} {size:Nat} {v:Value} {n:Nat} {xs:List Value} (h:w.ownsRow base t size v n xs) (g:Nat) (hg:g < base) (y0 y1 y2 y3:Value):(put4 w g y0 y1 y2 y3).ownsRow base t size v n xs:=by
  have a0:=row_set h g 0 y0 (fun k hk=>by have:=(World.ownsRow.lt h k hk).1;omega)
  have a1:=row_set a0 g 1 y1 (fun k hk=>by have:=(World.ownsRow.lt h k hk).1;omega)
  have a2:=row_set a1 g 2 y2 (fun k hk=>by have:=(World.ownsRow.lt h k hk).1;omega)
  exact row_set a2 g 3 y3 (fun k hk=>by have:=(World.ownsRow.lt h k hk).1;omega)
theorem OwnT.put4 {base base':Nat} {w:World} {v:Value} {l:List Tx5} (h:OwnT base w v l) {g:Nat} (hg:g < base) (hB:base'<=base) (y0 y1 y2 y3:Value):OwnT base' (Go.Proofs.YtohachldbpejpaaGreatDoor.put4 w g y0 y1 y2 y3) v l:=OwnT.monoG (row_put4 h g hg y0 y1 y2 y3) hB
theorem OwnV.put4 {base base':Nat} {w:World} {v:Value} {l:List Vl} (h:OwnV base w v l) {g:Nat} (hg:g < base) (hB:base'<=base) (y0 y1 y2 y3:Value):OwnV base' (Go.Proofs.YtohachldbpejpaaGreatDoor.put4 w g y0 y1 y2 y3) v l:=OwnV.mono (row_put4 h g hg y0 y1 y2 y3) hB
theorem below_put4 {B:Nat} {a w:World} (h:Below B a w) {g:Nat} (hg:B<=g) (y0 y1 y2 y3:Value):Below B a (put4 w g y0 y1 y2 y3) :=
  (((h.setCell (p:=⟨g,0,none⟩) hg y0).setCell (p:=⟨g,1,none⟩) hg y1).setCell (p:=⟨g,2,none⟩) hg y2).setCell (p:=⟨g,3,none⟩) hg y3
theorem bodyAt_any (e:Int) (v vl vt:Value) (z:List Ac) (l:List Bk) (id:Int) (ts:List Tx5) (most:Nat) (w:World) (hgh:Gh w) (hgl:Gl w) (hr:RdA w v z) (hrl:RdKs w vl l) (hrt:RdT w vt ts) (hz:z.length<=3999999) (hall:∀ a ∈ z,a.1.size<=maxLen/\a.2.2.2.2.length<=3999999) (hl:l.length<=4000000) (hf:∀ b ∈ l,FewK b) (hbd:∀ b ∈ l,-9223372036854775808<=b.tr/\b.tr<=9223372036854775807) (hts:ts.length<=4000000) (hta:∀ t ∈ ts,t.2.1.size<=maxLen/\t.2.2.1.size<=maxLen) :
    Calls Tryz.prog 60 #[lgV e v,vl,.int .i64 id,vt,.int .i64 (most:Int)] w fun en w'=>∃ vg vn,en=.returned (.tuple #[.agg #[vg,.bool (bdA e z l id ts most).1.en,vn,.string (bdA e z l id ts most).1.rt],.bool (bdA e z l id ts most).2])/\OwnT w.heap.size w' vg (bdA e z l id ts most).1.ts/\OwnV w.heap.size w' vn (bdA e z l id ts most).1.nx/\Below w.heap.size w w':=by
  obtain ⟨av,cv,rfl⟩:=hr.shape
  obtain ⟨al,cl,rfl⟩:=hrl.shape
  obtain ⟨at_,ct,rfl⟩:=hrt.shape
  obtain ⟨w2,hw2⟩:∃ w2,(w.alloc (.cells #[.int .i64 e,.slice av z.length cv] 26)).alloc (.cells #[.slice none 0 0,.bool false,.slice none 0 0,.string { data:=#[] }] 117)=w2:=⟨_,rfl⟩
  have hs2:w2.heap.size=w.heap.size+2:=by rw [<- hw2];simp
  have hb2:Below w.heap.size w w2:=by rw [<- hw2];exact ((Below.refl _ w).alloc (Nat.le_refl _) _).alloc (by simp) _
  have kA:Blk w2 w.heap.size 26 [.int .i64 e,.slice av z.length cv]:=by
    rw [<- hw2]
    exact (Blk.new w 26 [.int .i64 e,.slice av z.length cv]).below ((Below.refl (w.heap.size+1) _).alloc (by simp) _) (by omega)
  have kR:Blk w2 (w.heap.size+1) 117 [.slice none 0 0,.bool false,.slice none 0 0,.string { data:=#[] }]:=by
    rw [<- hw2]
    have h:=Blk.new (w.alloc (.cells #[.int .i64 e,.slice av z.length cv] 26)) 117 [.slice none 0 0,.bool false,.slice none 0 0,.string { data:=#[] }]
    simp only [World.size_alloc] at h
    exact h
  have hcl:=chT_len l id
  have HQ:=hide (fun V (hV:Below w.heap.size w V)=>chainBlocks_any l al cl id V (hrl.below hV (Nat.le_refl _)) hl hf hbd)
  have HT:=hide (fun V (hV:Below w.heap.size w V)=>implTreeOk_any (.slice al l.length cl) l V (hrl.below hV (Nat.le_refl _)) hl hf hbd)
  have HE:=hide (fun V (vq:Value) (b off:Nat) (hV:Below w.heap.size w V) (ho:OwnQ w2.heap.size V vq b off (chT l id)) (ha:0 < (chT l id).length->al=some ⟨b,off,none⟩)=>hasEnd_any l al cl vq b off (chT l id) w2.heap.size V (hrl.below hV (Nat.le_refl _)) ho ha (chT_lt l id) (by omega))
  have HL:=hide (fun (vq:Value) (b off base:Nat) V (hV:Below w.heap.size w V) hq ha=>ledgerBehind_any e (.slice av z.length cv) vq z l al cl b off base (chT l id) V (hgh.below hV) (hr.below hV (Nat.le_refl _)) (hrl.below hV (Nat.le_refl _)) hq ha (chT_lt l id) (by omega) hz hall hf)
  have hfo:=foL_few (e:=e) l (chT l id) z hz hall
  have hga:=gdA_few (e:=e) (l:=foL e z l (chT l id)) ts most hfo.1 hfo.2
  have hne:=neA_few (e:=e) hga.1 hga.2
  have HGo:=hide (fun V v (hV:Below w.heap.size w V) h=>goodOnes_any e v (.slice at_ ts.length ct) (foL e z l (chT l id)) ts most V (hgh.below hV) h (hrt.below hV (Nat.le_refl _)) hfo.1 hfo.2 hts hta)
  have HNx:=hide (fun V v h=>implNext_any e v (gdA e (foL e z l (chT l id)) ts most).1 V h (by omega) (fun a ha=>by have:=hga.2 a ha;omega))
  have HSe:=hide (fun V v h=>implSetOf_any (neA e (gdA e (foL e z l (chT l id)) ts most).1).1 v (neA e (gdA e (foL e z l (chT l id)) ts most).1).2 V h (by omega) (fun a ha=>by have:=hne.2 a ha;omega))
  have HSr:=hide (fun V v (hV:Below w.heap.size w V) h=>implStateRoot_any (neA e (gdA e (foL e z l (chT l id)) ts most).1).1 v (neA e (gdA e (foL e z l (chT l id)) ts most).1).2 V h (by omega) (fun a ha=>by have:=hne.2 a ha;omega) (hgl.below hV (Nat.le_refl _)))
  have HCf:Hid (treeB l=true/\(chT l id=[]->id=-1)->bdA e z l id ts most=(bdC e z l (chT l id) ts most,true)):=hide (fun h=>by unfold bdA;rw [if_pos h])
  have HCn:Hid (¬ (treeB l=true/\(chT l id=[]->id=-1))->bdA e z l id ts most=(⟨[],false,[],{ data:=#[] }⟩,false)):=hide (fun h=>by unfold bdA;rw [if_neg h])
  simp only [lgV] at HL HGo HNx HSe HSr ⊢
  generalize bdA e z l id ts most=R at HCf HCn ⊢
  have Hfew:=hide hne
  have KA:=hide kA
  have KR:=hide kR
  have Hb2:=hide hb2
  clear hgh hgl hr hrl hrt hall hf hbd hta hfo hga hne hb2 kA kR
  generalize chT l id=C at HQ HE HL HGo HNx HSe HSr HCf HCn Hfew hcl
  go_enter Tryz.func60,Tryz.ntmps60
  go_wp2_with fail
  refine (HQ.out w2 Hb2.out).mono ?_
  rintro en w3 ⟨v3,b,off,rfl,hoq,haq,hb3⟩
  have hB3:=Hb2.out.trans (hb3.mono Hb2.out.size)
  have s3:=hb3.size
  have HT3:=hide (HT.out w3 hB3)
  have hsh:=hoq.shape
  go_wp2_with fail
  refine HT3.out.mono ?_
  rintro en w4 ⟨rfl,hb4⟩
  have s4:=hb4.size
  have B4:=hide (hB3.trans (hb4.mono hB3.size))
  have Q4:=hide (show OwnQ w2.heap.size w4 v3 b off C from row_below hoq hb4 (Nat.le_refl _))
  have A4:=hide haq
  have KA4:=hide ((KA.out.below hb3 KA.out.lt).below hb4 (Nat.lt_of_lt_of_le KA.out.lt s3))
  have KR4:=hide ((KR.out.below hb3 KR.out.lt).below hb4 (Nat.lt_of_lt_of_le KR.out.lt s3))
  clear hoq haq hb3 hb4 hB3 HT3 HT HQ KA KR Hb2
  obtain ⟨oa,oc,rfl⟩:=hsh
  by_cases htr:treeB l=true
  · by_cases hC0:C=[]
    · by_cases hid:id=-1
      · subst hid
        have hcz:((C.length:Int) == 0)=true:=by rw [hC0];rfl
        clear hC0
        rw [htr]
        have HC:=hide (HCf.out ⟨htr,fun _=>rfl⟩)
        go_wp2_with fail
        refine (HE.out _ _ b off B4.out Q4.out A4.out).mono ?_
        rintro en w' ⟨rfl,rfl⟩
        by_cases hany:C.any (enAt l)=true
        · rw [hany]
          have kR:=KR4.out
          have r0:=kR.cell 0
          have f0:=kR.frozen 0
          have r1:=kR.cell 1
          have f1:=kR.frozen 1
          have r2:=kR.cell 2
          have f2:=kR.frozen 2
          have r3:=kR.cell 3
          have f3:=kR.frozen 3
          simp only [List.getElem?_cons_zero,List.getElem?_cons_succ] at r0 r1 r2 r3
          have BE:=hide (below_put4 B4.out (g:=w.heap.size+1) (by omega) (.slice none 0 0) (.bool false) (.slice none 0 0) (.string { data:=#[] }))
          have HF:=hide (HC.out.trans (show _=((⟨[],false,[],{ data:=#[] }⟩:Bd),true) from by unfold bdC;rw [if_pos hany]))
          clear kR
          go_wp2
          refine bodyPost_ret (v:=.tuple #[.agg #[.slice none 0 0,.bool false,.slice none 0 0,.string { data:=#[] }],.bool true]) (by simp [results,Tryz.f60,go_sem,r0,r1,r2,r3]) rfl ?_
          rw [HF.out]
          exact ⟨_,_,rfl,own_noneT _ _,own_noneV9 _ _,BE.out⟩
        · have hanf:C.any (enAt l)=false:=by simpa using hany
          rw [hanf]
          have HX:=hide (bdC_x (e:=e) (z:=z) (ts:=ts) (most:=most) hany)
          have x0:=KA4.out.cell 0
          have x1:=KA4.out.cell 1
          simp only [List.getElem?_cons_zero,List.getElem?_cons_succ] at x0 x1
          go_wp2_with fail
          refine (HL.out _ b off _ _ B4.out Q4.out A4.out).mono ?_
          rintro en w5 ⟨v5,rfl,o5,hb5⟩
          have hB5:=B4.out.trans (hb5.mono B4.out.size)
          have HG5:=hide (HGo.out w5 v5 hB5 o5.rd)
          have K5:=hide (KR4.out.below hb5 KR4.out.lt)
          have z5:=hb5.size
          have HB5:=hide hB5
          obtain ⟨a5,c5,rfl⟩:=o5.rd.shape
          clear o5 hb5 hB5 x0 x1
          go_wp2_with fail
          refine HG5.out.mono ?_
          rintro en w6 ⟨vg,v6,rfl,g6,r6,hb6⟩
          obtain ⟨ag,cg,rfl⟩:=g6.rd.shape
          obtain ⟨a6,c6,rfl⟩:=r6.shape
          generalize gdA e (foL e z l C) ts most=AG at g6 r6 HX HNx HSe HSr
          obtain ⟨A,G⟩:=AG
          simp only at g6 r6 HX HNx HSe HSr
          obtain ⟨w7,hw7⟩:∃ w7,w6.alloc (.cells #[.int .i64 e,.slice a6 A.length c6] 26)=w7:=⟨_,rfl⟩
          have b7:Below w6.heap.size w6 w7:=by rw [<- hw7];exact (Below.refl _ w6).alloc (Nat.le_refl _) _
          have k7:Blk w7 w6.heap.size 26 [.int .i64 e,.slice a6 A.length c6]:=by rw [<- hw7];exact Blk.new w6 _ _
          have z6:=hb6.size
          have z7:=b7.size
          have R7:=hide (r6.below b7 (Nat.le_refl _))
          have G7:=hide (g6.below b7 (Nat.le_refl _))
          have KR7:=hide ((K5.out.below hb6 K5.out.lt).below b7 (Nat.lt_of_lt_of_le K5.out.lt z6))
          have B7:=hide ((HB5.out.trans (hb6.mono HB5.out.size)).trans (b7.mono (Nat.le_trans HB5.out.size z6)))
          have y0:=k7.cell 0
          have y1:=k7.cell 1
          simp only [List.getElem?_cons_zero,List.getElem?_cons_succ] at y0 y1
          clear g6 r6 hb6 b7 k7 K5 HG5 HGo HL HE
          by_cases hc1:C.length=1
          · have Hx:=hide (HX.out.1 hc1)
            have hcb:((C.length:Int) == 1)=true:=by rw [hc1];rfl
            go_wp2_with fail
            refine (HNx.out w7 _ R7.out).mono ?_
            rintro en w8 ⟨v8,rfl,o8,hb8⟩
            obtain ⟨a8,c8,rfl⟩:=o8.rd.shape
            generalize neA e A=NA at o8 HSe HSr Hx
            obtain ⟨ne,N⟩:=NA
            simp only at o8 HSe HSr Hx
            obtain ⟨w9,hw9⟩:∃ w9,w8.alloc (.cells #[.int .i64 ne,.slice a8 N.length c8] 26)=w9:=⟨_,rfl⟩
            have b9:Below w8.heap.size w8 w9:=by rw [<- hw9];exact (Below.refl _ w8).alloc (Nat.le_refl _) _
            have k9:Blk w9 w8.heap.size 26 [.int .i64 ne,.slice a8 N.length c8]:=by rw [<- hw9];exact Blk.new w8 _ _
            have z8:=hb8.size
            have z9:=b9.size
            have R9:=hide (o8.rd.below b9 (Nat.le_refl _))
            have G9:=hide ((G7.out.below hb8 (Nat.le_refl _)).below b9 (Nat.le_refl _))
            have KR9:=hide ((KR7.out.below hb8 KR7.out.lt).below b9 (Nat.lt_of_lt_of_le KR7.out.lt z8))
            have B9:=hide ((B7.out.trans (hb8.mono B7.out.size)).trans (b9.mono (Nat.le_trans B7.out.size z8)))
            have HS9:Hid (∀ V,Below w9.heap.size w9 V->Calls Tryz.prog 125 #[.agg #[.int .i64 ne,.slice a8 N.length c8]] V fun en w'=>∃ v',en=.returned v'/\OwnV w9.heap.size w' v' (setA ne N)/\Below w9.heap.size w9 w'/\Below V.heap.size V w'):=hide (fun V hV=>(HSe.out V _ (R9.out.below hV (Nat.le_refl _))).mono (fun en w' ⟨v',h1,h2,h3⟩=>⟨v',h1,h2.mono hV.size,hV.trans (h3.mono hV.size),h3⟩))
            have HR9:Hid (∀ V,Below w9.heap.size w9 V->Calls Tryz.prog 15 #[.agg #[.int .i64 ne,.slice a8 N.length c8]] V fun en w'=>en=.returned (.string (srB ne N))/\Below w9.heap.size w9 w'/\Below V.heap.size V w'):=hide (fun V hV=>(HSr.out V _ (B9.out.trans (hV.mono B9.out.size)) (R9.out.below hV (Nat.le_refl _))).mono (fun en w' ⟨h1,h3⟩=>⟨h1,hV.trans (h3.mono hV.size),h3⟩))
            have K9:=hide k9
            have e0:=k9.cell 0
            have e1:=k9.cell 1
            have d0:w9.drew.cell? ⟨w8.heap.size,0,none⟩=_:=k9.cell 0
            have d1:w9.drew.cell? ⟨w8.heap.size,1,none⟩=_:=k9.cell 1
            simp only [List.getElem?_cons_zero,List.getElem?_cons_succ] at e0 e1 d0 d1
            clear y0 y1 o8 hb8 b9 k9 HSe HSr HNx R7 G7 KR7 B7
            go_upto_region 10 with fail
            go_region_law (first
              | (go_simp;go_at_call 125;refine (HS9.out _ (by first | exact bR | exact Below.refl _ _ | exact (Below.refl _ _).drew)).mono ?_;rintro en wS ⟨vS,rfl,oS,bS,bS'⟩;have hsh:=oS.rd.shape;obtain ⟨aS,cS,hvS⟩:=hsh;subst hvS;have kS:=K9.out.below bS K9.out.lt;have m0:=kS.cell 0;have m1:=kS.cell 1;have rS:=KR9.out.below bS KR9.out.lt;have r0:=rS.cell 0;have r1:=rS.cell 1;have r2:=rS.cell 2;have r3:=rS.cell 3;have f0:=rS.frozen 0;have f1:=rS.frozen 1;have f2:=rS.frozen 2;have f3:=rS.frozen 3;simp only [List.getElem?_cons_zero,List.getElem?_cons_succ] at m0 m1 r0 r1 r2 r3)
              | (go_simp;go_at_call 15;refine (HR9.out _ (by first | exact bS | exact Below.refl _ _ | exact (Below.refl _ _).drew)).mono ?_;rintro en wR ⟨rfl,bR,bR'⟩;have kR:=K9.out.below bR K9.out.lt;have n0:=kR.cell 0;have n1:=kR.cell 1;have rR:=KR9.out.below bR KR9.out.lt;have t0:=rR.cell 0;have t1:=rR.cell 1;have t2:=rR.cell 2;have t3:=rR.cell 3;have g0:=rR.frozen 0;have g1:=rR.frozen 1;have g2:=rR.frozen 2;have g3:=rR.frozen 3;simp only [List.getElem?_cons_zero,List.getElem?_cons_succ] at n0 n1 t0 t1 t2 t3))
            all_goals
              go_wp2
              refine bodyPost_ret (v:=.tuple #[.agg #[.slice ag G.length cg,.bool true,.slice aS (setA ne N).length cS,.string (srB ne N)],.bool true]) (by first | (simp [results,Tryz.f60,go_sem,r0,r1,r2,r3];done) | (simp [results,Tryz.f60,go_sem,t0,t1,t2,t3];done)) rfl ?_
              rw [HC.out,Hx.out]
              refine ⟨_,_,rfl,?_,?_,?_⟩
              · first
                  | with_reducible exact OwnT.put4 (G9.out.below bS (Nat.le_refl _)) (g:=w.heap.size+1) (by omega) (by omega) _ _ _ _
                  | with_reducible exact OwnT.put4 (G9.out.below bR (Nat.le_refl _)) (g:=w.heap.size+1) (by omega) (by omega) _ _ _ _
              · first
                  | with_reducible exact OwnV.put4 oS (g:=w.heap.size+1) (by omega) (by omega) _ _ _ _
                  | with_reducible exact OwnV.put4 (oS.below bR' (Nat.le_refl _)) (g:=w.heap.size+1) (by omega) (by omega) _ _ _ _
              · first
                  | with_reducible exact below_put4 (B9.out.trans (bS.mono B9.out.size)) (by omega) _ _ _ _
                  | with_reducible exact below_put4 (B9.out.trans (bR.mono B9.out.size)) (by omega) _ _ _ _
          · have Hx:=hide (HX.out.2 hc1)
            have hcb:((C.length:Int) == 1)=false:=by rw [beq_eq_false_iff_ne];omega
            have kR:=KR7.out
            have r0:=kR.cell 0
            have f0:=kR.frozen 0
            have r1:=kR.cell 1
            have f1:=kR.frozen 1
            have r2:=kR.cell 2
            have f2:=kR.frozen 2
            have r3:=kR.cell 3
            have f3:=kR.frozen 3
            simp only [List.getElem?_cons_zero,List.getElem?_cons_succ] at r0 r1 r2 r3
            clear kR HNx HSe HSr y0 y1
            go_wp2
            refine bodyPost_ret (v:=.tuple #[.agg #[.slice ag G.length cg,.bool false,.slice none 0 0,.string { data:=#[] }],.bool true]) (by simp [results,Tryz.f60,go_sem,r0,r1,r2,r3]) rfl ?_
            rw [HC.out,Hx.out]
            exact ⟨_,_,rfl,OwnT.monoG (row_put4 G7.out (w.heap.size+1) (by omega) _ _ _ _) (by omega),own_noneV9 _ _,below_put4 B7.out (by omega) _ _ _ _⟩
      · have hq:(id == -1)=false:=by rw [beq_eq_false_iff_ne];exact hid
        subst hC0
        rw [htr]
        have kR:=KR4.out
        have r0:=kR.cell 0
        have f0:=kR.frozen 0
        have r1:=kR.cell 1
        have f1:=kR.frozen 1
        have r2:=kR.cell 2
        have f2:=kR.frozen 2
        have r3:=kR.cell 3
        have f3:=kR.frozen 3
        simp only [List.getElem?_cons_zero,List.getElem?_cons_succ] at r0 r1 r2 r3
        have BE:=hide (below_put4 B4.out (g:=w.heap.size+1) (by omega) (.slice none 0 0) (.bool false) (.slice none 0 0) (.string { data:=#[] }))
        have HF:=hide (HCn.out (fun h=>hid (h.2 rfl)))
        clear kR
        go_wp2
        refine bodyPost_ret (v:=.tuple #[.agg #[.slice none 0 0,.bool false,.slice none 0 0,.string { data:=#[] }],.bool false]) (by simp [results,Tryz.f60,go_sem,r0,r1,r2,r3]) rfl ?_
        rw [HF.out]
        exact ⟨_,_,rfl,own_noneT _ _,own_noneV9 _ _,BE.out⟩
    · have hcz:((C.length:Int) == 0)=false:=by rw [beq_eq_false_iff_ne];intro h;exact hC0 (List.length_eq_zero_iff.1 (by omega))
      rw [htr]
      have HC:=hide (HCf.out ⟨htr,fun h=>absurd h hC0⟩)
      go_wp2_with fail
      refine (HE.out _ _ b off B4.out Q4.out A4.out).mono ?_
      rintro en w' ⟨rfl,rfl⟩
      by_cases hany:C.any (enAt l)=true
      · rw [hany]
        have kR:=KR4.out
        have r0:=kR.cell 0
        have f0:=kR.frozen 0
        have r1:=kR.cell 1
        have f1:=kR.frozen 1
        have r2:=kR.cell 2
        have f2:=kR.frozen 2
        have r3:=kR.cell 3
        have f3:=kR.frozen 3
        simp only [List.getElem?_cons_zero,List.getElem?_cons_succ] at r0 r1 r2 r3
        have BE:=hide (below_put4 B4.out (g:=w.heap.size+1) (by omega) (.slice none 0 0) (.bool false) (.slice none 0 0) (.string { data:=#[] }))
        have HF:=hide (HC.out.trans (show _=((⟨[],false,[],{ data:=#[] }⟩:Bd),true) from by unfold bdC;rw [if_pos hany]))
        clear kR
        go_wp2
        refine bodyPost_ret (v:=.tuple #[.agg #[.slice none 0 0,.bool false,.slice none 0 0,.string { data:=#[] }],.bool true]) (by simp [results,Tryz.f60,go_sem,r0,r1,r2,r3]) rfl ?_
        rw [HF.out]
        exact ⟨_,_,rfl,own_noneT _ _,own_noneV9 _ _,BE.out⟩
      · have hanf:C.any (enAt l)=false:=by simpa using hany
        rw [hanf]
        have HX:=hide (bdC_x (e:=e) (z:=z) (ts:=ts) (most:=most) hany)
        have x0:=KA4.out.cell 0
        have x1:=KA4.out.cell 1
        simp only [List.getElem?_cons_zero,List.getElem?_cons_succ] at x0 x1
        go_wp2_with fail
        refine (HL.out _ b off _ _ B4.out Q4.out A4.out).mono ?_
        rintro en w5 ⟨v5,rfl,o5,hb5⟩
        have hB5:=B4.out.trans (hb5.mono B4.out.size)
        have HG5:=hide (HGo.out w5 v5 hB5 o5.rd)
        have K5:=hide (KR4.out.below hb5 KR4.out.lt)
        have z5:=hb5.size
        have HB5:=hide hB5
        obtain ⟨a5,c5,rfl⟩:=o5.rd.shape
        clear o5 hb5 hB5 x0 x1
        go_wp2_with fail
        refine HG5.out.mono ?_
        rintro en w6 ⟨vg,v6,rfl,g6,r6,hb6⟩
        obtain ⟨ag,cg,rfl⟩:=g6.rd.shape
        obtain ⟨a6,c6,rfl⟩:=r6.shape
        generalize gdA e (foL e z l C) ts most=AG at g6 r6 HX HNx HSe HSr
        obtain ⟨A,G⟩:=AG
        simp only at g6 r6 HX HNx HSe HSr
        obtain ⟨w7,hw7⟩:∃ w7,w6.alloc (.cells #[.int .i64 e,.slice a6 A.length c6] 26)=w7:=⟨_,rfl⟩
        have b7:Below w6.heap.size w6 w7:=by rw [<- hw7];exact (Below.refl _ w6).alloc (Nat.le_refl _) _
        have k7:Blk w7 w6.heap.size 26 [.int .i64 e,.slice a6 A.length c6]:=by rw [<- hw7];exact Blk.new w6 _ _
        have z6:=hb6.size
        have z7:=b7.size
        have R7:=hide (r6.below b7 (Nat.le_refl _))
        have G7:=hide (g6.below b7 (Nat.le_refl _))
        have KR7:=hide ((K5.out.below hb6 K5.out.lt).below b7 (Nat.lt_of_lt_of_le K5.out.lt z6))
        have B7:=hide ((HB5.out.trans (hb6.mono HB5.out.size)).trans (b7.mono (Nat.le_trans HB5.out.size z6)))
        have y0:=k7.cell 0
        have y1:=k7.cell 1
        simp only [List.getElem?_cons_zero,List.getElem?_cons_succ] at y0 y1
        clear g6 r6 hb6 b7 k7 K5 HG5 HGo HL HE
        by_cases hc1:C.length=1
        · have Hx:=hide (HX.out.1 hc1)
          have hcb:((C.length:Int) == 1)=true:=by rw [hc1];rfl
          go_wp2_with fail
          refine (HNx.out w7 _ R7.out).mono ?_
          rintro en w8 ⟨v8,rfl,o8,hb8⟩
          obtain ⟨a8,c8,rfl⟩:=o8.rd.shape
          generalize neA e A=NA at o8 HSe HSr Hx
          obtain ⟨ne,N⟩:=NA
          simp only at o8 HSe HSr Hx
          obtain ⟨w9,hw9⟩:∃ w9,w8.alloc (.cells #[.int .i64 ne,.slice a8 N.length c8] 26)=w9:=⟨_,rfl⟩
          have b9:Below w8.heap.size w8 w9:=by rw [<- hw9];exact (Below.refl _ w8).alloc (Nat.le_refl _) _
          have k9:Blk w9 w8.heap.size 26 [.int .i64 ne,.slice a8 N.length c8]:=by rw [<- hw9];exact Blk.new w8 _ _
          have z8:=hb8.size
          have z9:=b9.size
          have R9:=hide (o8.rd.below b9 (Nat.le_refl _))
          have G9:=hide ((G7.out.below hb8 (Nat.le_refl _)).below b9 (Nat.le_refl _))
          have KR9:=hide ((KR7.out.below hb8 KR7.out.lt).below b9 (Nat.lt_of_lt_of_le KR7.out.lt z8))
          have B9:=hide ((B7.out.trans (hb8.mono B7.out.size)).trans (b9.mono (Nat.le_trans B7.out.size z8)))
          have HS9:Hid (∀ V,Below w9.heap.size w9 V->Calls Tryz.prog 125 #[.agg #[.int .i64 ne,.slice a8 N.length c8]] V fun en w'=>∃ v',en=.returned v'/\OwnV w9.heap.size w' v' (setA ne N)/\Below w9.heap.size w9 w'/\Below V.heap.size V w'):=hide (fun V hV=>(HSe.out V _ (R9.out.below hV (Nat.le_refl _))).mono (fun en w' ⟨v',h1,h2,h3⟩=>⟨v',h1,h2.mono hV.size,hV.trans (h3.mono hV.size),h3⟩))
          have HR9:Hid (∀ V,Below w9.heap.size w9 V->Calls Tryz.prog 15 #[.agg #[.int .i64 ne,.slice a8 N.length c8]] V fun en w'=>en=.returned (.string (srB ne N))/\Below w9.heap.size w9 w'/\Below V.heap.size V w'):=hide (fun V hV=>(HSr.out V _ (B9.out.trans (hV.mono B9.out.size)) (R9.out.below hV (Nat.le_refl _))).mono (fun en w' ⟨h1,h3⟩=>⟨h1,hV.trans (h3.mono hV.size),h3⟩))
          have K9:=hide k9
          have e0:=k9.cell 0
          have e1:=k9.cell 1
          have d0:w9.drew.cell? ⟨w8.heap.size,0,none⟩=_:=k9.cell 0
          have d1:w9.drew.cell? ⟨w8.heap.size,1,none⟩=_:=k9.cell 1
          simp only [List.getElem?_cons_zero,List.getElem?_cons_succ] at e0 e1 d0 d1
          clear y0 y1 o8 hb8 b9 k9 HSe HSr HNx R7 G7 KR7 B7
          go_upto_region 10 with fail
          go_region_law (first
            | (go_simp;go_at_call 125;refine (HS9.out _ (by first | exact bR | exact Below.refl _ _ | exact (Below.refl _ _).drew)).mono ?_;rintro en wS ⟨vS,rfl,oS,bS,bS'⟩;have hsh:=oS.rd.shape;obtain ⟨aS,cS,hvS⟩:=hsh;subst hvS;have kS:=K9.out.below bS K9.out.lt;have m0:=kS.cell 0;have m1:=kS.cell 1;have rS:=KR9.out.below bS KR9.out.lt;have r0:=rS.cell 0;have r1:=rS.cell 1;have r2:=rS.cell 2;have r3:=rS.cell 3;have f0:=rS.frozen 0;have f1:=rS.frozen 1;have f2:=rS.frozen 2;have f3:=rS.frozen 3;simp only [List.getElem?_cons_zero,List.getElem?_cons_succ] at m0 m1 r0 r1 r2 r3)
            | (go_simp;go_at_call 15;refine (HR9.out _ (by first | exact bS | exact Below.refl _ _ | exact (Below.refl _ _).drew)).mono ?_;rintro en wR ⟨rfl,bR,bR'⟩;have kR:=K9.out.below bR K9.out.lt;have n0:=kR.cell 0;have n1:=kR.cell 1;have rR:=KR9.out.below bR KR9.out.lt;have t0:=rR.cell 0;have t1:=rR.cell 1;have t2:=rR.cell 2;have t3:=rR.cell 3;have g0:=rR.frozen 0;have g1:=rR.frozen 1;have g2:=rR.frozen 2;have g3:=rR.frozen 3;simp only [List.getElem?_cons_zero,List.getElem?_cons_succ] at n0 n1 t0 t1 t2 t3))
          all_goals
            go_wp2
            refine bodyPost_ret (v:=.tuple #[.agg #[.slice ag G.length cg,.bool true,.slice aS (setA ne N).length cS,.string (srB ne N)],.bool true]) (by first | (simp [results,Tryz.f60,go_sem,r0,r1,r2,r3];done) | (simp [results,Tryz.f60,go_sem,t0,t1,t2,t3];done)) rfl ?_
            rw [HC.out,Hx.out]
            refine ⟨_,_,rfl,?_,?_,?_⟩
            · first
                | with_reducible exact OwnT.put4 (G9.out.below bS (Nat.le_refl _)) (g:=w.heap.size+1) (by omega) (by omega) _ _ _ _
                | with_reducible exact OwnT.put4 (G9.out.below bR (Nat.le_refl _)) (g:=w.heap.size+1) (by omega) (by omega) _ _ _ _
            · first
                | with_reducible exact OwnV.put4 oS (g:=w.heap.size+1) (by omega) (by omega) _ _ _ _
                | with_reducible exact OwnV.put4 (oS.below bR' (Nat.le_refl _)) (g:=w.heap.size+1) (by omega) (by omega) _ _ _ _
            · first
                | with_reducible exact below_put4 (B9.out.trans (bS.mono B9.out.size)) (by omega) _ _ _ _
                | with_reducible exact below_put4 (B9.out.trans (bR.mono B9.out.size)) (by omega) _ _ _ _
        · have Hx:=hide (HX.out.2 hc1)
          have hcb:((C.length:Int) == 1)=false:=by rw [beq_eq_false_iff_ne];omega
          have kR:=KR7.out
          have r0:=kR.cell 0
          have f0:=kR.frozen 0
          have r1:=kR.cell 1
          have f1:=kR.frozen 1
          have r2:=kR.cell 2
          have f2:=kR.frozen 2
          have r3:=kR.cell 3
          have f3:=kR.frozen 3
          simp only [List.getElem?_cons_zero,List.getElem?_cons_succ] at r0 r1 r2 r3
          clear kR HNx HSe HSr y0 y1
          go_wp2
          refine bodyPost_ret (v:=.tuple #[.agg #[.slice ag G.length cg,.bool false,.slice none 0 0,.string { data:=#[] }],.bool true]) (by simp [results,Tryz.f60,go_sem,r0,r1,r2,r3]) rfl ?_
          rw [HC.out,Hx.out]
          exact ⟨_,_,rfl,OwnT.monoG (row_put4 G7.out (w.heap.size+1) (by omega) _ _ _ _) (by omega),own_noneV9 _ _,below_put4 B7.out (by omega) _ _ _ _⟩
  · have htf:treeB l=false:=by simpa using htr
    rw [htf]
    have kR:=KR4.out
    have r0:=kR.cell 0
    have f0:=kR.frozen 0
    have r1:=kR.cell 1
    have f1:=kR.frozen 1
    have r2:=kR.cell 2
    have f2:=kR.frozen 2
    have r3:=kR.cell 3
    have f3:=kR.frozen 3
    simp only [List.getElem?_cons_zero,List.getElem?_cons_succ] at r0 r1 r2 r3
    have BE:=hide (below_put4 B4.out (g:=w.heap.size+1) (by omega) (.slice none 0 0) (.bool false) (.slice none 0 0) (.string { data:=#[] }))
    have HF:=hide (HCn.out (fun h=>htr h.1))
    clear kR
    go_wp2
    refine bodyPost_ret (v:=.tuple #[.agg #[.slice none 0 0,.bool false,.slice none 0 0,.string { data:=#[] }],.bool false]) (by simp [results,Tryz.f60,go_sem,r0,r1,r2,r3]) rfl ?_
    rw [HF.out]
    exact ⟨_,_,rfl,own_noneT _ _,own_noneV9 _ _,BE.out⟩
set_option linter.unusedSimpArgs false
theorem implMakeBody_any (e:Int) (v vl vt:Value) (z:List Ac) (l:List Bk) (id:Int) (ts:List Tx5) (w:World) (hgh:Gh w) (hgl:Gl w) (hr:RdA w v z) (hrl:RdKs w vl l) (hrt:RdT w vt ts) (hz:z.length<=3999999) (hall:∀ a ∈ z,a.1.size<=maxLen/\a.2.2.2.2.length<=3999999) (hl:l.length<=4000000) (hf:∀ b ∈ l,FewK b) (hbd:∀ b ∈ l,-9223372036854775808<=b.tr/\b.tr<=9223372036854775807) (hts:ts.length<=4000000) (hta:∀ t ∈ ts,t.2.1.size<=maxLen/\t.2.2.1.size<=maxLen) :
    Calls Tryz.prog 17 #[lgV e v,vl,.int .i64 id,vt] w fun en w'=>∃ vg vn,en=.returned (.tuple #[vg,.bool (bdA e z l id ts 4).1.en,vn,.string (bdA e z l id ts 4).1.rt])/\OwnT w.heap.size w' vg (bdA e z l id ts 4).1.ts/\OwnV w.heap.size w' vn (bdA e z l id ts 4).1.nx/\Below w.heap.size w w':=by
  obtain ⟨av,cv,rfl⟩:=hr.shape
  obtain ⟨al,cl,rfl⟩:=hrl.shape
  obtain ⟨at_,ct,rfl⟩:=hrt.shape
  obtain ⟨w1,hw1⟩:∃ w1,w.alloc (.cells #[.int .i64 e,.slice av z.length cv] 26)=w1:=⟨_,rfl⟩
  have hb1:Below w.heap.size w w1:=by rw [<- hw1];exact (Below.refl _ w).alloc (Nat.le_refl _) _
  have k1:Blk w1 w.heap.size 26 [.int .i64 e,.slice av z.length cv]:=by rw [<- hw1];exact Blk.new w _ _
  have HBd:Hid (Calls Tryz.prog 60 #[lgV e (.slice av z.length cv),.slice al l.length cl,.int .i64 id,.slice at_ ts.length ct,.int .i64 4] w1 _):=hide (bodyAt_any e (.slice av z.length cv) (.slice al l.length cl) (.slice at_ ts.length ct) z l id ts 4 w1 (hgh.below hb1) (hgl.below hb1 (Nat.le_refl _)) (hr.below hb1 (Nat.le_refl _)) (hrl.below hb1 (Nat.le_refl _)) (hrt.below hb1 (Nat.le_refl _)) hz hall hl hf hbd hts hta)
  generalize bdA e z l id ts 4=R at HBd ⊢
  simp only [lgV] at HBd ⊢
  have x0:=k1.cell 0
  have x1:=k1.cell 1
  simp only [List.getElem?_cons_zero,List.getElem?_cons_succ] at x0 x1
  have Hb1:=hide hb1
  clear hgh hgl hr hrl hrt hall hf hbd hta hb1 k1
  go_enter Tryz.func17,Tryz.ntmps17
  go_wp2_with fail
  refine HBd.out.mono ?_
  rintro en w2 ⟨vg,vn,rfl,og,on,hb2⟩
  obtain ⟨ag,cg,rfl⟩:=og.rd.shape
  obtain ⟨an,cn,rfl⟩:=on.rd.shape
  obtain ⟨⟨T,E,X,Y⟩,q⟩:=R
  simp only at og on ⊢
  obtain ⟨w3,hw3⟩:∃ w3,w2.alloc (.cells #[.slice ag T.length cg,.bool E,.slice an X.length cn,.string Y] 117)=w3:=⟨_,rfl⟩
  have b3:Below w2.heap.size w2 w3:=by rw [<- hw3];exact (Below.refl _ w2).alloc (Nat.le_refl _) _
  have k3:Blk w3 w2.heap.size 117 [.slice ag T.length cg,.bool E,.slice an X.length cn,.string Y]:=by rw [<- hw3];exact Blk.new w2 _ _
  have B2:=Hb1.out.trans (hb2.mono Hb1.out.size)
  have HB3:=hide (B2.trans (b3.mono B2.size))
  have OG:=hide ((og.below b3 (Nat.le_refl _)).monoG (base':=w.heap.size) Hb1.out.size)
  have ON:=hide ((on.below b3 (Nat.le_refl _)).mono (base':=w.heap.size) Hb1.out.size)
  have c0:=cell_regrown (k3.cell 0)
  have c1:=cell_regrown (k3.cell 1)
  have c2:=cell_regrown (k3.cell 2)
  have c3:=cell_regrown (k3.cell 3)
  clear og on hb2 b3 B2 x0 x1 HBd k3
  go_upto_region 2 with fail
  refine wp_region_quiet_below (by kernel_rfl) (by kernel_rfl) ?_
  repeat (go_big_quiet_step (fail))
  refine wpQuiet_nil ?_
  intro _ hw'
  obtain ⟨⟨dq,osq⟩,hw''⟩:=hw'
  subst hw''
  go_wp2
  refine bodyPost_ret (v:=.tuple #[.slice ag T.length cg,.bool E,.slice an X.length cn,.string Y]) (by simp [results,Tryz.f17,go_sem]) rfl ?_
  have hq:=below_regrown w3 dq osq
  exact ⟨_,_,rfl,OG.out.below hq (Nat.le_refl _),ON.out.below hq (Nat.le_refl _),HB3.out.trans (hq.mono HB3.out.size)⟩
theorem equalT_any (v1 v2:Value) (l1 l2:List Tx5) (w:World) (hr1:RdT w v1 l1) (hr2:RdT w v2 l2) (hl1:l1.length<=4000000) (hl2:l2.length<=4000000) :
    Calls Tryz.prog 63 #[v1,v2] w fun e w'=>e=.returned (.bool (decide (l1=l2)))/\Sm w w':=by
  by_cases hne:l1.length=l2.length
  · rcases hr1 with ⟨a,cap,rfl,rfl,-⟩ | ⟨b,off,cap,h0,rfl,h1,h2,h3,h4⟩
    · have e2:l2=[]:=List.length_eq_zero_iff.1 (by simpa using hne.symm)
      subst e2
      obtain ⟨a2,cap2,rfl⟩:=hr2.shape
      clear hr2
      go_enter Tryz.func63,Tryz.ntmps63
      go_wp2
      refine wp_loop_rounds 1 ?_
      rw [rounds_succ]
      go_wp2
      go_ret
      exact ⟨rfl,Sm.refl _⟩
    · rcases hr2 with ⟨a2,cap2,rfl,rfl,-⟩ | ⟨b2,off2,cap2,g0,rfl,g1,g2,g3,g4⟩
      · exact absurd (List.length_eq_zero_iff.1 (by simpa using hne)) h0
      · have hlen : ((l1.length:Int) != (l2.length:Int))=false:=by rw [hne];simp
        have hle:l1.length<=l2.length:=by omega
        have hge:l2.length<=l1.length:=by omega
        have H4:=hide h4
        have G4:=hide g4
        clear hne h4 g4
        go_enter Tryz.func63,Tryz.ntmps63
        go_wp2
        go_loopw [13] (fun i wr=>∃ k:Nat,k<=l1.length/\i=.int .i64 k/\l1.take k=l2.take k/\Sm w wr) (fun i _=>l1.length - (intOf i).toNat)
        case atStart=>exact ⟨0,Nat.zero_le _,rfl,rfl,Sm.refl _⟩
        case round =>
          obtain ⟨k,hk,rfl,ht,hs⟩:=hrel
          have Ht:=hide ht
          clear ht
          by_cases hlt:k < l1.length
          · have hlt2 : k < l2.length:=by omega
            obtain ⟨c0,c1,c2,c3,c4⟩:=H4.out k hlt
            obtain ⟨d0,d1,d2,d3,d4⟩:=G4.out k hlt2
            replace c0:=(hs.cell ⟨b,off+k * 5,none⟩).trans c0
            replace d0:=(hs.cell ⟨b2,off2+k * 5,none⟩).trans d0
            replace c1:=(hs.cell ⟨b,off+k * 5+1,none⟩).trans c1
            replace d1:=(hs.cell ⟨b2,off2+k * 5+1,none⟩).trans d1
            replace c2:=(hs.cell ⟨b,off+k * 5+2,none⟩).trans c2
            replace d2:=(hs.cell ⟨b2,off2+k * 5+2,none⟩).trans d2
            replace c3:=(hs.cell ⟨b,off+k * 5+3,none⟩).trans c3
            replace d3:=(hs.cell ⟨b2,off2+k * 5+3,none⟩).trans d3
            replace c4:=(hs.cell ⟨b,off+k * 5+4,none⟩).trans c4
            replace d4:=(hs.cell ⟨b2,off2+k * 5+4,none⟩).trans d4
            have hli:(k:Int) < (l1.length:Int):=by omega
            have hli2:(k:Int) < (l2.length:Int):=by omega
            have Hnx:Hid (l1[k]=l2[k]->l1.take (k+1)=l2.take (k+1)):=hide (fun he=>take_eq_snoc hlt hlt2 Ht.out he)
            have Hno:Hid (l1[k] ≠ l2[k]->decide (l1=l2)=false):=hide (fun he=>by rw [decide_eq_false];intro e;subst e;exact he rfl)
            generalize l1[k]=p at c0 c1 c2 c3 c4 Hnx Hno
            generalize l2[k]=q at d0 d1 d2 d3 d4 Hnx Hno
            obtain ⟨x0,x1,x2,x3,x4⟩:=p
            obtain ⟨y0,y1,y2,y3,y4⟩:=q
            simp only at c0 d0 c1 d1 c2 d2 c3 d3 c4 d4
            by_cases e0:x0=y0
            · subst e0
              by_cases e1:x1=y1
              · subst e1
                by_cases e2:x2=y2
                · subst e2
                  by_cases e3:x3=y3
                  · subst e3
                    by_cases e4:x4=y4
                    · subst e4
                      have Hn2:=hide (Hnx.out rfl)
                      clear Hno Hnx
                      go_wp2
                      go_quiet (fail)
                      go_wp2
                      go_roundw
                      case rel=>exact ⟨k+1,by omega,by go_num,Hn2.out,hs.drewN _⟩
                      case measure=>simp [intOf];omega
                    · have Hno:=hide (Hno.out (by intro h;simp only [Prod.mk.injEq] at h;exact e4 h.2.2.2.2))
                      have hq:=int_ne e4
                      have hq2:(x4 == y4)=false:=by rw [beq_eq_false_iff_ne];exact e4
                      clear e4 Hnx
                      go_wp2
                      go_quiet (fail)
                      go_wp2
                      go_ret
                      exact ⟨ret_bool Hno.out.symm,hs.drewN _⟩
                  · have Hno:=hide (Hno.out (by intro h;simp only [Prod.mk.injEq] at h;exact e3 h.2.2.2.1))
                    have hq:=int_ne e3
                    have hq2:(x3 == y3)=false:=by rw [beq_eq_false_iff_ne];exact e3
                    clear e3 Hnx
                    go_wp2
                    go_quiet (fail)
                    go_wp2
                    go_ret
                    exact ⟨ret_bool Hno.out.symm,hs.drewN _⟩
                · have Hno:=hide (Hno.out (by intro h;simp only [Prod.mk.injEq] at h;exact e2 h.2.2.1))
                  have hq:=bytes_ne e2
                  clear e2 Hnx
                  go_wp2
                  go_quiet (fail)
                  go_wp2
                  go_ret
                  exact ⟨ret_bool Hno.out.symm,hs.drewN _⟩
              · have Hno:=hide (Hno.out (by intro h;simp only [Prod.mk.injEq] at h;exact e1 h.2.1))
                have hq:=bytes_ne e1
                clear e1 Hnx
                go_wp2
                go_quiet (fail)
                go_wp2
                go_ret
                exact ⟨ret_bool Hno.out.symm,hs.drewN _⟩
            · have Hno:=hide (Hno.out (by intro h;simp only [Prod.mk.injEq] at h;exact e0 h.1))
              have hq:=int_ne e0
              have hq2:(x0 == y0)=false:=by rw [beq_eq_false_iff_ne];exact e0
              clear e0 Hnx
              go_wp2
              go_quiet (fail)
              go_wp2
              go_ret
              exact ⟨ret_bool Hno.out.symm,hs.drewN _⟩
          · have hf:Hid (decide (l1=l2)=true):=hide (by
              rw [decide_eq_true]
              have:=Ht.out
              rwa [List.take_of_length_le (by omega),List.take_of_length_le (by omega)] at this)
            go_wp2
            go_ret
            exact ⟨ret_bool hf.out.symm,hs⟩
  · obtain ⟨a,cap,rfl⟩:=hr1.shape
    obtain ⟨a2,cap2,rfl⟩:=hr2.shape
    clear hr1 hr2
    have hlen:((l1.length:Int) != (l2.length:Int))=true:=by rw [bne_iff_ne];omega
    have hf:Hid (decide (l1=l2)=false):=hide (by rw [decide_eq_false];intro e;subst e;exact hne rfl)
    clear hne
    go_enter Tryz.func63,Tryz.ntmps63
    go_wp2
    go_ret
    exact ⟨ret_bool hf.out.symm,Sm.refl _⟩
theorem equalV_any (v1 v2:Value) (l1 l2:List Vl) (w:World) (hr1:RdV w v1 l1) (hr2:RdV w v2 l2) (hl1:l1.length<=4000000) (hl2:l2.length<=4000000) :
    Calls Tryz.prog 64 #[v1,v2] w fun e w'=>e=.returned (.bool (decide (l1=l2)))/\Sm w w':=by
  by_cases hne:l1.length=l2.length
  · rcases hr1 with ⟨a,cap,rfl,rfl,-⟩ | ⟨b,off,cap,h0,rfl,h1,h2,h3,h4⟩
    · have e2:l2=[]:=List.length_eq_zero_iff.1 (by simpa using hne.symm)
      subst e2
      obtain ⟨a2,cap2,rfl⟩:=hr2.shape
      clear hr2
      go_enter Tryz.func64,Tryz.ntmps64
      go_wp2
      refine wp_loop_rounds 1 ?_
      rw [rounds_succ]
      go_wp2
      go_ret
      exact ⟨rfl,Sm.refl _⟩
    · rcases hr2 with ⟨a2,cap2,rfl,rfl,-⟩ | ⟨b2,off2,cap2,g0,rfl,g1,g2,g3,g4⟩
      · exact absurd (List.length_eq_zero_iff.1 (by simpa using hne)) h0
      · have hlen:((l1.length:Int) != (l2.length:Int))=false:=by rw [hne];simp
        have hle:l1.length<=l2.length:=by omega
        have hge:l2.length<=l1.length:=by omega
        have H4:=hide h4
        have G4:=hide g4
        clear hne h4 g4
        go_enter Tryz.func64,Tryz.ntmps64
        go_wp2
        go_loopw [13] (fun i wr=>∃ k:Nat,k<=l1.length/\i=.int .i64 k/\l1.take k=l2.take k/\Sm w wr) (fun i _=>l1.length - (intOf i).toNat)
        case atStart=>exact ⟨0,Nat.zero_le _,rfl,rfl,Sm.refl _⟩
        case round =>
          obtain ⟨k,hk,rfl,ht,hs⟩:=hrel
          have Ht:=hide ht
          clear ht
          by_cases hlt:k < l1.length
          · have hlt2:k < l2.length:=by omega
            obtain ⟨c0,c1⟩:=H4.out k hlt
            obtain ⟨d0,d1⟩:=G4.out k hlt2
            replace c0:=(hs.cell ⟨b,off+k * 2,none⟩).trans c0
            replace d0:=(hs.cell ⟨b2,off2+k * 2,none⟩).trans d0
            replace c1:=(hs.cell ⟨b,off+k * 2+1,none⟩).trans c1
            replace d1:=(hs.cell ⟨b2,off2+k * 2+1,none⟩).trans d1
            have hli:(k:Int) < (l1.length:Int):=by omega
            have hli2:(k:Int) < (l2.length:Int):=by omega
            have Hnx:Hid (l1[k]=l2[k]->l1.take (k+1)=l2.take (k+1)):=hide (fun he=>take_eq_snoc hlt hlt2 Ht.out he)
            have Hno:Hid (l1[k] ≠ l2[k]->decide (l1=l2)=false):=hide (fun he=>by rw [decide_eq_false];intro e;subst e;exact he rfl)
            generalize l1[k]=p at c0 c1 Hnx Hno
            generalize l2[k]=q at d0 d1 Hnx Hno
            obtain ⟨x0,x1⟩:=p
            obtain ⟨y0,y1⟩:=q
            simp only at c0 d0 c1 d1
            by_cases e0:x0=y0
            · subst e0
              by_cases e1:x1=y1
              · subst e1
                have Hn2:=hide (Hnx.out rfl)
                clear Hno Hnx
                go_wp2
                go_quiet (fail)
                go_wp2
                go_roundw
                case rel=>exact ⟨k+1,by omega,by go_num,Hn2.out,hs.drewN _⟩
                case measure=>simp [intOf];omega
              · have Hno:=hide (Hno.out (by intro h;simp only [Prod.mk.injEq] at h;exact e1 h.2))
                have hq:=int_ne e1
                have hq2:(x1 == y1)=false:=by rw [beq_eq_false_iff_ne];exact e1
                clear e1 Hnx
                go_wp2
                go_quiet (fail)
                go_wp2
                go_ret
                exact ⟨ret_bool Hno.out.symm,hs.drewN _⟩
            · have Hno:=hide (Hno.out (by intro h;simp only [Prod.mk.injEq] at h;exact e0 h.1))
              have hq:=bytes_ne e0
              clear e0 Hnx
              go_wp2
              go_quiet (fail)
              go_wp2
              go_ret
              exact ⟨ret_bool Hno.out.symm,hs.drewN _⟩
          · have hf:Hid (decide (l1=l2)=true):=hide (by
              rw [decide_eq_true]
              have:=Ht.out
              rwa [List.take_of_length_le (by omega),List.take_of_length_le (by omega)] at this)
            go_wp2
            go_ret
            exact ⟨ret_bool hf.out.symm,hs⟩
  · obtain ⟨a,cap,rfl⟩:=hr1.shape
    obtain ⟨a2,cap2,rfl⟩:=hr2.shape
    clear hr1 hr2
    have hlen:((l1.length:Int) != (l2.length:Int))=true:=by rw [bne_iff_ne];omega
    have hf:Hid (decide (l1=l2)=false):=hide (by rw [decide_eq_false];intro e;subst e;exact hne rfl)
    clear hne
    go_enter Tryz.func64,Tryz.ntmps64
    go_wp2
    go_ret
    exact ⟨ret_bool hf.out.symm,Sm.refl _⟩
end Go.Proofs.YtohachldbpejpaaGreatDoor
