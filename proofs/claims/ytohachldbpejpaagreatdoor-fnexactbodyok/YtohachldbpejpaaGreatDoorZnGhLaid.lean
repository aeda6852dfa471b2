/- What a block at a place does: bodyAt of the landed code. The landed code's BodyOk. What the row's condition says of the two package-level variables: their cells. What the row's condition says of the package-level variable that holds a type's handle: its cell. -/
import Derived.Test.YtohachldbpejpaaGreatDoorZnLgNextJ
import Derived.Test.YtohachldbpejpaaGreatDoorZnPlFit
import Derived.Test.YtohachldbpejpaaGreatDoorZnVsSet
import Derived.Test.YtohachldbpejpaaGreatDoorZnTrImpl
import Derived.Test.YtohachldbpejpaaGreatDoorZnBkRowE
import Derived.Test.YtohachldbpejpaaGreatDoorZnShaBlock
import Derived.LaidMore
import Derived.OpenVars
import Derived.Lib.LaidU8
import Derived.ProofKit
import Derived.OpenShut
import Derived.Stop.Joined
import Derived.Test.YtohachldbpejpaaGreatDoorZnLgOrd
import Derived.LaidLaws
import Derived.LaidHandle
import Derived.Test.YtohachldbpejpaaGreatDoorRows
namespace Go.Proofs.YtohachldbpejpaaGreatDoor
open Go.RowKit
set_option linter.unusedVariables false
set_option linter.unusedSimpArgs false
theorem own_noneV9 (base:Nat) (w:World):OwnV base w (.slice none 0 0) []:=⟨by simp,.inl ⟨rfl,rfl⟩⟩
abbrev put4 (W:World) (g:Nat) (y0 y1 y2 y3:Value):World:=(((W.setCell ⟨g,0,none⟩ y0).setCell ⟨g,1,none⟩ y1).setCell ⟨g,2,none⟩ y2).setCell ⟨g,3,none⟩ y3
theorem row_put4 {base:Nat} {w:World} {t:TypeId} {size:Nat} {v:Value} {n:Nat} {xs:List Value} (h:w.ownsRow base t size v n xs) (g:Nat) (hg:g < base) (y0 y1 y2 y3:Value):(put4 w g y0 y1 y2 y3).ownsRow base t size v n xs:=by
  have a0:=row_set h g 0 y0 (fun k hk=>by have:=(World.ownsRow.lt h k hk).1;omega)
  have a1:=row_set a0 g 1 y1 (fun k hk=>by have:=(World.ownsRow.lt h k hk).1;omega)
  have a2:=row_set a1 g 2 y2 (fun k hk=>by have:=(World.ownsRow.lt h k hk).1;omega)
  exact row_set a2 g 3 y3 (fun k hk=>by have:=(World.ownsRow.lt h k hk).1;omega)
theorem OwnT.put4 {base base':Nat} {w:World} {v:Value} {l:List Tx5} (h:OwnT base w v l) {g:Nat} (hg:g < base) (hB:base'<=base) (y0 y1 y2 y3:Value):OwnT base' (Go.Proofs.YtohachldbpejpaaGreatDoor.put4 w g y0 y1 y2 y3) v l:=OwnT.monoG (row_put4 h g hg y0 y1 y2 y3) hB
theorem OwnV.put4 {base base':Nat} {w:World} {v:Value} {l:List Vl} (h:OwnV base w v l) {g:Nat} (hg:g < base) (hB:base'<=base) (y0 y1 y2 y3:Value):OwnV base' (Go.Proofs.YtohachldbpejpaaGreatDoor.put4 w g y0 y1 y2 y3) v l:=OwnV.mono (row_put4 h g hg y0 y1 y2 y3) hB
theorem below_put4 {B:Nat} {a w:World} (h:Below B a w) {g:Nat} (hg:B<=g) (y0 y1 y2 y3:Value):Below B a (put4 w g y0 y1 y2 y3) :=
  (((h.setCell (p:=⟨g,0,none⟩) hg y0).setCell (p:=⟨g,1,none⟩) hg y1).setCell (p:=⟨g,2,none⟩) hg y2).setCell (p:=⟨g,3,none⟩) hg y3
set_option maxRecDepth 20000 in
set_option maxHeartbeats 3000000 in
theorem bodyAt_any (e:Int) (v vl vt:Value) (z:List Ac) (l:List Bk) (id:Int) (ts:List Tx5) (most:Nat) (w:World) (hgh:Gh w) (hgl:Gl w) (hr:RdA w v z) (hrl:RdKs w vl l) (hrt:RdT w vt ts) (hz:z.length<=3999999) (hall:∀ a ∈ z,a.1.size<=maxLen/\a.2.2.2.2.length<=3999999) (hl:l.length<=4000000) (hf:∀ b ∈ l,FewK b) (hbd:∀ b ∈ l,-9223372036854775808<=b.tr/\b.tr<=9223372036854775807) (hts:ts.length<=4000000) (hta:∀ t ∈ ts,t.2.1.size<=maxLen/\t.2.2.1.size<=maxLen) :
    Calls Tryz.prog 60 #[lgV e v,vl,.int .i64 id,vt,.int .i64 (most:Int)] w fun en w'=>∃ vg vn,en=.returned (.tuple #[.agg #[vg,.bool (bdA e z l id ts most).1.en,vn,.string (bdA e z l id ts most).1.rt],.bool (bdA e z l id ts most).2])/\OwnT w.heap.size w' vg (bdA e z l id ts most).1.ts/\OwnV w.heap.size w' vn (bdA e z l id ts most).1.nx/\Below w.heap.size w w':=by
  obtain ⟨av,cv,rfl⟩:=hr.shape
  obtain ⟨al,cl,rfl⟩:=hrl.shape
  obtain ⟨at_,ct,rfl⟩:=hrt.shape
  obtain ⟨w2,hw2⟩:∃ w2,(w.alloc (.cells #[.int .i64 e,.slice av z.length cv] 26)).alloc (.cells #[.slice none 0 0,.bool false,.slice none 0 0,.string { data:=#[] }] 117)=w2:=⟨_,rfl⟩
  have hs2:w2.heap.size=w.heap.size+2:=by rw [<- hw2];simp
  have hb2:Below w.heap.size w w2:=by rw [<- hw2];exact ((Below.refl _ w).alloc (Nat.le_refl _) _).alloc (by simp) _
  have kA:Blk w2 w.heap.size 26 [.int .i64 e,.slice av z.length cv]:=by
    rw [<- hw2]
    exact (Blk.new w 26 [.int .i64 e,.slice av z.length cv]).below ((Below.refl (w.heap.size+1) _).alloc (by simp) _) (by omega)
  have kR:Blk w2 (w.heap.size+1) 117 [.slice none 0 0,.bool false,.slice none 0 0,.string { data:=#[] }]:=by
    rw [<- hw2]
    have h:=Blk.new (w.alloc (.cells #[.int .i64 e,.slice av z.length cv] 26)) 117 [.slice none 0 0,.bool false,.slice none 0 0,.string { data:=#[] }]
    simp only [World.size_alloc] at h
    exact h
  have hcl:=chT_len l id
  have HQ:=hide (fun V (hV:Below w.heap.size w V)=>chainBlocks_any l al cl id V (hrl.below hV (Nat.le_refl _)) hl hf hbd)
  have HT:=hide (fun V (hV:Below w.heap.size w V)=>implTreeOk_any (.slice al l.length cl) l V (hrl.below hV (Nat.le_refl _)) hl hf hbd)
  have HE:=hide (fun V (vq:Value) (b off:Nat) (hV:Below w.heap.size w V) (ho:OwnQ w2.heap.size V vq b off (chT l id)) (ha:0 < (chT l id).length->al=some ⟨b,off,none⟩)=>hasEnd_any l al cl vq b off (chT l id) w2.heap.size V (hrl.below hV (Nat.le_refl _)) ho ha (chT_lt l id) (by omega))
  have HL:=hide (fun (vq:Value) (b off base:Nat) V (hV:Below w.heap.size w V) hq ha=>ledgerBehind_any e (.slice av z.length cv) vq z l al cl b off base (chT l id) V (hgh.below hV) (hr.below hV (Nat.le_refl _)) (hrl.below hV (Nat.le_refl _)) hq ha (chT_lt l id) (by omega) hz hall hf)
  have hfo:=foL_few (e:=e) l (chT l id) z hz hall
  have hga:=gdA_few (e:=e) (l:=foL e z l (chT l id)) ts most hfo.1 hfo.2
  have hne:=neA_few (e:=e) hga.1 hga.2
  have HGo:=hide (fun V v (hV:Below w.heap.size w V) h=>goodOnes_any e v (.slice at_ ts.length ct) (foL e z l (chT l id)) ts most V (hgh.below hV) h (hrt.below hV (Nat.le_refl _)) hfo.1 hfo.2 hts hta)
  have HNx:=hide (fun V v h=>implNext_any e v (gdA e (foL e z l (chT l id)) ts most).1 V h (by omega) (fun a ha=>by have:=hga.2 a ha;omega))
  have HSe:=hide (fun V v h=>implSetOf_any (neA e (gdA e (foL e z l (chT l id)) ts most).1).1 v (neA e (gdA e (foL e z l (chT l id)) ts most).1).2 V h (by omega) (fun a ha=>by have:=hne.2 a ha;omega))
  have HSr:=hide (fun V v (hV:Below w.heap.size w V) h=>implStateRoot_any (neA e (gdA e (foL e z l (chT l id)) ts most).1).1 v (neA e (gdA e (foL e z l (chT l id)) ts most).1).2 V h (by omega) (fun a ha=>by have:=hne.2 a ha;omega) (hgl.below hV (Nat.le_refl _)))
  have HCf:Hid (treeB l=true/\(chT l id=[]->id=-1)->bdA e z l id ts most=(bdC e z l (chT l id) ts most,true)):=hide (fun h=>by unfold bdA;rw [if_pos h])
  have HCn:Hid (¬ (treeB l=true/\(chT l id=[]->id=-1))->bdA e z l id ts most=(⟨[],false,[],{ data:=#[] }⟩,false)):=hide (fun h=>by unfold bdA;rw [if_neg h])
  simp only [lgV] at HL HGo HNx HSe HSr ⊢
  generalize bdA e z l id ts most=R at HCf HCn ⊢
  have Hfew:=hide hne
  have KA:=hide kA
  have KR:=hide kR
  have Hb2:=hide hb2
  clear hgh hgl hr hrl hrt hall hf hbd hta hfo hga hne hb2 kA kR
  generalize chT l id=C at HQ HE HL HGo HNx HSe HSr HCf HCn Hfew hcl
  go_enter Tryz.func60,Tryz.ntmps60
  go_wp2_with fail
  refine (HQ.out w2 Hb2.out).mono ?_
  rintro en w3 ⟨v3,b,off,rfl,hoq,haq,hb3⟩
  have hB3:=Hb2.out.trans (hb3.mono Hb2.out.size)
  have s3:=hb3.size
  have HT3:=hide (HT.out w3 hB3)
  have hsh:=hoq.shape
  go_wp2_with fail
  refine HT3.out.mono ?_
  rintro en w4 ⟨rfl,hb4⟩
  have s4:=hb4.size
  have B4:=hide (hB3.trans (hb4.mono hB3.size))
  have Q4:=hide (show OwnQ w2.heap.size w4 v3 b off C from row_below hoq hb4 (Nat.le_refl _))
  have A4:=hide haq
  have KA4:=hide ((KA.out.below hb3 KA.out.lt).below hb4 (Nat.lt_of_lt_of_le KA.out.lt s3))
  have KR4:=hide ((KR.out.below hb3 KR.out.lt).below hb4 (Nat.lt_of_lt_of_le KR.out.lt s3))
  clear hoq haq hb3 hb4 hB3 HT3 HT HQ KA KR Hb2
  obtain ⟨oa,oc,rfl⟩:=hsh
  by_cases htr:treeB l=true
  · by_cases hC0:C=[]
    · by_cases hid:id=-1
      · subst hid
        have hcz:((C.length:Int) == 0)=true:=by rw [hC0];rfl
        clear hC0
        rw [htr]
        have HC:=hide (HCf.out ⟨htr,fun _=>rfl⟩)
        go_wp2_with fail
        refine (HE.out _ _ b off B4.out Q4.out A4.out).mono ?_
        rintro en w' ⟨rfl,rfl⟩
        by_cases hany:C.any (enAt l)=true
        · rw [hany]
          have kR:=KR4.out
          have r0:=kR.cell 0
          have f0:=kR.frozen 0
          have r1:=kR.cell 1
          have f1:=kR.frozen 1
          have r2:=kR.cell 2
          have f2:=kR.frozen 2
          have r3:=kR.cell 3
          have f3:=kR.frozen 3
          simp only [List.getElem?_cons_zero,List.getElem?_cons_succ] at r0 r1 r2 r3
          have BE:=hide (below_put4 B4.out (g:=w.heap.size+1) (by omega) (.slice none 0 0) (.bool false) (.slice none 0 0) (.string { data:=#[] }))
          have HF:=hide (HC.out.trans (show _=((⟨[],false,[],{ data:=#[] }⟩:Bd),true) from by unfold bdC;rw [if_pos hany]))
          clear kR
          go_wp2
          refine bodyPost_ret (v:=.tuple #[.agg #[.slice none 0 0,.bool false,.slice none 0 0,.string { data:=#[] }],.bool true]) (by simp [results,Tryz.f60,go_sem,r0,r1,r2,r3]) rfl ?_
          rw [HF.out]
          exact ⟨_,_,rfl,own_noneT _ _,own_noneV9 _ _,BE.out⟩
        · have hanf:C.any (enAt l)=false:=by simpa using hany
          rw [hanf]
          have HX:=hide (bdC_x (e:=e) (z:=z) (ts:=ts) (most:=most) hany)
          have x0:=KA4.out.cell 0
          have x1:=KA4.out.cell 1
          simp only [List.getElem?_cons_zero,List.getElem?_cons_succ] at x0 x1
          go_wp2_with fail
          refine (HL.out _ b off _ _ B4.out Q4.out A4.out).mono ?_
          rintro en w5 ⟨v5,rfl,o5,hb5⟩
          have hB5:=B4.out.trans (hb5.mono B4.out.size)
          have HG5:=hide (HGo.out w5 v5 hB5 o5.rd)
          have K5:=hide (KR4.out.below hb5 KR4.out.lt)
          have z5:=hb5.size
          have HB5:=hide hB5
          obtain ⟨a5,c5,rfl⟩:=o5.rd.shape
          clear o5 hb5 hB5 x0 x1
          go_wp2_with fail
          refine HG5.out.mono ?_
          rintro en w6 ⟨vg,v6,rfl,g6,r6,hb6⟩
          obtain ⟨ag,cg,rfl⟩:=g6.rd.shape
          obtain ⟨a6,c6,rfl⟩:=r6.shape
          generalize gdA e (foL e z l C) ts most=AG at g6 r6 HX HNx HSe HSr
          obtain ⟨A,G⟩:=AG
          simp only at g6 r6 HX HNx HSe HSr
          obtain ⟨w7,hw7⟩:∃ w7,w6.alloc (.cells #[.int .i64 e,.slice a6 A.length c6] 26)=w7:=⟨_,rfl⟩
          have b7:Below w6.heap.size w6 w7:=by rw [<- hw7];exact (Below.refl _ w6).alloc (Nat.le_refl _) _
          have k7:Blk w7 w6.heap.size 26 [.int .i64 e,.slice a6 A.length c6]:=by rw [<- hw7];exact Blk.new w6 _ _
          have z6:=hb6.size
          have z7:=b7.size
          have R7:=hide (r6.below b7 (Nat.le_refl _))
          have G7:=hide (g6.below b7 (Nat.le_refl _))
          have KR7:=hide ((K5.out.below hb6 K5.out.lt).below b7 (Nat.lt_of_lt_of_le K5.out.lt z6))
          have B7:=hide ((HB5.out.trans (hb6.mono HB5.out.size)).trans (b7.mono (Nat.le_trans HB5.out.size z6)))
          have y0:=k7.cell 0
          have y1:=k7.cell 1
          simp only [List.getElem?_cons_zero,List.getElem?_cons_succ] at y0 y1
          clear g6 r6 hb6 b7 k7 K5 HG5 HGo HL HE
          by_cases hc1:C.length=1
          · have Hx:=hide (HX.out.1 hc1)
            have hcb:((C.length:Int) == 1)=true:=by rw [hc1];rfl
            go_wp2_with fail
            refine (HNx.out w7 _ R7.out).mono ?_
            rintro en w8 ⟨v8,rfl,o8,hb8⟩
            obtain ⟨a8,c8,rfl⟩:=o8.rd.shape
            generalize neA e A=NA at o8 HSe HSr Hx
            obtain ⟨ne,N⟩:=NA
            simp only at o8 HSe HSr Hx
            obtain ⟨w9,hw9⟩:∃ w9,w8.alloc (.cells #[.int .i64 ne,.slice a8 N.length c8] 26)=w9:=⟨_,rfl⟩
            have b9:Below w8.heap.size w8 w9:=by rw [<- hw9];exact (Below.refl _ w8).alloc (Nat.le_refl _) _
            have k9:Blk w9 w8.heap.size 26 [.int .i64 ne,.slice a8 N.length c8]:=by rw [<- hw9];exact Blk.new w8 _ _
            have z8:=hb8.size
            have z9:=b9.size
            have R9:=hide (o8.rd.below b9 (Nat.le_refl _))
            have G9:=hide ((G7.out.below hb8 (Nat.le_refl _)).below b9 (Nat.le_refl _))
            have KR9:=hide ((KR7.out.below hb8 KR7.out.lt).below b9 (Nat.lt_of_lt_of_le KR7.out.lt z8))
            have B9:=hide ((B7.out.trans (hb8.mono B7.out.size)).trans (b9.mono (Nat.le_trans B7.out.size z8)))
            have HS9:Hid (∀ V,Below w9.heap.size w9 V->Calls Tryz.prog 125 #[.agg #[.int .i64 ne,.slice a8 N.length c8]] V fun en w'=>∃ v',en=.returned v'/\OwnV w9.heap.size w' v' (setA ne N)/\Below w9.heap.size w9 w'/\Below V.heap.size V w'):=hide (fun V hV=>(HSe.out V _ (R9.out.below hV (Nat.le_refl _))).mono (fun en w' ⟨v',h1,h2,h3⟩=>⟨v',h1,h2.mono hV.size,hV.trans (h3.mono hV.size),h3⟩))
            have HR9:Hid (∀ V,Below w9.heap.size w9 V->Calls Tryz.prog 15 #[.agg #[.int .i64 ne,.slice a8 N.length c8]] V fun en w'=>en=.returned (.string (srB ne N))/\Below w9.heap.size w9 w'/\Below V.heap.size V w'):=hide (fun V hV=>(HSr.out V _ (B9.out.trans (hV.mono B9.out.size)) (R9.out.below hV (Nat.le_refl _))).mono (fun en w' ⟨h1,h3⟩=>⟨h1,hV.trans (h3.mono hV.size),h3⟩))
            have K9:=hide k9
            have e0:=k9.cell 0
            have e1:=k9.cell 1
            have d0:w9.drew.cell? ⟨w8.heap.size,0,none⟩=_:=k9.cell 0
            have d1:w9.drew.cell? ⟨w8.heap.size,1,none⟩=_:=k9.cell 1
            simp only [List.getElem?_cons_zero,List.getElem?_cons_succ] at e0 e1 d0 d1
            clear y0 y1 o8 hb8 b9 k9 HSe HSr HNx R7 G7 KR7 B7
            go_upto_region 10 with fail
            go_region_law (first
              | (go_simp;go_at_call 125;refine (HS9.out _ (by first | exact bR | exact Below.refl _ _ | exact (Below.refl _ _).drew)).mono ?_;rintro en wS ⟨vS,rfl,oS,bS,bS'⟩;have hsh:=oS.rd.shape;obtain ⟨aS,cS,hvS⟩:=hsh;subst hvS;have kS:=K9.out.below bS K9.out.lt;have m0:=kS.cell 0;have m1:=kS.cell 1;have rS:=KR9.out.below bS KR9.out.lt;have r0:=rS.cell 0;have r1:=rS.cell 1;have r2:=rS.cell 2;have r3:=rS.cell 3;have f0:=rS.frozen 0;have f1:=rS.frozen 1;have f2:=rS.frozen 2;have f3:=rS.frozen 3;simp only [List.getElem?_cons_zero,List.getElem?_cons_succ] at m0 m1 r0 r1 r2 r3)
              | (go_simp;go_at_call 15;refine (HR9.out _ (by first | exact bS | exact Below.refl _ _ | exact (Below.refl _ _).drew)).mono ?_;rintro en wR ⟨rfl,bR,bR'⟩;have kR:=K9.out.below bR K9.out.lt;have n0:=kR.cell 0;have n1:=kR.cell 1;have rR:=KR9.out.below bR KR9.out.lt;have t0:=rR.cell 0;have t1:=rR.cell 1;have t2:=rR.cell 2;have t3:=rR.cell 3;have g0:=rR.frozen 0;have g1:=rR.frozen 1;have g2:=rR.frozen 2;have g3:=rR.frozen 3;simp only [List.getElem?_cons_zero,List.getElem?_cons_succ] at n0 n1 t0 t1 t2 t3))
            all_goals
              go_wp2
              refine bodyPost_ret (v:=.tuple #[.agg #[.slice ag G.length cg,.bool true,.slice aS (setA ne N).length cS,.string (srB ne N)],.bool true]) (by first | (simp [results,Tryz.f60,go_sem,r0,r1,r2,r3];done) | (simp [results,Tryz.f60,go_sem,t0,t1,t2,t3];done)) rfl ?_
              rw [HC.out,Hx.out]
              refine ⟨_,_,rfl,?_,?_,?_⟩
              · first
                  | with_reducible exact OwnT.put4 (G9.out.below bS (Nat.le_refl _)) (g:=w.heap.size+1) (by omega) (by omega) _ _ _ _
                  | with_reducible exact OwnT.put4 (G9.out.below bR (Nat.le_refl _)) (g:=w.heap.size+1) (by omega) (by omega) _ _ _ _
              · first
                  | with_reducible exact OwnV.put4 oS (g:=w.heap.size+1) (by omega) (by omega) _ _ _ _
                  | with_reducible exact OwnV.put4 (oS.below bR' (Nat.le_refl _)) (g:=w.heap.size+1) (by omega) (by omega) _ _ _ _
              · first
                  | with_reducible exact below_put4 (B9.out.trans (bS.mono B9.out.size)) (by omega) _ _ _ _
                  | with_reducible exact below_put4 (B9.out.trans (bR.mono B9.out.size)) (by omega) _ _ _ _
          · have Hx:=hide (HX.out.2 hc1)
            have hcb:((C.length:Int) == 1)=false:=by rw [beq_eq_false_iff_ne];omega
            have kR:=KR7.out
            have r0:=kR.cell 0
            have f0:=kR.frozen 0
            have r1:=kR.cell 1
            have f1:=kR.frozen 1
            have r2:=kR.cell 2
            have f2:=kR.frozen 2
            have r3:=kR.cell 3
            have f3:=kR.frozen 3
            simp only [List.getElem?_cons_zero,List.getElem?_cons_succ] at r0 r1 r2 r3
            clear kR HNx HSe HSr y0 y1
            go_wp2
            refine bodyPost_ret (v:=.tuple #[.agg #[.slice ag G.length cg,.bool false,.slice none 0 0,.string { data:=#[] }],.bool true]) (by simp [results,Tryz.f60,go_sem,r0,r1,r2,r3]) rfl ?_
            rw [HC.out,Hx.out]
            exact ⟨_,_,rfl,OwnT.monoG (row_put4 G7.out (w.heap.size+1) (by omega) _ _ _ _) (by omega),own_noneV9 _ _,below_put4 B7.out (by omega) _ _ _ _⟩
      · have hq:(id == -1)=false:=by rw [beq_eq_false_iff_ne];exact hid
        subst hC0
        rw [htr]
        have kR:=KR4.out
        have r0:=kR.cell 0
        have f0:=kR.frozen 0
        have r1:=kR.cell 1
        have f1:=kR.frozen 1
        have r2:=kR.cell 2
        have f2:=kR.frozen 2
        have r3:=kR.cell 3
        have f3:=kR.frozen 3
        simp only [List.getElem?_cons_zero,List.getElem?_cons_succ] at r0 r1 r2 r3
        have BE:=hide (below_put4 B4.out (g:=w.heap.size+1) (by omega) (.slice none 0 0) (.bool false) (.slice none 0 0) (.string { data:=#[] }))
        have HF:=hide (HCn.out (fun h=>hid (h.2 rfl)))
        clear kR
        go_wp2
        refine bodyPost_ret (v:=.tuple #[.agg #[.slice none 0 0,.bool false,.slice none 0 0,.string { data:=#[] }],.bool false]) (by simp [results,Tryz.f60,go_sem,r0,r1,r2,r3]) rfl ?_
        rw [HF.out]
        exact ⟨_,_,rfl,own_noneT _ _,own_noneV9 _ _,BE.out⟩
    · have hcz:((C.length:Int) == 0)=false:=by rw [beq_eq_false_iff_ne];intro h;exact hC0 (List.length_eq_zero_iff.1 (by omega))
      rw [htr]
      have HC:=hide (HCf.out ⟨htr,fun h=>absurd h hC0⟩)
      go_wp2_with fail
      refine (HE.out _ _ b off B4.out Q4.out A4.out).mono ?_
      rintro en w' ⟨rfl,rfl⟩
      by_cases hany:C.any (enAt l)=true
      · rw [hany]
        have kR:=KR4.out
        have r0:=kR.cell 0
        have f0:=kR.frozen 0
        have r1:=kR.cell 1
        have f1:=kR.frozen 1
        have r2:=kR.cell 2
        have f2:=kR.frozen 2
        have r3:=kR.cell 3
        have f3:=kR.frozen 3
        simp only [List.getElem?_cons_zero,List.getElem?_cons_succ] at r0 r1 r2 r3
        have BE:=hide (below_put4 B4.out (g:=w.heap.size+1) (by omega) (.slice none 0 0) (.bool false) (.slice none 0 0) (.string { data:=#[] }))
        have HF:=hide (HC.out.trans (show _=((⟨[],false,[],{ data:=#[] }⟩:Bd),true) from by unfold bdC;rw [if_pos hany]))
        clear kR
        go_wp2
        refine bodyPost_ret (v:=.tuple #[.agg #[.slice none 0 0,.bool false,.slice none 0 0,.string { data:=#[] }],.bool true]) (by simp [results,Tryz.f60,go_sem,r0,r1,r2,r3]) rfl ?_
        rw [HF.out]
        exact ⟨_,_,rfl,own_noneT _ _,own_noneV9 _ _,BE.out⟩
      · have hanf:C.any (enAt l)=false:=by simpa using hany
        rw [hanf]
        have HX:=hide (bdC_x (e:=e) (z:=z) (ts:=ts) (most:=most) hany)
        have x0:=KA4.out.cell 0
        have x1:=KA4.out.cell 1
        simp only [List.getElem?_cons_zero,List.getElem?_cons_succ] at x0 x1
        go_wp2_with fail
        refine (HL.out _ b off _ _ B4.out Q4.out A4.out).mono ?_
        rintro en w5 ⟨v5,rfl,o5,hb5⟩
        have hB5:=B4.out.trans (hb5.mono B4.out.size)
        have HG5:=hide (HGo.out w5 v5 hB5 o5.rd)
        have K5:=hide (KR4.out.below hb5 KR4.out.lt)
        have z5:=hb5.size
        have HB5:=hide hB5
        obtain ⟨a5,c5,rfl⟩:=o5.rd.shape
        clear o5 hb5 hB5 x0 x1
        go_wp2_with fail
        refine HG5.out.mono ?_
        rintro en w6 ⟨vg,v6,rfl,g6,r6,hb6⟩
        obtain ⟨ag,cg,rfl⟩:=g6.rd.shape
        obtain ⟨a6,c6,rfl⟩:=r6.shape
        generalize gdA e (foL e z l C) ts most=AG at g6 r6 HX HNx HSe HSr
        obtain ⟨A,G⟩:=AG
        simp only at g6 r6 HX HNx HSe HSr
        obtain ⟨w7,hw7⟩:∃ w7,w6.alloc (.cells #[.int .i64 e,.slice a6 A.length c6] 26)=w7:=⟨_,rfl⟩
        have b7:Below w6.heap.size w6 w7:=by rw [<- hw7];exact (Below.refl _ w6).alloc (Nat.le_refl _) _
        have k7:Blk w7 w6.heap.size 26 [.int .i64 e,.slice a6 A.length c6]:=by rw [<- hw7];exact Blk.new w6 _ _
        have z6:=hb6.size
        have z7:=b7.size
        have R7:=hide (r6.below b7 (Nat.le_refl _))
        have G7:=hide (g6.below b7 (Nat.le_refl _))
        have KR7:=hide ((K5.out.below hb6 K5.out.lt).below b7 (Nat.lt_of_lt_of_le K5.out.lt z6))
        have B7:=hide ((HB5.out.trans (hb6.mono HB5.out.size)).trans (b7.mono (Nat.le_trans HB5.out.size z6)))
        have y0:=k7.cell 0
        have y1:=k7.cell 1
        simp only [List.getElem?_cons_zero,List.getElem?_cons_succ] at y0 y1
        clear g6 r6 hb6 b7 k7 K5 HG5 HGo HL HE
        by_cases hc1:C.length=1
        · have Hx:=hide (HX.out.1 hc1)
          have hcb:((C.length:Int) == 1)=true:=by rw [hc1];rfl
          go_wp2_with fail
          refine (HNx.out w7 _ R7.out).mono ?_
          rintro en w8 ⟨v8,rfl,o8,hb8⟩
          obtain ⟨a8,c8,rfl⟩:=o8.rd.shape
          generalize neA e A=NA at o8 HSe HSr Hx
          obtain ⟨ne,N⟩:=NA
          simp only at o8 HSe HSr Hx
          obtain ⟨w9,hw9⟩:∃ w9,w8.alloc (.cells #[.int .i64 ne,.slice a8 N.length c8] 26)=w9:=⟨_,rfl⟩
          have b9:Below w8.heap.size w8 w9:=by rw [<- hw9];exact (Below.refl _ w8).alloc (Nat.le_refl _) _
          have k9:Blk w9 w8.heap.size 26 [.int .i64 ne,.slice a8 N.length c8]:=by rw [<- hw9];exact Blk.new w8 _ _
          have z8:=hb8.size
          have z9:=b9.size
          have R9:=hide (o8.rd.below b9 (Nat.le_refl _))
          have G9:=hide ((G7.out.below hb8 (Nat.le_refl _)).below b9 (Nat.le_refl _))
          have KR9:=hide ((KR7.out.below hb8 KR7.out.lt).below b9 (Nat.lt_of_lt_of_le KR7.out.lt z8))
          have B9:=hide ((B7.out.trans (hb8.mono B7.out.size)).trans (b9.mono (Nat.le_trans B7.out.size z8)))
          have HS9:Hid (∀ V,Below w9.heap.size w9 V->Calls Tryz.prog 125 #[.agg #[.int .i64 ne,.slice a8 N.length c8]] V fun en w'=>∃ v',en=.returned v'/\OwnV w9.heap.size w' v' (setA ne N)/\Below w9.heap.size w9 w'/\Below V.heap.size V w'):=hide (fun V hV=>(HSe.out V _ (R9.out.below hV (Nat.le_refl _))).mono (fun en w' ⟨v',h1,h2,h3⟩=>⟨v',h1,h2.mono hV.size,hV.trans (h3.mono hV.size),h3⟩))
          have HR9:Hid (∀ V,Below w9.heap.size w9 V->Calls Tryz.prog 15 #[.agg #[.int .i64 ne,.slice a8 N.length c8]] V fun en w'=>en=.returned (.string (srB ne N))/\Below w9.heap.size w9 w'/\Below V.heap.size V w'):=hide (fun V hV=>(HSr.out V _ (B9.out.trans (hV.mono B9.out.size)) (R9.out.below hV (Nat.le_refl _))).mono (fun en w' ⟨h1,h3⟩=>⟨h1,hV.trans (h3.mono hV.size),h3⟩))
          have K9:=hide k9
          have e0:=k9.cell 0
          have e1:=k9.cell 1
          have d0:w9.drew.cell? ⟨w8.heap.size,0,none⟩=_:=k9.cell 0
          have d1:w9.drew.cell? ⟨w8.heap.size,1,none⟩=_:=k9.cell 1
          simp only [List.getElem?_cons_zero,List.getElem?_cons_succ] at e0 e1 d0 d1
          clear y0 y1 o8 hb8 b9 k9 HSe HSr HNx R7 G7 KR7 B7
          go_upto_region 10 with fail
          go_region_law (first
            | (go_simp;go_at_call 125;refine (HS9.out _ (by first | exact bR | exact Below.refl _ _ | exact (Below.refl _ _).drew)).mono ?_;rintro en wS ⟨vS,rfl,oS,bS,bS'⟩;have hsh:=oS.rd.shape;obtain ⟨aS,cS,hvS⟩:=hsh;subst hvS;have kS:=K9.out.below bS K9.out.lt;have m0:=kS.cell 0;have m1:=kS.cell 1;have rS:=KR9.out.below bS KR9.out.lt;have r0:=rS.cell 0;have r1:=rS.cell 1;have r2:=rS.cell 2;have r3:=rS.cell 3;have f0:=rS.frozen 0;have f1:=rS.frozen 1;have f2:=rS.frozen 2;have f3:=rS.frozen 3;simp only [List.getElem?_cons_zero,List.getElem?_cons_succ] at m0 m1 r0 r1 r2 r3)
            | (go_simp;go_at_call 15;refine (HR9.out _ (by first | exact bS | exact Below.refl _ _ | exact (Below.refl _ _).drew)).mono ?_;rintro en wR ⟨rfl,bR,bR'⟩;have kR:=K9.out.below bR K9.out.lt;have n0:=kR.cell 0;have n1:=kR.cell 1;have rR:=KR9.out.below bR KR9.out.lt;have t0:=rR.cell 0;have t1:=rR.cell 1;have t2:=rR.cell 2;have t3:=rR.cell 3;have g0:=rR.frozen 0;have g1:=rR.frozen 1;have g2:=rR.frozen 2;have g3:=rR.frozen 3;simp only [List.getElem?_cons_zero,List.getElem?_cons_succ] at n0 n1 t0 t1 t2 t3))
          all_goals
            go_wp2
            refine bodyPost_ret (v:=.tuple #[.agg #[.slice ag G.length cg,.bool true,.slice aS (setA ne N).length cS,.string (srB ne N)],.bool true]) (by first | (simp [results,Tryz.f60,go_sem,r0,r1,r2,r3];done) | (simp [results,Tryz.f60,go_sem,t0,t1,t2,t3];done)) rfl ?_
            rw [HC.out,Hx.out]
            refine ⟨_,_,rfl,?_,?_,?_⟩
            · first
                | with_reducible exact OwnT.put4 (G9.out.below bS (Nat.le_refl _)) (g:=w.heap.size+1) (by omega) (by omega) _ _ _ _
                | with_reducible exact OwnT.put4 (G9.out.below bR (Nat.le_refl _)) (g:=w.heap.size+1) (by omega) (by omega) _ _ _ _
            · first
                | with_reducible exact OwnV.put4 oS (g:=w.heap.size+1) (by omega) (by omega) _ _ _ _
                | with_reducible exact OwnV.put4 (oS.below bR' (Nat.le_refl _)) (g:=w.heap.size+1) (by omega) (by omega) _ _ _ _
            · first
                | with_reducible exact below_put4 (B9.out.trans (bS.mono B9.out.size)) (by omega) _ _ _ _
                | with_reducible exact below_put4 (B9.out.trans (bR.mono B9.out.size)) (by omega) _ _ _ _
        · have Hx:=hide (HX.out.2 hc1)
          have hcb:((C.length:Int) == 1)=false:=by rw [beq_eq_false_iff_ne];omega
          have kR:=KR7.out
          have r0:=kR.cell 0
          have f0:=kR.frozen 0
          have r1:=kR.cell 1
          have f1:=kR.frozen 1
          have r2:=kR.cell 2
          have f2:=kR.frozen 2
          have r3:=kR.cell 3
          have f3:=kR.frozen 3
          simp only [List.getElem?_cons_zero,List.getElem?_cons_succ] at r0 r1 r2 r3
          clear kR HNx HSe HSr y0 y1
          go_wp2
          refine bodyPost_ret (v:=.tuple #[.agg #[.slice ag G.length cg,.bool false,.slice none 0 0,.string { data:=#[] }],.bool true]) (by simp [results,Tryz.f60,go_sem,r0,r1,r2,r3]) rfl ?_
          rw [HC.out,Hx.out]
          exact ⟨_,_,rfl,OwnT.monoG (row_put4 G7.out (w.heap.size+1) (by omega) _ _ _ _) (by omega),own_noneV9 _ _,below_put4 B7.out (by omega) _ _ _ _⟩
  · have htf:treeB l=false:=by simpa using htr
    rw [htf]
    have kR:=KR4.out
    have r0:=kR.cell 0
    have f0:=kR.frozen 0
    have r1:=kR.cell 1
    have f1:=kR.frozen 1
    have r2:=kR.cell 2
    have f2:=kR.frozen 2
    have r3:=kR.cell 3
    have f3:=kR.frozen 3
    simp only [List.getElem?_cons_zero,List.getElem?_cons_succ] at r0 r1 r2 r3
    have BE:=hide (below_put4 B4.out (g:=w.heap.size+1) (by omega) (.slice none 0 0) (.bool false) (.slice none 0 0) (.string { data:=#[] }))
    have HF:=hide (HCn.out (fun h=>htr h.1))
    clear kR
    go_wp2
    refine bodyPost_ret (v:=.tuple #[.agg #[.slice none 0 0,.bool false,.slice none 0 0,.string { data:=#[] }],.bool false]) (by simp [results,Tryz.f60,go_sem,r0,r1,r2,r3]) rfl ?_
    rw [HF.out]
    exact ⟨_,_,rfl,own_noneT _ _,own_noneV9 _ _,BE.out⟩
end Go.Proofs.YtohachldbpejpaaGreatDoor

namespace Go.Proofs.YtohachldbpejpaaGreatDoor
open Go.RowKit
set_option linter.unusedVariables false
set_option maxRecDepth 20000 in
set_option maxHeartbeats 4000000 in
theorem implBodyOk_any (e:Int) (v vl:Value) (z:List Ac) (l:List Bk) (b:Bk) (bv:Bv) (w:World) (hgh:Gh w) (hgl:Gl w) (hr:RdA w v z) (hrl:RdKs w vl l) (hrb:RdK w b bv) (hz:z.length<=3999999) (hall:∀ a ∈ z,a.1.size<=maxLen/\a.2.2.2.2.length<=3999999) (hl:l.length<=4000000) (hf:∀ b ∈ l,FewK b) (hbd:∀ b ∈ l,-9223372036854775808<=b.tr/\b.tr<=9223372036854775807) (hfb:FewK b) (hnt:(bdA e z l b.qb b.ts b.ts.length).1.ts.length<=4000000) (hnn:(bdA e z l b.qb b.ts b.ts.length).1.nx.length<=4000000) :
    Calls Tryz.prog 19 #[lgV e v,vl,bkV b bv] w fun en w'=>en=.returned (.bool (boB e z l b))/\Below w.heap.size w w':=by
  obtain ⟨av,cv,rfl⟩:=hr.shape
  obtain ⟨al,cl,rfl⟩:=hrl.shape
  obtain ⟨at_,ct,htv⟩:=hrb.t.shape
  obtain ⟨an,cn,hnv⟩:=hrb.n.shape
  obtain ⟨vq,vw,vh,vt,vn⟩:=bv
  simp only at htv hnv
  subst htv hnv
  obtain ⟨id,ep,rd,md,qr,qb,qw,tr,tw,th,ts,en,nx,rt⟩:=b
  simp only at *
  obtain ⟨w1,hw1⟩:∃ w1,w.alloc (.cells #[.int .i64 e,.slice av z.length cv] 26)=w1:=⟨_,rfl⟩
  have hb1:Below w.heap.size w w1:=by rw [<- hw1];exact (Below.refl _ w).alloc (Nat.le_refl _) _
  have k1:Blk w1 w.heap.size 26 [.int .i64 e,.slice av z.length cv]:=by rw [<- hw1];exact Blk.new w _ _
  have s1:w1.heap.size=w.heap.size+1:=by rw [<- hw1];simp
  obtain ⟨w2,hw2⟩:∃ w2,w1.alloc (.cells #[.int .i64 id,.int .i64 ep,.int .i64 rd,.string md,.int .i64 qr,.int .i64 qb,vq,.int .i64 tr,vw,vh,.slice at_ ts.length ct,.bool en,.slice an nx.length cn,.string rt] 50)=w2:=⟨_,rfl⟩
  have hb2:Below w1.heap.size w1 w2:=by rw [<- hw2];exact (Below.refl _ w1).alloc (Nat.le_refl _) _
  have k2:Blk w2 (w.heap.size+1) 50 [.int .i64 id,.int .i64 ep,.int .i64 rd,.string md,.int .i64 qr,.int .i64 qb,vq,.int .i64 tr,vw,vh,.slice at_ ts.length ct,.bool en,.slice an nx.length cn,.string rt]:=by rw [<- hw2,<- s1];exact Blk.new w1 _ _
  have B2:Below w.heap.size w w2:=hb1.trans (hb2.mono hb1.size)
  have k12:=k1.below hb2 k1.lt
  have HBd:=hide (bodyAt_any e (.slice av z.length cv) (.slice al l.length cl) (.slice at_ ts.length ct) z l qb ts ts.length w2 (hgh.below B2) (hgl.below B2 (Nat.le_refl _)) (hr.below B2 (Nat.le_refl _)) (hrl.below B2 (Nat.le_refl _)) (hrb.t.below B2 (Nat.le_refl _)) hz hall hl hf hbd hfb.t hfb.ts)
  have Hbo:Hid (boB e z l ⟨id,ep,rd,md,qr,qb,qw,tr,tw,th,ts,en,nx,rt⟩=boR ⟨id,ep,rd,md,qr,qb,qw,tr,tw,th,ts,en,nx,rt⟩ (bdA e z l qb ts ts.length)):=hide rfl
  have Hrt:=hide (fun V (hV:Below w.heap.size w V)=>hrb.t.below hV (Nat.le_refl _))
  have Hrn:=hide (fun V (hV:Below w.heap.size w V)=>hrb.n.below hV (Nat.le_refl _))
  have hft:=hfb.t
  have hfn:=hfb.n
  generalize bdA e z l qb ts ts.length=R at HBd Hbo hnt hnn
  obtain ⟨⟨T,E,X,Y⟩,q⟩:=R
  simp only [boR] at Hbo
  simp only [lgV,bkV] at HBd hnt hnn ⊢
  have x0:=k12.cell 0
  have x1:=k12.cell 1
  have y5:=k2.cell 5
  have y10:=k2.cell 10
  simp only [List.getElem?_cons_zero,List.getElem?_cons_succ] at x0 x1 y5 y10
  have HB2:=hide B2
  have K2:=hide k2
  clear hgh hgl hr hrl hrb hall hf hbd hfb hb1 hb2 k1 k12 k2 B2
  go_enter Tryz.func19,Tryz.ntmps19
  go_wp2_with fail
  refine HBd.out.mono ?_
  rintro en' w3 ⟨vg,vx,rfl,og,on,hb3⟩
  obtain ⟨ag,cg,rfl⟩:=og.rd.shape
  obtain ⟨ax,cx,rfl⟩:=on.rd.shape
  simp only at og on ⊢
  obtain ⟨w4,hw4⟩:∃ w4,w3.alloc (.cells #[.slice ag T.length cg,.bool E,.slice ax X.length cx,.string Y] 117)=w4:=⟨_,rfl⟩
  have b4:Below w3.heap.size w3 w4:=by rw [<- hw4];exact (Below.refl _ w3).alloc (Nat.le_refl _) _
  have k4:Blk w4 w3.heap.size 117 [.slice ag T.length cg,.bool E,.slice ax X.length cx,.string Y]:=by rw [<- hw4];exact Blk.new w3 _ _
  have B3:=HB2.out.trans (hb3.mono HB2.out.size)
  have B4:=B3.trans (b4.mono B3.size)
  have kb4:=(K2.out.below hb3 K2.out.lt).below b4 (Nat.lt_of_lt_of_le K2.out.lt hb3.size)
  have HG:=hide ((og.below b4 (Nat.le_refl _)).rd)
  have HN:=hide ((on.below b4 (Nat.le_refl _)).rd)
  have z0:=k4.cell 0
  have z1:=k4.cell 1
  have z2:=k4.cell 2
  have z3:=k4.cell 3
  have u10:=kb4.cell 10
  have u11:=kb4.cell 11
  have u12:=kb4.cell 12
  have u13:=kb4.cell 13
  simp only [List.getElem?_cons_zero,List.getElem?_cons_succ] at z0 z1 z2 z3 u10 u11 u12 u13
  have K4:=hide k4
  have Kb:=hide kb4
  have HB4:=hide B4
  clear og on hb3 b4 B3 B4 x0 x1 y5 y10 HBd K2 k4 kb4
  cases q
  · go_wp2
    go_ret
    exact ⟨by rw [Hbo.out];rfl,HB4.out⟩
  · have HET:=hide (equalT_any _ _ ts T w4 (Hrt.out w4 HB4.out) HG.out hft hnt)
    go_wp2_with fail
    refine HET.out.mono ?_
    rintro _ w5 ⟨rfl,hs5⟩
    have HB5:=hide (HB4.out.trans (hs5 _))
    have k5:=K4.out.below (hs5 _) K4.out.lt
    have kb5:=Kb.out.below (hs5 _) Kb.out.lt
    have z1:=k5.cell 1
    have z2:=k5.cell 2
    have z3:=k5.cell 3
    have u11:=kb5.cell 11
    have u12:=kb5.cell 12
    have u13:=kb5.cell 13
    simp only [List.getElem?_cons_zero,List.getElem?_cons_succ] at z1 z2 z3 u11 u12 u13
    have K5:=hide k5
    have Kb5:=hide kb5
    have HN5:=hide (HN.out.below (hs5 _) (Nat.le_refl _))
    clear z0 u10 k5 kb5 HET HG HN K4 Kb
    by_cases h1:ts=T
    · have d1:decide (ts=T)=true:=decide_eq_true h1
      rw [d1]
      by_cases h2:en=E
      · subst h2
        have d2:(en == en)=true:=by simp
        have HEV:=hide (equalV_any _ _ nx X w5 (Hrn.out w5 HB5.out) HN5.out hfn hnn)
        go_wp2_with fail
        refine HEV.out.mono ?_
        rintro _ w6 ⟨rfl,hs6⟩
        have HB6:=hide (HB5.out.trans (hs6 _))
        have k6:=K5.out.below (hs6 _) K5.out.lt
        have kb6:=Kb5.out.below (hs6 _) Kb5.out.lt
        have z3:=k6.cell 3
        have u13:=kb6.cell 13
        simp only [List.getElem?_cons_zero,List.getElem?_cons_succ] at z3 u13
        clear z1 z2 u11 u12 k6 kb6 HEV HN5 K5 Kb5
        by_cases h3:nx=X
        · have d3:decide (nx=X)=true:=decide_eq_true h3
          rw [d3]
          by_cases h4:rt=Y
          · subst h4
            go_wp2
            go_ret
            exact ⟨by rw [Hbo.out,d1,d3];simp,HB6.out⟩
          · have d4:decide (rt=Y)=false:=decide_eq_false h4
            go_wp2
            go_ret
            have d5:¬ rt.toList=Y.toList:=fun k=>h4 (by rw [ByteArray.toList_eq,ByteArray.toList_eq] at k;exact ByteArray.ext (Array.toList_inj.1 k))
            exact ⟨by rw [Hbo.out,d1,d3,d4];simp [d5],HB6.out⟩
        · have d3:decide (nx=X)=false:=decide_eq_false h3
          rw [d3]
          go_wp2
          go_ret
          exact ⟨by rw [Hbo.out,d1,d3];simp,HB6.out⟩
      · have d2:decide (en=E)=false:=decide_eq_false h2
        have Hfin:Hid (boB e z l ⟨id,ep,rd,md,qr,qb,qw,tr,tw,th,ts,en,nx,rt⟩=false):=hide (by rw [Hbo.out,d1,d2];simp)
        clear Hbo
        cases en <;> cases E <;> first | exact absurd rfl h2 | (go_wp2;go_ret;exact ⟨by rw [Hfin.out];rfl,HB5.out⟩)
    · have d1:decide (ts=T)=false:=decide_eq_false h1
      rw [d1]
      go_wp2
      go_ret
      exact ⟨by rw [Hbo.out,d1];rfl,HB5.out⟩
end Go.Proofs.YtohachldbpejpaaGreatDoor

namespace Go.Proofs.YtohachldbpejpaaGreatDoor
open Go.ChangeShapes Go.WideShapes Go.ChangeAt Go.RowKit
set_option linter.unusedVariables false
theorem Tryz.gStart : Tryz.prog.globalNamed "loop.example/g00194/impl.shaStart" = some 1 := by kernel_rfl
theorem Tryz.gConsts : Tryz.prog.globalNamed "loop.example/g00194/impl.shaConstants" = some 2 := by kernel_rfl
theorem Tryz.tStart:(Tryz.prog.globals[1]?).map (·.type)=some 256:=by kernel_rfl
theorem Tryz.tConsts:(Tryz.prog.globals[2]?).map (·.type)=some 288:=by kernel_rfl
theorem Tryz.cellsU32:Tryz.prog.cellsOf 255=1:=by kernel_rfl
def litU (n:Nat):DataW Unit:=.lit (.int .u32 (n:Int))
theorem laid_start:(Rows.laid_loop_example_g00194_impl_shaStart:DataW Unit)=.agg (hC.list.map litU):=rfl
theorem laid_consts:(Rows.laid_loop_example_g00194_impl_shaConstants:DataW Unit)=.agg (kC.map litU):=rfl
theorem arr_cell {W:World} {fuel n:Nat} {t:TypeId} {cs:List Value} {L:List Nat} {p:List MemPlace} {sp:Nat->Bool} (ht:Tryz.prog.underlying t=some (.array n 255))
    (hd:DataW.trod (fun _=>()) Tryz.prog W 0 sp false fuel t cs=some (.agg (L.map litU),p)) (j:Nat) (hj:j < n) (hjL:j < L.length):cs[j]?=some (.int .u32 (L[j]:Int)):=by
  obtain ⟨f',d,q,e1,e2⟩:=Lib.array_elem ht hd j hj
  rw [Tryz.cellsU32,Nat.mul_one] at e2
  obtain ⟨k,c1,c2,_⟩:=DataW.trod_int Tryz.underlying255 e2
  have hdk:d=.lit (.int .u32 k):=by simpa using congrArg Prod.fst c2
  have hk:k=(L[j]:Int):=by
    rw [hdk] at e1
    simp [hjL,litU] at e1
    exact e1.symm
  have hg:((cs.drop j).take 1)[0]?=some (.int .u32 k):=by rw [c1];rfl
  rw [List.getElem?_take_of_lt (by omega),List.getElem?_drop,Nat.add_zero] at hg
  rw [hg,hk]
theorem block_lt {W:World} {g:Nat} {v:Value} (h:W.cell? ⟨g,0,none⟩=some v):g < W.heap.size:=by
  rcases Nat.lt_or_ge g W.heap.size with h1 | h1
  · exact h1
  · simp [World.cell?,Array.getElem?_eq_none h1] at h
theorem gl_of_reads {W : World} (h0 : Lib.VarReads Tryz.prog W "loop.example/g00194/impl.shaStart" Rows.laid_loop_example_g00194_impl_shaStart) (h1 : Lib.VarReads Tryz.prog W "loop.example/g00194/impl.shaConstants" Rows.laid_loop_example_g00194_impl_shaConstants) : Gl W := by
  obtain ⟨g0,t0,cs0,f0,p0,hg0,ht0,hv0,hd0⟩:=h0
  obtain ⟨g1,t1,cs1,f1,p1,hg1,ht1,hv1,hd1⟩:=h1
  obtain rfl:=Option.some.inj (Tryz.gStart.symm.trans hg0)
  obtain rfl:=Option.some.inj (Tryz.gConsts.symm.trans hg1)
  obtain rfl:=Option.some.inj (Tryz.tStart.symm.trans ht0)
  obtain rfl:=Option.some.inj (Tryz.tConsts.symm.trans ht1)
  rw [laid_start] at hd0
  rw [laid_consts] at hd1
  have a0:W.rangeAt 1 0 (hC.list.map uv):=by
    intro j v hv
    have hj:j < hC.list.length:=by have:=(List.getElem?_eq_some_iff.1 hv).1;simpa using this
    rw [Nat.zero_add,World.var?_cell Tryz.gStart hv0 j]
    have:=arr_cell Tryz.underlying256 hd0 j hj hj
    rw [Array.getElem?_toList] at this
    rw [this]
    simp [hj,uv] at hv
    rw [<- hv]
  have a1:W.rangeAt 2 0 (kC.map uv):=by
    intro j v hv
    have hj:j < kC.length:=by have:=(List.getElem?_eq_some_iff.1 hv).1;simpa using this
    rw [Nat.zero_add,World.var?_cell Tryz.gConsts hv1 j]
    have:=arr_cell Tryz.underlying288 hd1 j hj hj
    rw [Array.getElem?_toList] at this
    rw [this]
    simp [hj,uv] at hv
    rw [<- hv]
  exact ⟨a0,a1,block_lt (a0 0 (uv hC.a) rfl),block_lt (a1 0 (uv 1116352408) rfl)⟩
end Go.Proofs.YtohachldbpejpaaGreatDoor

namespace Go.Proofs.YtohachldbpejpaaGreatDoor
open Go.ChangeShapes Go.WideShapes Go.RowKit
set_option linter.unusedVariables false
theorem Tryz.et : Tryz.prog.globalNamed "errors.errorType" = some 0 := by kernel_rfl
theorem Tryz.rt : (Tryz.prog.cutTypes.find? (·.1 == "internal/reflectlite.rtype")).map (·.2) = some 239 := by kernel_rfl
theorem Tryz.oneRow:((List.range 359).filter fun t=>Tryz.prog.rowNamed t [101,114,114,111,114])=[96]:=by kernel_rfl
theorem Tryz.nTypes:Tryz.prog.types.size=359:=by kernel_rfl
theorem gh_of_handles {W : World} (h : handlesMet Tryz.prog [("errors.errorType", Rows.laid_errors_errorType)] W) : Gh W := by
  obtain ⟨name,u,ty,e1,e2,e3,e4,e5⟩:=h _ (List.mem_singleton.2 rfl)
  have en:name=[101,114,114,111,114]:=(Option.some.inj e1).symm
  subst en
  obtain rfl:=Option.some.inj (Tryz.rt.symm.trans e2)
  have hm:ty ∈ (List.range 359).filter fun t=>Tryz.prog.rowNamed t [101,114,114,111,114]:=List.mem_filter.2 ⟨List.mem_range.2 (by rw [<- Tryz.nTypes];exact e3),e4⟩
  rw [Tryz.oneRow] at hm
  obtain rfl:=List.mem_singleton.1 hm
  have hh:typeHandle Tryz.prog 96=.pointer (some ⟨3,96,none⟩):=by kernel_rfl
  rw [hh] at e5
  unfold Gh
  simpa using World.var?_cell Tryz.et e5 0
def handPut:Obj->Obj
  | .cells _ t frozen=>.cells #[.iface 239 (.agg #[.pointer (some ⟨3,96,none⟩)])] t frozen
  | o=>o
def laidOn (w0:World):World:={ w0 with heap:=w0.heap.modify 0 handPut }
end Go.Proofs.YtohachldbpejpaaGreatDoor
