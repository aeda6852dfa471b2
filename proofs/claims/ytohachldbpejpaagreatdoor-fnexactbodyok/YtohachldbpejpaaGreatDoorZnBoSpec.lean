/- The model's BodyOk. -/
import Derived.Test.YtohachldbpejpaaGreatDoorZnBkRowE
import Derived.Test.YtohachldbpejpaaGreatDoorZnBkSpec
import Derived.Deep.Cut
import Derived.Deep.RegionHeldLaw
namespace Go.Proofs.YtohachldbpejpaaGreatDoor
open Go.RowKit
set_option linter.unusedVariables false
set_option linter.unusedSimpArgs false
theorem no_toList {s t:ByteArray} (h:¬ s=t):¬ s.toList=t.toList:=fun k=>h (by rw [ByteArray.toList_eq,ByteArray.toList_eq] at k;exact ByteArray.ext (Array.toList_inj.1 k))
theorem emp_toList {s:ByteArray} (h:¬ s={ data:=#[] }):s.toList.isEmpty=false:=by
  rw [ByteArray.toList_eq]
  cases hs:s.data.toList with
  | nil=>exact absurd (ByteArray.ext (Array.toList_inj.1 (by rw [hs]))) h
  | cons x t=>rfl
theorem emp_emp:({ data:=#[] }:ByteArray).toList.isEmpty=true:=by rw [ByteArray.toList_eq];rfl
set_option maxRecDepth 20000 in
set_option maxHeartbeats 4000000 in
theorem specBodyOk_any (e:Int) (v vl:Value) (z:List Ac) (l:List Bk) (b:Bk) (bv:Bv) (w:World) (hr:RdA w v z) (hrl:RdKs w vl l) (hrb:RdK w b bv) (hz:z.length<=3999999) (hall:∀ a ∈ z,a.1.size<=maxLen/\a.2.2.2.2.length<=3999999) (hl:l.length<=4000000) (hf:∀ b ∈ l,FewK b) (hbd:∀ b ∈ l,-9223372036854775808<=b.tr/\b.tr<=9223372036854775807) (hfb:FewK b) :
    Calls Tryz.prog 28 #[lgV e v,vl,bkV b bv] w fun en w'=>en=.returned (.bool (boB e z l b))/\Below w.heap.size w w':=by
  obtain ⟨av,cv,rfl⟩:=hr.shape
  obtain ⟨al,cl,rfl⟩:=hrl.shape
  obtain ⟨at_,ct,htv⟩:=hrb.t.shape
  obtain ⟨an,cn,hnv⟩:=hrb.n.shape
  obtain ⟨vq,vw,vh,vt,vn⟩:=bv
  simp only at htv hnv
  subst htv hnv
  have Hno:=hide (boB_no (e:=e) (z:=z) (l:=l) (b:=b))
  have Hen:=hide (boB_end (e:=e) (z:=z) (l:=l) (b:=b))
  have Hbd:=hide (boB_bad (e:=e) (z:=z) (l:=l) (b:=b))
  have Hmd:=hide (boB_mid (e:=e) (z:=z) (l:=l) (b:=b))
  have Hla:=hide (boB_last (e:=e) (z:=z) (l:=l) (b:=b))
  obtain ⟨id,ep,rd,md,qr,qb,qw,tr,tw,th,ts,en,nx,rt⟩:=b
  simp only at *
  generalize boB e z l ⟨id,ep,rd,md,qr,qb,qw,tr,tw,th,ts,en,nx,rt⟩=BO at *
  obtain ⟨w1,hw1⟩:∃ w1,w.alloc (.cells #[.int .i64 e,.slice av z.length cv] 26)=w1:=⟨_,rfl⟩
  have hb1:Below w.heap.size w w1:=by rw [<- hw1];exact (Below.refl _ w).alloc (Nat.le_refl _) _
  have k1:Blk w1 w.heap.size 26 [.int .i64 e,.slice av z.length cv]:=by rw [<- hw1];exact Blk.new w _ _
  have s1:w1.heap.size=w.heap.size+1:=by rw [<- hw1];simp
  obtain ⟨w2,hw2⟩:∃ w2,w1.alloc (.cells #[.int .i64 id,.int .i64 ep,.int .i64 rd,.string md,.int .i64 qr,.int .i64 qb,vq,.int .i64 tr,vw,vh,.slice at_ ts.length ct,.bool en,.slice an nx.length cn,.string rt] 50)=w2:=⟨_,rfl⟩
  have hb2:Below w1.heap.size w1 w2:=by rw [<- hw2];exact (Below.refl _ w1).alloc (Nat.le_refl _) _
  have k2:Blk w2 (w.heap.size+1) 50 [.int .i64 id,.int .i64 ep,.int .i64 rd,.string md,.int .i64 qr,.int .i64 qb,vq,.int .i64 tr,vw,vh,.slice at_ ts.length ct,.bool en,.slice an nx.length cn,.string rt]:=by rw [<- hw2,<- s1];exact Blk.new w1 _ _
  have B2:Below w.heap.size w w2:=hb1.trans (hb2.mono hb1.size)
  have k12:=k1.below hb2 k1.lt
  have HTh:=hide (fun V (hV:Below w.heap.size w V)=>specThere_any (.slice al l.length cl) l qb V (hrl.below hV (Nat.le_refl _)) hl hf hbd)
  have HEn:=hide (fun ht V (hV:Below w.heap.size w V)=>specEndedC_any (.slice al l.length cl) l qb V (hrl.below hV (Nat.le_refl _)) hl ht)
  have HCh:=hide (fun ht V (hV:Below w.heap.size w V)=>specChain_any (.slice al l.length cl) l qb V (hrl.below hV (Nat.le_refl _)) hl ht)
  have HAt:=hide (fun ht V (hV:Below w.heap.size w V)=>specL11At_any e (.slice av z.length cv) (.slice al l.length cl) z l qb V (hr.below hV (Nat.le_refl _)) (hrl.below hV (Nat.le_refl _)) hz hall hl hf ht)
  have hfo:=foL_few (e:=e) l (chA l qb) z hz hall
  have hga:=alA_few (e:=e) (l:=foL e z l (chA l qb)) ts hfo.1 hfo.2
  have hne9:=neA_few (e:=e) hga.1 hga.2
  have hse:=Nat.le_trans (setA_len (neA e (alA e (foL e z l (chA l qb)) ts).1).1 (neA e (alA e (foL e z l (chA l qb)) ts).1).2) hne9.1
  have HAl:=hide (fun V v (h:RdA V v (foL e z l (chA l qb))) (hV:Below w.heap.size w V)=>specAll_any e v (.slice at_ ts.length ct) (foL e z l (chA l qb)) ts V h (hrb.t.below hV (Nat.le_refl _)) hfo.1 hfo.2 hfb.t hfb.ts)
  have HNx:=hide (fun V v h=>specNext_any e v (alA e (foL e z l (chA l qb)) ts).1 V h (by omega) (fun a ha=>by have:=hga.2 a ha;omega))
  have HSe:=hide (fun V v h=>specSetOf_any (neA e (alA e (foL e z l (chA l qb)) ts).1).1 v (neA e (alA e (foL e z l (chA l qb)) ts).1).2 V h (by omega) (fun a ha=>by have:=hne9.2 a ha;omega))
  have HSr:=hide (fun V v h=>specStateRoot_any (neA e (alA e (foL e z l (chA l qb)) ts).1).1 v (neA e (alA e (foL e z l (chA l qb)) ts).1).2 V h (by omega) (fun a ha=>by have:=hne9.2 a ha;omega))
  have hfn:=hfb.n
  have HSv:=hide (fun V v2 (hV:Below w.heap.size w V) h2=>specSameV_any (.slice an nx.length cn) v2 nx (setA (neA e (alA e (foL e z l (chA l qb)) ts).1).1 (neA e (alA e (foL e z l (chA l qb)) ts).1).2) V (hrb.n.below hV (Nat.le_refl _)) h2 hfn (by omega))
  have hft:=hfb.t
  generalize foL e z l (chA l qb)=Z at *
  simp only [lgV] at HAt HAl HNx HSe HSr
  simp only [lgV,bkV]
  have y5:=k2.cell 5
  simp only [List.getElem?_cons_zero,List.getElem?_cons_succ] at y5
  have HB2:=hide B2
  have K1:=hide k12
  have K2:=hide k2
  clear hr hrl hrb hall hf hbd hfb hb1 hb2 k1 k12 k2 B2 hfo hga hne9
  go_enter Tryz.func28,Tryz.ntmps28
  go_wp2_with fail
  refine (HTh.out w2 HB2.out).mono ?_
  rintro _ w3 ⟨rfl,hb3⟩
  have B3:=hide (HB2.out.trans (hb3.mono HB2.out.size))
  have K13:=hide (K1.out.below hb3 K1.out.lt)
  have K23:=hide (K2.out.below hb3 K2.out.lt)
  clear hb3 K1 K2
  by_cases hth:thB l qb=true
  rotate_left
  · have hth':thB l qb=false:=by simpa using hth
    have HR:=hide (Hno.out hth)
    rw [hth']
    clear Hno Hen Hbd Hmd Hla hth hth'
    go_wp2
    go_ret
    exact ⟨by rw [HR.out];rfl,B3.out⟩
  · have htr := hide (treeP_of ((thB_is l qb).1 hth).1)
    have Hen:=hide (Hen.out hth)
    have Hbd:=hide (Hbd.out hth)
    have Hmd:=hide (Hmd.out hth)
    have Hla:=hide (Hla.out hth)
    rw [hth]
    clear Hno hth
    go_wp2_with fail
    refine (HEn.out htr.out w3 B3.out).mono ?_
    rintro _ w4 ⟨rfl,hb4⟩
    have B4:=hide (B3.out.trans (hb4.mono B3.out.size))
    have k14:=K13.out.below hb4 K13.out.lt
    have k24:=K23.out.below hb4 K23.out.lt
    have K14:=hide k14
    have K24:=hide k24
    clear hb4 K13 K23
    by_cases hany:(chA l qb).any (enAt l)=true
    · have HR := hide (Hen.out hany)
      rw [hany]
      have u10:=k24.cell 10
      have u11:=k24.cell 11
      have u12:=k24.cell 12
      have u13:=k24.cell 13
      simp only [List.getElem?_cons_zero,List.getElem?_cons_succ] at u10 u11 u12 u13
      clear Hen Hbd Hmd Hla hany k14 k24
      by_cases h1:ts=[]
      · subst h1
        cases en
        · by_cases h3:nx=[]
          · subst h3
            by_cases h4:rt={ data:=#[] }
            · subst h4
              have d4:=emp_emp
              go_wp2
              go_ret
              exact ⟨by rw [HR.out];rfl,B4.out⟩
            · have d4:=emp_toList h4
              have d5:decide (rt={ data:=#[] })=false:=decide_eq_false h4
              go_wp2
              go_ret
              exact ⟨by rw [HR.out,d5];rfl,B4.out⟩
          · have h3':¬ (nx.length:Int)=0:=fun k=>h3 (List.length_eq_zero_iff.1 (by omega))
            have d5:decide (nx=[])=false:=decide_eq_false h3
            go_wp2
            go_ret
            exact ⟨by rw [HR.out,d5];rfl,B4.out⟩
        · go_wp2
          go_ret
          exact ⟨by rw [HR.out];rfl,B4.out⟩
      · have h1':¬ (ts.length:Int)=0:=fun k=>h1 (List.length_eq_zero_iff.1 (by omega))
        have d5:decide (ts=[])=false:=decide_eq_false h1
        go_wp2
        go_ret
        exact ⟨by rw [HR.out,d5];rfl,B4.out⟩
    · have hanf : (chA l qb).any (enAt l)=false:=by simpa using hany
      have Hbd:=hide (Hbd.out hany)
      have Hmd:=hide (Hmd.out hany)
      have Hla:=hide (Hla.out hany)
      rw [hanf]
      clear Hen hany hanf
      generalize hA:(alA e Z ts).1=A at HAl HNx HSe HSr HSv Hla hse
      generalize hC:(alA e Z ts).2=C at HAl Hbd Hmd Hla
      have HS:Hid (∀ V,Below w4.heap.size w4 V->(V.cell? ⟨w.heap.size,0,none⟩=some (.int .i64 e)/\V.cell? ⟨w.heap.size,1,none⟩=some (.slice av z.length cv)/\V.cell? ⟨w.heap.size+1,10,none⟩=some (.slice at_ ts.length ct))):=hide (fun V hV=>⟨(K14.out.below hV K14.out.lt).cell 0,(K14.out.below hV K14.out.lt).cell 1,(K24.out.below hV K24.out.lt).cell 10⟩)
      have bD:Below w4.heap.size w4 w4.drew:=(Below.refl _ w4).drew
      have bE:Below w4.heap.size w4 (w4.alloc (.cells #[.int .i64 0,.slice none 0 0] 26)).drew:=((Below.refl _ w4).alloc (Nat.le_refl _) _).drew
      have nE:Blk (w4.alloc (.cells #[.int .i64 0,.slice none 0 0] 26)).drew w4.heap.size 26 [.int .i64 0,.slice none 0 0]:=Blk.new w4 26 [.int .i64 0,.slice none 0 0]
      have HLZ:Hid (∀ (V:World) (v:Value),RdA V v Z->∃ a c,v=.slice a Z.length c):=hide (fun V v h=>h.shape)
      have HLA:Hid (∀ (V:World) (v:Value),RdA V v A->∃ a c,v=.slice a A.length c):=hide (fun V v h=>h.shape)
      have x0:=k14.cell 0
      have x1:=k14.cell 1
      have u10:=k24.cell 10
      simp only [List.getElem?_cons_zero,List.getElem?_cons_succ] at x0 x1 u10
      have z4:=B4.out.size
      clear k14 k24
      go_upto_region 6 with fail
      go_cut [8,9] (fun sp sc wc=>∃ (B:Nat) (a':Option Addr) (c':Nat),sp=.pointer (some ⟨B,0,none⟩)/\sc=.int .i64 (C:Int)/\Blk wc B 26 [.int .i64 e,.slice a' A.length c']/\RdA wc (.slice a' A.length c') A/\Below w4.heap.size w4 wc)
      case first =>
        go_region_held_law (fun w'=>w'.cell? ⟨w.heap.size,0,none⟩=some (.int .i64 e)/\w'.cell? ⟨w.heap.size,1,none⟩=some (.slice av z.length cv)/\w'.cell? ⟨w.heap.size+1,10,none⟩=some (.slice at_ ts.length ct)) ((refine HS.out _ ?_;repeat (first | with_reducible exact bD | with_reducible exact bE | with_reducible exact bA | with_reducible exact bB | with_reducible exact Below.refl _ _ | refine Below.drew ?_ | refine Below.alloc ?_ (by first | omega | (simp;done) | (simp;omega) | (dsimp only;omega)) _ | refine Below.setCell ?_ (by first | omega | (simp;done) | (simp;omega) | (dsimp only;omega)) _))) ((first
          | (go_at_call 81;have nbA':=nbA;with_reducible refine (HAl.out wA _ oA.rd (B4.out.trans (bA.mono z4))).mono ?_;rintro e' wB ⟨vB,rfl,oB,hbB⟩;have bB:=bA.trans (hbB.mono bA.size);have zB:=bB.size;have xB:=oB.ox;have hshB:=HLA.out _ _ xB.rd;obtain ⟨aB,cB,hvB⟩:=hshB;subst hvB;have hBA:=nbA'.lt;have nb:=nbA'.below hbB nbA'.lt;have hBlt:=nb.lt;have y0:=nb.cell 0;have y1:=nb.cell 1;have y0f:=nb.frozen 0;have y1f:=nb.frozen 1;simp only [List.getElem?_cons_zero,List.getElem?_cons_succ] at y0 y1)
          | (go_at_call 81;with_reducible refine (HAl.out wA _ oA.rd (B4.out.trans (bA.mono z4))).mono ?_;rintro e' wB ⟨vB,rfl,oB,hbB⟩;have bB:=bA.trans (hbB.mono bA.size);have zB:=bB.size;have xB:=oB.ox;have hshB:=HLA.out _ _ xB.rd;obtain ⟨aB,cB,hvB⟩:=hshB;subst hvB)
          | (go_at_call 81;with_reducible refine (HAl.out (wA.alloc (.cells #[.int .i64 0,.slice none 0 0] 26)) _ (oA.below ((Below.refl _ wA).alloc (Nat.le_refl _) _) (Nat.le_refl _)).rd (B4.out.trans ((bA.alloc bA.size _).mono z4))).mono ?_;rintro e' wB ⟨vB,rfl,oB,hbB⟩;have bB:=(bA.alloc bA.size _).trans (hbB.mono (Nat.le_trans bA.size (by simp)));have zB:=bB.size;have xB:=oB.ox;have hshB:=HLA.out _ _ xB.rd;obtain ⟨aB,cB,hvB⟩:=hshB;subst hvB;have nm:Blk (wA.alloc (.cells #[.int .i64 0,.slice none 0 0] 26)) wA.heap.size 26 [.int .i64 0,.slice none 0 0]:=Blk.new wA 26 [.int .i64 0,.slice none 0 0];have nb:=nm.below hbB nm.lt;have hBlt:=nb.lt;have y0:=nb.cell 0;have y1:=nb.cell 1;have y0f:=nb.frozen 0;have y1f:=nb.frozen 1;simp only [List.getElem?_cons_zero,List.getElem?_cons_succ] at y0 y1)
          | (go_at_call 59;with_reducible refine (HAt.out htr.out w4.drew (B4.out.trans (bD.mono z4))).mono ?_;rintro e' wA ⟨vA,rfl,oA,hbA⟩;have bA:=bD.trans (hbA.mono bD.size);have zA:=bA.size;have hshA:=HLZ.out _ _ oA.rd;obtain ⟨aA,cA,hvA⟩:=hshA;subst hvA)
          | (go_at_call 59;with_reducible refine (HAt.out htr.out (w4.alloc (.cells #[.int .i64 0,.slice none 0 0] 26)).drew (B4.out.trans (bE.mono z4))).mono ?_;rintro e' wA ⟨vA,rfl,oA,hbA⟩;have bA:=bE.trans (hbA.mono bE.size);have zA:=bA.size;have hshA:=HLZ.out _ _ oA.rd;obtain ⟨aA,cA,hvA⟩:=hshA;subst hvA;have nbA:=nE.below hbA nE.lt)))
        all_goals
          go_wp2_with fail
          go_meet
          case rel =>
            first
              | exact ⟨wB.heap.size,aB,cB,rfl,rfl,Blk.new wB _ _,xB.rd.below ((Below.refl _ wB).alloc (Nat.le_refl _) _) (Nat.le_refl _),bB.alloc (by omega) _⟩
              | exact ⟨_,aB,cB,rfl,rfl,(nb.set 0 _).set 1 _,((xB.old (by first | omega | (simp;done) | (simp;omega) | (dsimp only;omega)) _ _).old (by first | omega | (simp;done) | (simp;omega) | (dsimp only;omega)) _ _).rd,(bB.setCell (p:=⟨_,0,none⟩) (by dsimp only;omega) _).setCell (p:=⟨_,1,none⟩) (by dsimp only;omega) _⟩
      case rest =>
        obtain ⟨w5,rfl⟩:∃ x,x=wc:=⟨_,rfl⟩
        obtain ⟨G,a5,c5,rfl,rfl,kG,rG,hb5⟩:=hcut
        have B5:=hide (B4.out.trans (hb5.mono z4))
        have k25:=K24.out.below hb5 K24.out.lt
        have KG:=hide kG
        have RG:=hide rG
        have K25:=hide k25
        clear kG rG hb5 k25 K14 K24 HS bD bE nE x0 x1 u10 HLZ
        go_wp2_with fail
        refine (HCh.out htr.out w5 B5.out).mono ?_
        rintro _ w6 ⟨x6,rfl,o6,hb6⟩
        obtain ⟨a6,c6,hv6⟩:=o6.rd.shape
        subst hv6
        have hlm:((chA l qb).map ofN).length=(chA l qb).length:=List.length_map _
        rw [hlm]
        have B6:=hide (B5.out.trans (hb6.mono B5.out.size))
        have k26:=K25.out.below hb6 K25.out.lt
        have kG6:=KG.out.below hb6 KG.out.lt
        have RG6:=hide (RG.out.below hb6 (Nat.le_refl _))
        have u10:=k26.cell 10
        have u11:=k26.cell 11
        have u12:=k26.cell 12
        have u13:=k26.cell 13
        have g0:=kG6.cell 0
        have g1:=kG6.cell 1
        simp only [List.getElem?_cons_zero,List.getElem?_cons_succ] at u10 u11 u12 u13 g0 g1
        have K26:=hide k26
        clear o6 hb6 k26 kG6 KG RG K25 hlm HCh htr HAt HAl
        by_cases hn:C=ts.length
        · have hni:(C:Int)=(ts.length:Int):=by omega
          by_cases hc:(chA l qb).length=1
          · have hci:((chA l qb).length:Int)=1:=by omega
            have HR:=hide (Hla.out hn hc)
            clear Hla Hmd Hbd
            cases en
            · go_wp2
              go_ret
              exact ⟨by rw [HR.out];rfl,B6.out⟩
            · go_wp2_with fail
              refine (HNx.out _ _ RG6.out).mono ?_
              rintro _ w7 ⟨v7,rfl,o7,hb7⟩
              obtain ⟨a7,c7,rfl⟩:=o7.rd.shape
              obtain ⟨w8,hw8⟩:∃ w8,w7.alloc (.cells #[.int .i64 (neA e A).1,.slice a7 (neA e A).2.length c7] 26)=w8:=⟨_,rfl⟩
              have b8:Below w7.heap.size w7 w8:=by rw [<- hw8];exact (Below.refl _ w7).alloc (Nat.le_refl _) _
              have k8:Blk w8 w7.heap.size 26 [.int .i64 (neA e A).1,.slice a7 (neA e A).2.length c7]:=by rw [<- hw8];exact Blk.new w7 _ _
              have B7:=B6.out.trans (hb7.mono B6.out.size)
              have B8:=hide (B7.trans (b8.mono B7.size))
              have k28:=(K26.out.below hb7 K26.out.lt).below b8 (Nat.lt_of_lt_of_le K26.out.lt hb7.size)
              have R8:=hide (o7.rd.below b8 (Nat.le_refl _))
              have K8:=hide k8
              have K28:=hide k28
              have z8:=B8.out.size
              have HSy:Hid (∀ V,Below w8.heap.size w8 V->(V.cell? ⟨w7.heap.size,0,none⟩=some (.int .i64 (neA e A).1)/\V.cell? ⟨w7.heap.size,1,none⟩=some (.slice a7 (neA e A).2.length c7)/\V.cell? ⟨w.heap.size+1,12,none⟩=some (.slice an nx.length cn)/\V.cell? ⟨w.heap.size+1,13,none⟩=some (.string rt))):=hide (fun V hV=>⟨(K8.out.below hV K8.out.lt).cell 0,(K8.out.below hV K8.out.lt).cell 1,(K28.out.below hV K28.out.lt).cell 12,(K28.out.below hV K28.out.lt).cell 13⟩)
              have hd8:Below w8.heap.size w8 w8.drew:=(Below.refl _ w8).drew
              have hS8:=HSy.out _ hd8
              clear o7 hb7 b8 k8 B7 k28 u10 u11 u12 u13 g0 g1 RG6 K26
              generalize (neA e A).1=ne1 at *
              generalize (neA e A).2=ne2 at *
              by_cases h3:nx=setA ne1 ne2
              · have d3:decide (nx=setA ne1 ne2)=true:=decide_eq_true h3
                clear h3
                rw [d3] at HR HSv
                have HR:=hide HR.out
                have e4:(rt.toList == (srB ne1 ne2).toList)=decide (rt=srB ne1 ne2):=by
                  by_cases h:rt=srB ne1 ne2
                  · rw [h];simp
                  · rw [decide_eq_false h];simpa using no_toList h
                go_wp2
                go_region_held_law (fun w'=>w'.cell? ⟨w7.heap.size,0,none⟩=some (.int .i64 ne1)/\w'.cell? ⟨w7.heap.size,1,none⟩=some (.slice a7 ne2.length c7)/\w'.cell? ⟨w.heap.size+1,12,none⟩=some (.slice an nx.length cn)/\w'.cell? ⟨w.heap.size+1,13,none⟩=some (.string rt)) (first | with_reducible exact hS8 | with_reducible exact hS9 | with_reducible exact hS10 | with_reducible exact hS11) ((first
                  | (go_at_call 86;refine (HSr.out _ _ (R8.out.below b10 (Nat.le_refl _))).mono ?_;rintro e' w11 ⟨rfl,hb11⟩;have b11:=b10.trans (hb11.mono b10.size);have hS11:=HSy.out _ b11)
                  | (go_at_call 84;refine (HSv.out _ _ (B8.out.trans (b9.mono z8)) o9.rd).mono ?_;rintro e' w10 ⟨rfl,hs10⟩;have b10:=b9.trans ((hs10 w9.heap.size).mono b9.size);have hS10:=HSy.out _ b10)
                  | (go_at_call 85;refine (HSe.out _ _ (R8.out.below hd8 (Nat.le_refl _))).mono ?_;rintro e' w9 ⟨v9,rfl,o9,hb9⟩;have b9:=hd8.trans (hb9.mono hd8.size);have hS9:=HSy.out _ b9)))
                go_wp2
                go_ret
                exact ⟨by rw [HR.out,<- e4];simp,B8.out.trans (b11.mono z8)⟩
              · have d3:decide (nx=setA ne1 ne2)=false:=decide_eq_false h3
                clear h3
                rw [d3] at HR HSv
                have HF:Hid (BO=false):=hide (HR.out.trans (by simp))
                go_wp2
                refine wp_region_held_drew (S:=fun w'=>w'.cell? ⟨w7.heap.size,0,none⟩=some (.int .i64 ne1)/\w'.cell? ⟨w7.heap.size,1,none⟩=some (.slice a7 ne2.length c7)/\w'.cell? ⟨w.heap.size+1,12,none⟩=some (.slice an nx.length cn)/\w'.cell? ⟨w.heap.size+1,13,none⟩=some (.string rt)) (by kernel_rfl) hS8 (fun hHeld=>?_)
                refine wpAnyH_take (i:=0) (v:=.pointer (some ⟨w.heap.size+1,12,none⟩)) rfl (by kernel_rfl) (by kernel_rfl) (by kernel_rfl) (fun _ _ _ h=>h) (Or.inl ⟨by rfl,fun W hW=>by (obtain ⟨q0,q1,q2,q3⟩:=hW;go_simp)⟩) (by assumption) ?_
                change wpAnyH Tryz.prog _ _ _ _ _ _ (Act.put _ (some 81) _) _
                simp only [Act.put,List.setIfInBounds_toArray,List.set_cons_zero,List.set_cons_succ]
                refine wpAnyH_take (i:=1) (v:=.slice an nx.length cn) rfl (by kernel_rfl) (by kernel_rfl) (by kernel_rfl) (fun _ _ _ h=>h) (Or.inl ⟨by rfl,fun W hW=>by (obtain ⟨q0,q1,q2,q3⟩:=hW;go_simp)⟩) (by assumption) ?_
                change wpAnyH Tryz.prog _ _ _ _ _ _ (Act.put _ (some 82) _) _
                simp only [Act.put,List.setIfInBounds_toArray,List.set_cons_zero,List.set_cons_succ]
                refine wpAnyH_take (i:=2) (v:=.agg #[.int .i64 ne1,.slice a7 ne2.length c7]) rfl (by kernel_rfl) (by kernel_rfl) (by kernel_rfl) (fun _ _ _ h=>h) (Or.inl ⟨by rfl,fun W hW=>by (obtain ⟨q0,q1,q2,q3⟩:=hW;go_simp)⟩) (by assumption) ?_
                change wpAnyH Tryz.prog _ _ _ _ _ _ (Act.put _ (some 83) _) _
                simp only [Act.put,List.setIfInBounds_toArray,List.set_cons_zero,List.set_cons_succ]
                refine wpAnyH_ready (rs:=[3]) (by kernel_rfl) (by simp) ?_
                refine AllReadyH.cons rfl (fun K hK=>?_) AllReadyH.nil
                go_simp
                go_wp2_with (go_at_call 85;refine (HSe.out _ _ (R8.out.below hd8 (Nat.le_refl _))).mono ?_;rintro e' w9 ⟨v9,rfl,o9,hb9⟩;have b9:=hd8.trans (hb9.mono hd8.size);have hS9:=HSy.out _ b9)
                refine hK.out _ _ hS9 (fun hHeld=>?_)
                try simp only [Act.put,List.setIfInBounds_toArray,List.set_cons_zero,List.set_cons_succ]
                refine wpAnyH_ready (rs:=[4]) (by kernel_rfl) (by simp) ?_
                refine AllReadyH.cons rfl (fun K hK=>?_) AllReadyH.nil
                go_simp
                go_wp2_with (go_at_call 84;refine (HSv.out _ _ (B8.out.trans (b9.mono z8)) o9.rd).mono ?_;rintro e' w10 ⟨rfl,hs10⟩;have b10:=b9.trans ((hs10 w9.heap.size).mono b9.size);have hS10:=HSy.out _ b10)
                refine hK.out _ _ hS10 (fun hHeld=>?_)
                try simp only [Act.put,List.setIfInBounds_toArray,List.set_cons_zero,List.set_cons_succ]
                refine wpAnyH_take (i:=5) (v:=.bool false) rfl (by kernel_rfl) (by kernel_rfl) (by kernel_rfl) (fun _ _ _ h=>h) (Or.inl ⟨by rfl,fun W hW=>by (obtain ⟨q0,q1,q2,q3⟩:=hW;go_simp)⟩) (by assumption) ?_
                change wpAnyH Tryz.prog _ _ _ _ _ _ (Act.put _ (some 86) _) _
                simp only [Act.put,List.setIfInBounds_toArray,List.set_cons_zero,List.set_cons_succ]
                refine wpAnyH_take (i:=6) (v:=undef) rfl (by kernel_rfl) (by kernel_rfl) (by kernel_rfl) (fun _ _ _ h=>h) (Or.inr ⟨by rfl,rfl⟩) (by assumption) ?_
                change wpAnyH Tryz.prog _ _ _ _ _ _ (Act.put _ (some 87) _) _
                simp only [Act.put,List.setIfInBounds_toArray,List.set_cons_zero,List.set_cons_succ]
                refine wpAnyH_take (i:=7) (v:=undef) rfl (by kernel_rfl) (by kernel_rfl) (by kernel_rfl) (fun _ _ _ h=>h) (Or.inr ⟨by rfl,rfl⟩) (by assumption) ?_
                change wpAnyH Tryz.prog _ _ _ _ _ _ (Act.put _ (some 88) _) _
                simp only [Act.put,List.setIfInBounds_toArray,List.set_cons_zero,List.set_cons_succ]
                refine wpAnyH_take (i:=8) (v:=undef) rfl (by kernel_rfl) (by kernel_rfl) (by kernel_rfl) (fun _ _ _ h=>h) (Or.inr ⟨by rfl,rfl⟩) (by assumption) ?_
                change wpAnyH Tryz.prog _ _ _ _ _ _ (Act.put _ (some 89) _) _
                simp only [Act.put,List.setIfInBounds_toArray,List.set_cons_zero,List.set_cons_succ]
                refine wpAnyH_take (i:=9) (v:=undef) rfl (by kernel_rfl) (by kernel_rfl) (by kernel_rfl) (fun _ _ _ h=>h) (Or.inr ⟨by rfl,rfl⟩) (by assumption) ?_
                change wpAnyH Tryz.prog _ _ _ _ _ _ (Act.put _ (some 90) _) _
                simp only [Act.put,List.setIfInBounds_toArray,List.set_cons_zero,List.set_cons_succ]
                refine wpAnyH_take (i:=10) (v:=undef) rfl (by kernel_rfl) (by kernel_rfl) (by kernel_rfl) (fun _ _ _ h=>h) (Or.inr ⟨by rfl,rfl⟩) (by assumption) ?_
                change wpAnyH Tryz.prog _ _ _ _ _ _ (Act.put _ (some 91) _) _
                simp only [Act.put,List.setIfInBounds_toArray,List.set_cons_zero,List.set_cons_succ]
                refine wpAnyH_take (i:=11) (v:=.bool false) rfl (by kernel_rfl) (by kernel_rfl) (by kernel_rfl) (fun _ _ _ h=>h) (Or.inl ⟨by rfl,fun W hW=>by (obtain ⟨q0,q1,q2,q3⟩:=hW;go_simp)⟩) (by assumption) ?_
                change wpAnyH Tryz.prog _ _ _ _ _ _ (Act.put _ (some 92) _) _
                simp only [Act.put,List.setIfInBounds_toArray,List.set_cons_zero,List.set_cons_succ]
                refine wpAnyH_take (i:=12) (v:=.bool false) rfl (by kernel_rfl) (by kernel_rfl) (by kernel_rfl) (fun _ _ _ h=>h) (Or.inl ⟨by rfl,fun W hW=>by (obtain ⟨q0,q1,q2,q3⟩:=hW;go_simp)⟩) (by assumption) ?_
                change wpAnyH Tryz.prog _ _ _ _ _ _ (Act.put _ (some 6) _) _
                simp only [Act.put,List.setIfInBounds_toArray,List.set_cons_zero,List.set_cons_succ]
                refine wpAnyH_done (by kernel_rfl) ?_ _
                go_wp2
                go_ret
                exact ⟨by rw [HF.out];rfl,B8.out.trans (b10.mono z8)⟩
          · have hci:¬ ((chA l qb).length:Int)=1:=by omega
            have hcd:decide (((chA l qb).length:Int)=1)=false:=decide_eq_false hci
            have hcb:(((chA l qb).length:Int) == 1)=false:=by simpa using hci
            have HR:=hide (Hmd.out hn hc)
            clear Hla Hmd Hbd
            cases en
            · by_cases h3:nx=[]
              · subst h3
                by_cases h4:rt={ data:=#[] }
                · subst h4
                  have d4:=emp_emp
                  go_wp2
                  go_ret
                  exact ⟨by rw [HR.out];rfl,B6.out⟩
                · have d4:=emp_toList h4
                  have d5:decide (rt={ data:=#[] })=false:=decide_eq_false h4
                  go_wp2
                  go_ret
                  exact ⟨by rw [HR.out,d5];rfl,B6.out⟩
              · have h3':¬ (nx.length:Int)=0:=fun k=>h3 (List.length_eq_zero_iff.1 (by omega))
                have d5:decide (nx=[])=false:=decide_eq_false h3
                go_wp2
                go_ret
                exact ⟨by rw [HR.out,d5];rfl,B6.out⟩
            · go_wp2
              go_ret
              exact ⟨by rw [HR.out];rfl,B6.out⟩
        · have hni:¬ (C:Int)=(ts.length:Int):=by omega
          have HR:=hide (Hbd.out hn)
          clear Hla Hmd Hbd
          go_wp2
          go_ret
          exact ⟨by rw [HR.out];rfl,B6.out⟩
end Go.Proofs.YtohachldbpejpaaGreatDoor
