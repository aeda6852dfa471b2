/- The walk of the law FnBodies. -/
import Derived.Test.YtohachldbpejpaaGreatDoorZbBkRowE
import Derived.Test.YtohachldbpejpaaGreatDoorZbBdFact
import Derived.LaidMore
import Derived.OpenVars
import Derived.Lib.LaidU8
import Derived.Stop.Joined
import Derived.LaidLaws
import Derived.LaidHandle
import Derived.Below
set_option maxRecDepth 20000
set_option maxHeartbeats 8000000
namespace Go.Proofs.YtohachldbpejpaaGreatDoor
open Go.RowKit
set_option linter.unusedVariables false
theorem implBodyOk_any (e:Int) (v vl:Value) (z:List Ac) (l:List Bk) (b:Bk) (bv:Bv) (w:World) (hgh:Gh w) (hgl:Gl w) (hr:RdA w v z) (hrl:RdKs w vl l) (hrb:RdK w b bv) (hz:z.length<=3999999) (hall:∀ a ∈ z,a.1.size<=maxLen/\a.2.2.2.2.length<=3999999) (hl:l.length<=4000000) (hf:∀ b ∈ l,FewK b) (hbd:∀ b ∈ l,-9223372036854775808<=b.tr/\b.tr<=9223372036854775807) (hfb:FewK b) (hnt:(bdA e z l b.qb b.ts b.ts.length).1.ts.length<=4000000) (hnn:(bdA e z l b.qb b.ts b.ts.length).1.nx.length<=4000000) :
    Calls Tryz.prog 19 #[lgV e v,vl,bkV b bv] w fun en w'=>en=.returned (.bool (boB e z l b))/\Below w.heap.size w w':=by
  obtain ⟨av,cv,rfl⟩:=hr.shape
  obtain ⟨al,cl,rfl⟩:=hrl.shape
  obtain ⟨at_,ct,htv⟩:=hrb.t.shape
  obtain ⟨an,cn,hnv⟩:=hrb.n.shape
  obtain ⟨vq,vw,vh,vt,vn⟩:=bv
  simp only at htv hnv
  subst htv hnv
  obtain ⟨id,ep,rd,md,qr,qb,qw,tr,tw,th,ts,en,nx,rt⟩:=b
  simp only at *
  obtain ⟨w1,hw1⟩:∃ w1,w.alloc (.cells #[.int .i64 e,.slice av z.length cv] 26)=w1:=⟨_,rfl⟩
  have hb1:Below w.heap.size w w1:=by rw [<- hw1];exact (Below.refl _ w).alloc (Nat.le_refl _) _
  have k1:Blk w1 w.heap.size 26 [.int .i64 e,.slice av z.length cv]:=by rw [<- hw1];exact Blk.new w _ _
  have s1:w1.heap.size=w.heap.size+1:=by rw [<- hw1];simp
  obtain ⟨w2,hw2⟩:∃ w2,w1.alloc (.cells #[.int .i64 id,.int .i64 ep,.int .i64 rd,.string md,.int .i64 qr,.int .i64 qb,vq,.int .i64 tr,vw,vh,.slice at_ ts.length ct,.bool en,.slice an nx.length cn,.string rt] 50)=w2:=⟨_,rfl⟩
  have hb2:Below w1.heap.size w1 w2:=by rw [<- hw2];exact (Below.refl _ w1).alloc (Nat.le_refl _) _
  have k2:Blk w2 (w.heap.size+1) 50 [.int .i64 id,.int .i64 ep,.int .i64 rd,.string md,.int .i64 qr,.int .i64 qb,vq,.int .i64 tr,vw,vh,.slice at_ ts.length ct,.bool en,.slice an nx.length cn,.string rt]:=by rw [<- hw2,<- s1];exact Blk.new w1 _ _
  have B2:Below w.heap.size w w2:=hb1.trans (hb2.mono hb1.size)
  have k12:=k1.below hb2 k1.lt
  have HBd:=hide (bodyAt_any e (.slice av z.length cv) (.slice al l.length cl) (.slice at_ ts.length ct) z l qb ts ts.length w2 (hgh.below B2) (hgl.below B2 (Nat.le_refl _)) (hr.below B2 (Nat.le_refl _)) (hrl.below B2 (Nat.le_refl _)) (hrb.t.below B2 (Nat.le_refl _)) hz hall hl hf hbd hfb.t hfb.ts)
  have Hbo:Hid (boB e z l ⟨id,ep,rd,md,qr,qb,qw,tr,tw,th,ts,en,nx,rt⟩=boR ⟨id,ep,rd,md,qr,qb,qw,tr,tw,th,ts,en,nx,rt⟩ (bdA e z l qb ts ts.length)):=hide rfl
  have Hrt:=hide (fun V (hV:Below w.heap.size w V)=>hrb.t.below hV (Nat.le_refl _))
  have Hrn:=hide (fun V (hV:Below w.heap.size w V)=>hrb.n.below hV (Nat.le_refl _))
  have hft:=hfb.t
  have hfn:=hfb.n
  generalize bdA e z l qb ts ts.length=R at HBd Hbo hnt hnn
  obtain ⟨⟨T,E,X,Y⟩,q⟩:=R
  simp only [boR] at Hbo
  simp only [lgV,bkV] at HBd hnt hnn ⊢
  have x0:=k12.cell 0
  have x1:=k12.cell 1
  have y5:=k2.cell 5
  have y10:=k2.cell 10
  simp only [List.getElem?_cons_zero,List.getElem?_cons_succ] at x0 x1 y5 y10
  have HB2:=hide B2
  have K2:=hide k2
  clear hgh hgl hr hrl hrb hall hf hbd hfb hb1 hb2 k1 k12 k2 B2
  go_enter Tryz.func19,Tryz.ntmps19
  go_wp2_with fail
  refine HBd.out.mono ?_
  rintro en' w3 ⟨vg,vx,rfl,og,on,hb3⟩
  obtain ⟨ag,cg,rfl⟩:=og.rd.shape
  obtain ⟨ax,cx,rfl⟩:=on.rd.shape
  simp only at og on ⊢
  obtain ⟨w4,hw4⟩:∃ w4,w3.alloc (.cells #[.slice ag T.length cg,.bool E,.slice ax X.length cx,.string Y] 117)=w4:=⟨_,rfl⟩
  have b4:Below w3.heap.size w3 w4:=by rw [<- hw4];exact (Below.refl _ w3).alloc (Nat.le_refl _) _
  have k4:Blk w4 w3.heap.size 117 [.slice ag T.length cg,.bool E,.slice ax X.length cx,.string Y]:=by rw [<- hw4];exact Blk.new w3 _ _
  have B3:=HB2.out.trans (hb3.mono HB2.out.size)
  have B4:=B3.trans (b4.mono B3.size)
  have kb4:=(K2.out.below hb3 K2.out.lt).below b4 (Nat.lt_of_lt_of_le K2.out.lt hb3.size)
  have HG:=hide ((og.below b4 (Nat.le_refl _)).rd)
  have HN:=hide ((on.below b4 (Nat.le_refl _)).rd)
  have z0:=k4.cell 0
  have z1:=k4.cell 1
  have z2:=k4.cell 2
  have z3:=k4.cell 3
  have u10:=kb4.cell 10
  have u11:=kb4.cell 11
  have u12:=kb4.cell 12
  have u13:=kb4.cell 13
  simp only [List.getElem?_cons_zero,List.getElem?_cons_succ] at z0 z1 z2 z3 u10 u11 u12 u13
  have K4:=hide k4
  have Kb:=hide kb4
  have HB4:=hide B4
  clear og on hb3 b4 B3 B4 x0 x1 y5 y10 HBd K2 k4 kb4
  cases q
  · go_wp2
    go_ret
    exact ⟨by rw [Hbo.out];rfl,HB4.out⟩
  · have HET:=hide (equalT_any _ _ ts T w4 (Hrt.out w4 HB4.out) HG.out hft hnt)
    go_wp2_with fail
    refine HET.out.mono ?_
    rintro _ w5 ⟨rfl,hs5⟩
    have HB5:=hide (HB4.out.trans (hs5 _))
    have k5:=K4.out.below (hs5 _) K4.out.lt
    have kb5:=Kb.out.below (hs5 _) Kb.out.lt
    have z1:=k5.cell 1
    have z2:=k5.cell 2
    have z3:=k5.cell 3
    have u11:=kb5.cell 11
    have u12:=kb5.cell 12
    have u13:=kb5.cell 13
    simp only [List.getElem?_cons_zero,List.getElem?_cons_succ] at z1 z2 z3 u11 u12 u13
    have K5:=hide k5
    have Kb5:=hide kb5
    have HN5:=hide (HN.out.below (hs5 _) (Nat.le_refl _))
    clear z0 u10 k5 kb5 HET HG HN K4 Kb
    by_cases h1:ts=T
    · have d1:decide (ts=T)=true:=decide_eq_true h1
      rw [d1]
      by_cases h2:en=E
      · subst h2
        have d2:(en == en)=true:=by simp
        have HEV:=hide (equalV_any _ _ nx X w5 (Hrn.out w5 HB5.out) HN5.out hfn hnn)
        go_wp2_with fail
        refine HEV.out.mono ?_
        rintro _ w6 ⟨rfl,hs6⟩
        have HB6:=hide (HB5.out.trans (hs6 _))
        have k6:=K5.out.below (hs6 _) K5.out.lt
        have kb6:=Kb5.out.below (hs6 _) Kb5.out.lt
        have z3:=k6.cell 3
        have u13:=kb6.cell 13
        simp only [List.getElem?_cons_zero,List.getElem?_cons_succ] at z3 u13
        clear z1 z2 u11 u12 k6 kb6 HEV HN5 K5 Kb5
        by_cases h3:nx=X
        · have d3:decide (nx=X)=true:=decide_eq_true h3
          rw [d3]
          by_cases h4:rt=Y
          · subst h4
            go_wp2
            go_ret
            exact ⟨by rw [Hbo.out,d1,d3];simp,HB6.out⟩
          · have d4:decide (rt=Y)=false:=decide_eq_false h4
            go_wp2
            go_ret
            have d5:¬ rt.toList=Y.toList:=fun k=>h4 (by rw [ByteArray.toList_eq,ByteArray.toList_eq] at k;exact ByteArray.ext (Array.toList_inj.1 k))
            exact ⟨by rw [Hbo.out,d1,d3,d4];simp [d5],HB6.out⟩
        · have d3:decide (nx=X)=false:=decide_eq_false h3
          rw [d3]
          go_wp2
          go_ret
          exact ⟨by rw [Hbo.out,d1,d3];simp,HB6.out⟩
      · have d2:decide (en=E)=false:=decide_eq_false h2
        have Hfin:Hid (boB e z l ⟨id,ep,rd,md,qr,qb,qw,tr,tw,th,ts,en,nx,rt⟩=false):=hide (by rw [Hbo.out,d1,d2];simp)
        clear Hbo
        cases en <;> cases E <;> first | exact absurd rfl h2 | (go_wp2;go_ret;exact ⟨by rw [Hfin.out];rfl,HB5.out⟩)
    · have d1:decide (ts=T)=false:=decide_eq_false h1
      rw [d1]
      go_wp2
      go_ret
      exact ⟨by rw [Hbo.out,d1];rfl,HB5.out⟩
def bk0:Bk:=⟨0,0,0,⟨#[]⟩,0,0,[],0,[],[],[],false,[],⟨#[]⟩⟩
def bv0:Bv:=⟨.slice none 0 0,.slice none 0 0,.slice none 0 0,.slice none 0 0,.slice none 0 0⟩
theorem own_bk0 (base:Nat) (w:World):OwnK base w bk0 bv0:=⟨World.ownsRow_nil _ _ _ _,World.ownsRow_nil _ _ _ _,World.ownsRow_nil _ _ _ _,World.ownsRow_nil _ _ _ _,World.ownsRow_nil _ _ _ _⟩
def baK (l:List Bk) (id:Int):Bk:=if 0<=atI l id then (l[(atI l id).toNat]?).getD bk0 else bk0
theorem baK_yes {l:List Bk} {id:Int} {k:Nat} (hk:k < l.length) (e:atI l id=(k:Int)):baK l id=l[k]:=by rw [baK,e,if_pos (by omega)];simp [hk]
theorem baK_no {l:List Bk} {id:Int} (e:atI l id < 0):baK l id=bk0:=by rw [baK,if_neg (by omega)]
def BaP (w w':World) (l:List Bk) (id:Int) (e:Ending):Prop:=∃ v',e=.returned (.tuple #[bkV (baK l id) v',.bool (decide (0<=atI l id))])/\OwnK w.heap.size w' (baK l id) v'/\(∀ g,v'.q.ownBlock=some g->v'.w.ownBlock ≠ some g)/\Below w.heap.size w w'
theorem implBlockAt_any (v:Value) (l:List Bk) (id:Int) (w:World) (hr:RdKs w v l) (hl:l.length<=4000000) (hf:∀ b ∈ l,FewK b) :
    Calls Tryz.prog 18 #[v,.int .i64 id] w fun e w'=>BaP w w' l id e:=by
  obtain ⟨a,cap,rfl⟩:=hr.shape
  obtain ⟨S0,hS0⟩:∃ x,w.alloc (.cells #[.int .i64 0,.int .i64 0,.int .i64 0,.string { data:=#[] },.int .i64 0,.int .i64 0,.slice none 0 0,.int .i64 0,.slice none 0 0,.slice none 0 0,.slice none 0 0,.bool false,.slice none 0 0,.string { data:=#[] }] 50)=x:=⟨_,rfl⟩
  have b0:Below w.heap.size w S0:=by rw [<- hS0];exact (Below.refl _ w).alloc (Nat.le_refl _) _
  have k0:Blk S0 w.heap.size 50 [.int .i64 0,.int .i64 0,.int .i64 0,.string { data:=#[] },.int .i64 0,.int .i64 0,.slice none 0 0,.int .i64 0,.slice none 0 0,.slice none 0 0,.slice none 0 0,.bool false,.slice none 0 0,.string { data:=#[] }]:=by rw [<- hS0];exact Blk.new w _ _
  have HA:=hide (firstOf_any l a cap id S0 (hr.below b0 (Nat.le_refl _)) hl)
  have HK:=hide k0
  have HB:=hide b0
  have Hr:=hide hr
  have Hf:=hide hf
  clear hr hf k0 b0
  go_enter Tryz.func18,Tryz.ntmps18
  go_wp2_with fail
  (try rw [hS0])
  refine HA.out.mono ?_
  rintro e w1 ⟨hcase,rfl⟩
  rcases hcase with ⟨hneg,rfl⟩ | ⟨k,b,off,hk,hkl,rfl,rfl⟩
  · have HX:=hide (baK_no hneg)
    have HD:Hid (decide (0<=atI l id)=false):=hide (by rw [decide_eq_false_iff_not];omega)
    clear hneg
    have e0:=HK.out.cell 0
    have f0:=HK.out.frozen 0
    have e1:=HK.out.cell 1
    have f1:=HK.out.frozen 1
    have e2:=HK.out.cell 2
    have f2:=HK.out.frozen 2
    have e3:=HK.out.cell 3
    have f3:=HK.out.frozen 3
    have e4:=HK.out.cell 4
    have f4:=HK.out.frozen 4
    have e5:=HK.out.cell 5
    have f5:=HK.out.frozen 5
    have e6:=HK.out.cell 6
    have f6:=HK.out.frozen 6
    have e7:=HK.out.cell 7
    have f7:=HK.out.frozen 7
    have e8:=HK.out.cell 8
    have f8:=HK.out.frozen 8
    have e9:=HK.out.cell 9
    have f9:=HK.out.frozen 9
    have e10:=HK.out.cell 10
    have f10:=HK.out.frozen 10
    have e11:=HK.out.cell 11
    have f11:=HK.out.frozen 11
    have e12:=HK.out.cell 12
    have f12:=HK.out.frozen 12
    have e13:=HK.out.cell 13
    have f13:=HK.out.frozen 13
    simp only [List.getElem?_cons_zero,List.getElem?_cons_succ] at e0 e1 e2 e3 e4 e5 e6 e7 e8 e9 e10 e11 e12 e13
    have FB:=hide (HB.out.trans (below_put14 w1 w.heap.size (.int .i64 0) (.int .i64 0) (.int .i64 0) (.string { data:=#[] }) (.int .i64 0) (.int .i64 0) (.slice none 0 0) (.int .i64 0) (.slice none 0 0) (.slice none 0 0) (.slice none 0 0) (.bool false) (.slice none 0 0) (.string { data:=#[] })))
    clear HA HK
    go_wp2
    refine bodyPost_ret (v:=.tuple #[.agg #[.int .i64 0,.int .i64 0,.int .i64 0,.string { data:=#[] },.int .i64 0,.int .i64 0,.slice none 0 0,.int .i64 0,.slice none 0 0,.slice none 0 0,.slice none 0 0,.bool false,.slice none 0 0,.string { data:=#[] }],.bool false]) (by simp [results,Tryz.f18,go_sem,e0,e1,e2,e3,e4,e5,e6,e7,e8,e9,e10,e11,e12,e13]) rfl ?_
    exact ⟨bv0,by rw [HX.out,HD.out];rfl,by rw [HX.out];exact own_bk0 _ _,(fun g h=>by cases h),FB.out⟩
  · obtain ⟨b9,off9,ea,h3,hcell⟩:∃ b8 off8,(some ⟨b,off,none⟩:Option Addr)=some ⟨b8,off8,none⟩/\b8 < w.heap.size/\∀ i (h:i < l.length),∃ bv,BkAt w b8 (off8+i * 14) l[i] bv/\RdK w l[i] bv:=by
      rcases Hr.out with ⟨a',cap',e,rfl,hn⟩ | ⟨b,off,cap',h0,e,h1,h2,h3,h4⟩
      · simp at hkl
      · simp only [Value.slice.injEq] at e
        exact ⟨b,off,e.1,h3,h4⟩
    obtain ⟨rfl,rfl⟩:b=b9/\off=off9:=by simpa using ea
    have HX:=hide (baK_yes hkl hk)
    have HD:Hid (decide (0<=atI l id)=true):=hide (by rw [decide_eq_true_eq];omega)
    obtain ⟨lv,hat,hrl⟩:=hcell k hkl
    have hc9:=(hat.below HB.out h3).cells
    obtain ⟨c0,c1,c2,c3,c4,c5,c6,c7,c8,c9,c10,c11,c12,c13⟩:=hc9
    have HC:=hide (implCopiedK_any l[k] lv w1 (hrl.below HB.out (Nat.le_refl _)) (Hf.out _ (List.getElem_mem hkl)))
    have Hsh:=hide hrl.shapes9
    clear hat hrl hcell hk Hf Hr
    generalize l[k]=ak at c0 c1 c2 c3 c4 c5 c6 c7 c8 c9 c10 c11 c12 c13 HX HC Hsh
    obtain ⟨aq,cq,aw,cw,ah,ch,at_,ct,an,cn,rfl⟩:=Hsh.out
    clear Hsh
    have HX2:Hid (baK l id=ak):=HX
    obtain ⟨id',ep,rd,md,qr,qb,qw,tr,tw,th,ts,en,nx,rt⟩:=ak
    simp only [bkV] at c0 c1 c2 c3 c4 c5 c6 c7 c8 c9 c10 c11 c12 c13 HC
    go_wp2_with fail
    refine HC.out.mono ?_
    rintro e w2 ⟨v2,rfl,o2,hin,hb2⟩
    obtain ⟨aq2,cq2,aw2,cw2,ah2,ch2,at2,ct2,an2,cn2,rfl⟩:=o2.rd.shapes9
    have k2:=HK.out.below hb2 HK.out.lt
    have e0:=k2.cell 0
    have f0:=k2.frozen 0
    have e1:=k2.cell 1
    have f1:=k2.frozen 1
    have e2:=k2.cell 2
    have f2:=k2.frozen 2
    have e3:=k2.cell 3
    have f3:=k2.frozen 3
    have e4:=k2.cell 4
    have f4:=k2.frozen 4
    have e5:=k2.cell 5
    have f5:=k2.frozen 5
    have e6:=k2.cell 6
    have f6:=k2.frozen 6
    have e7:=k2.cell 7
    have f7:=k2.frozen 7
    have e8:=k2.cell 8
    have f8:=k2.frozen 8
    have e9:=k2.cell 9
    have f9:=k2.frozen 9
    have e10:=k2.cell 10
    have f10:=k2.frozen 10
    have e11:=k2.cell 11
    have f11:=k2.frozen 11
    have e12:=k2.cell 12
    have f12:=k2.frozen 12
    have e13:=k2.cell 13
    have f13:=k2.frozen 13
    simp only [List.getElem?_cons_zero,List.getElem?_cons_succ] at e0 e1 e2 e3 e4 e5 e6 e7 e8 e9 e10 e11 e12 e13
    have hsz:=HK.out.lt
    have F0:=hide ((o2.q.put14 (g:=w.heap.size) (by omega) (.int .i64 id') (.int .i64 ep) (.int .i64 rd) (.string md) (.int .i64 qr) (.int .i64 qb) (.slice aq2 qw.length cq2) (.int .i64 tr) (.slice aw2 tw.length cw2) (.slice ah2 th.length ch2) (.slice at2 ts.length ct2) (.bool en) (.slice an2 nx.length cn2) (.string rt)).mono HB.out.size)
    have F1:=hide ((o2.p.put14 (g:=w.heap.size) (by omega) (.int .i64 id') (.int .i64 ep) (.int .i64 rd) (.string md) (.int .i64 qr) (.int .i64 qb) (.slice aq2 qw.length cq2) (.int .i64 tr) (.slice aw2 tw.length cw2) (.slice ah2 th.length ch2) (.slice at2 ts.length ct2) (.bool en) (.slice an2 nx.length cn2) (.string rt)).mono HB.out.size)
    have F2:=hide ((o2.h.put14 (g:=w.heap.size) (by omega) (.int .i64 id') (.int .i64 ep) (.int .i64 rd) (.string md) (.int .i64 qr) (.int .i64 qb) (.slice aq2 qw.length cq2) (.int .i64 tr) (.slice aw2 tw.length cw2) (.slice ah2 th.length ch2) (.slice at2 ts.length ct2) (.bool en) (.slice an2 nx.length cn2) (.string rt)).mono HB.out.size)
    have F3:=hide ((o2.t.put14 (g:=w.heap.size) (by omega) (.int .i64 id') (.int .i64 ep) (.int .i64 rd) (.string md) (.int .i64 qr) (.int .i64 qb) (.slice aq2 qw.length cq2) (.int .i64 tr) (.slice aw2 tw.length cw2) (.slice ah2 th.length ch2) (.slice at2 ts.length ct2) (.bool en) (.slice an2 nx.length cn2) (.string rt)).mono HB.out.size)
    have F4:=hide ((o2.n.put14 (g:=w.heap.size) (by omega) (.int .i64 id') (.int .i64 ep) (.int .i64 rd) (.string md) (.int .i64 qr) (.int .i64 qb) (.slice aq2 qw.length cq2) (.int .i64 tr) (.slice aw2 tw.length cw2) (.slice ah2 th.length ch2) (.slice at2 ts.length ct2) (.bool en) (.slice an2 nx.length cn2) (.string rt)).mono HB.out.size)
    have FB:=hide ((HB.out.trans (hb2.mono HB.out.size)).trans (below_put14 w2 w.heap.size (.int .i64 id') (.int .i64 ep) (.int .i64 rd) (.string md) (.int .i64 qr) (.int .i64 qb) (.slice aq2 qw.length cq2) (.int .i64 tr) (.slice aw2 tw.length cw2) (.slice ah2 th.length ch2) (.slice at2 ts.length ct2) (.bool en) (.slice an2 nx.length cn2) (.string rt)))
    have Hin:=hide hin
    clear HA HK HC c0 c1 c2 c3 c4 c5 c6 c7 c8 c9 c10 c11 c12 c13 o2 hin k2 hb2
    simp only
    go_wp2
    refine bodyPost_ret (v:=.tuple #[.agg #[.int .i64 id',.int .i64 ep,.int .i64 rd,.string md,.int .i64 qr,.int .i64 qb,.slice aq2 qw.length cq2,.int .i64 tr,.slice aw2 tw.length cw2,.slice ah2 th.length ch2,.slice at2 ts.length ct2,.bool en,.slice an2 nx.length cn2,.string rt],.bool true]) (by simp [results,Tryz.f18,go_sem,e0,e1,e2,e3,e4,e5,e6,e7,e8,e9,e10,e11,e12,e13]) rfl ?_
    exact ⟨⟨_,_,_,_,_⟩,by rw [HX2.out,HD.out];rfl,by rw [HX2.out];exact ⟨F0.out,F1.out,F2.out,F3.out,F4.out⟩,Hin.out,FB.out⟩
end Go.Proofs.YtohachldbpejpaaGreatDoor
namespace Go.Proofs.YtohachldbpejpaaGreatDoor
open Go.ChangeShapes Go.WideShapes Go.ChangeAt Go.RowKit
set_option linter.unusedVariables false
theorem Tryz.gStart : Tryz.prog.globalNamed "loop.example/g00194/impl.shaStart" = some 1 := by kernel_rfl
theorem Tryz.gConsts : Tryz.prog.globalNamed "loop.example/g00194/impl.shaConstants" = some 2 := by kernel_rfl
theorem Tryz.tStart:(Tryz.prog.globals[1]?).map (·.type)=some 256:=by kernel_rfl
theorem Tryz.tConsts:(Tryz.prog.globals[2]?).map (·.type)=some 288:=by kernel_rfl
theorem Tryz.cellsU32:Tryz.prog.cellsOf 255=1:=by kernel_rfl
def litU (n:Nat):DataW Unit:=.lit (.int .u32 (n:Int))
theorem laid_start:(Rows.laid_loop_example_g00194_impl_shaStart:DataW Unit)=.agg (hC.list.map litU):=rfl
theorem laid_consts:(Rows.laid_loop_example_g00194_impl_shaConstants:DataW Unit)=.agg (kC.map litU):=rfl
theorem arr_cell {W:World} {fuel n:Nat} {t:TypeId} {cs:List Value} {L:List Nat} {p:List MemPlace} {sp:Nat->Bool} (ht:Tryz.prog.underlying t=some (.array n 255))
    (hd:DataW.trod (fun _=>()) Tryz.prog W 0 sp false fuel t cs=some (.agg (L.map litU),p)) (j:Nat) (hj:j < n) (hjL:j < L.length):cs[j]?=some (.int .u32 (L[j]:Int)):=by
  obtain ⟨f',d,q,e1,e2⟩:=Lib.array_elem ht hd j hj
  rw [Tryz.cellsU32,Nat.mul_one] at e2
  obtain ⟨k,c1,c2,_⟩:=DataW.trod_int Tryz.underlying255 e2
  have hdk:d=.lit (.int .u32 k):=by simpa using congrArg Prod.fst c2
  have hk:k=(L[j]:Int):=by
    rw [hdk] at e1
    simp [hjL,litU] at e1
    exact e1.symm
  have hg:((cs.drop j).take 1)[0]?=some (.int .u32 k):=by rw [c1];rfl
  rw [List.getElem?_take_of_lt (by omega),List.getElem?_drop,Nat.add_zero] at hg
  rw [hg,hk]
theorem block_lt {W:World} {g:Nat} {v:Value} (h:W.cell? ⟨g,0,none⟩=some v):g < W.heap.size:=by
  rcases Nat.lt_or_ge g W.heap.size with h1 | h1
  · exact h1
  · simp [World.cell?,Array.getElem?_eq_none h1] at h
theorem gl_of_reads {W : World} (h0 : Lib.VarReads Tryz.prog W "loop.example/g00194/impl.shaStart" Rows.laid_loop_example_g00194_impl_shaStart) (h1 : Lib.VarReads Tryz.prog W "loop.example/g00194/impl.shaConstants" Rows.laid_loop_example_g00194_impl_shaConstants) : Gl W := by
  obtain ⟨g0,t0,cs0,f0,p0,hg0,ht0,hv0,hd0⟩:=h0
  obtain ⟨g1,t1,cs1,f1,p1,hg1,ht1,hv1,hd1⟩:=h1
  obtain rfl:=Option.some.inj (Tryz.gStart.symm.trans hg0)
  obtain rfl:=Option.some.inj (Tryz.gConsts.symm.trans hg1)
  obtain rfl:=Option.some.inj (Tryz.tStart.symm.trans ht0)
  obtain rfl:=Option.some.inj (Tryz.tConsts.symm.trans ht1)
  rw [laid_start] at hd0
  rw [laid_consts] at hd1
  have a0:W.rangeAt 1 0 (hC.list.map uv):=by
    intro j v hv
    have hj:j < hC.list.length:=by have:=(List.getElem?_eq_some_iff.1 hv).1;simpa using this
    rw [Nat.zero_add,World.var?_cell Tryz.gStart hv0 j]
    have:=arr_cell Tryz.underlying256 hd0 j hj hj
    rw [Array.getElem?_toList] at this
    rw [this]
    simp [hj,uv] at hv
    rw [<- hv]
  have a1:W.rangeAt 2 0 (kC.map uv):=by
    intro j v hv
    have hj:j < kC.length:=by have:=(List.getElem?_eq_some_iff.1 hv).1;simpa using this
    rw [Nat.zero_add,World.var?_cell Tryz.gConsts hv1 j]
    have:=arr_cell Tryz.underlying288 hd1 j hj hj
    rw [Array.getElem?_toList] at this
    rw [this]
    simp [hj,uv] at hv
    rw [<- hv]
  exact ⟨a0,a1,block_lt (a0 0 (uv hC.a) rfl),block_lt (a1 0 (uv 1116352408) rfl)⟩
end Go.Proofs.YtohachldbpejpaaGreatDoor
namespace Go.Proofs.YtohachldbpejpaaGreatDoor
open Go.ChangeShapes Go.WideShapes Go.RowKit
set_option linter.unusedVariables false
theorem Tryz.et : Tryz.prog.globalNamed "errors.errorType" = some 0 := by kernel_rfl
theorem Tryz.rt : (Tryz.prog.cutTypes.find? (·.1 == "internal/reflectlite.rtype")).map (·.2) = some 239 := by kernel_rfl
theorem Tryz.oneRow:((List.range 359).filter fun t=>Tryz.prog.rowNamed t [101,114,114,111,114])=[96]:=by kernel_rfl
theorem Tryz.nTypes:Tryz.prog.types.size=359:=by kernel_rfl
theorem gh_of_handles {W : World} (h : handlesMet Tryz.prog [("errors.errorType", Rows.laid_errors_errorType)] W) : Gh W := by
  obtain ⟨name,u,ty,e1,e2,e3,e4,e5⟩:=h _ (List.mem_singleton.2 rfl)
  have en:name=[101,114,114,111,114]:=(Option.some.inj e1).symm
  subst en
  obtain rfl:=Option.some.inj (Tryz.rt.symm.trans e2)
  have hm:ty ∈ (List.range 359).filter fun t=>Tryz.prog.rowNamed t [101,114,114,111,114]:=List.mem_filter.2 ⟨List.mem_range.2 (by rw [<- Tryz.nTypes];exact e3),e4⟩
  rw [Tryz.oneRow] at hm
  obtain rfl:=List.mem_singleton.1 hm
  have hh:typeHandle Tryz.prog 96=.pointer (some ⟨3,96,none⟩):=by kernel_rfl
  rw [hh] at e5
  unfold Gh
  simpa using World.var?_cell Tryz.et e5 0
def handPut:Obj->Obj
  | .cells _ t frozen=>.cells #[.iface 239 (.agg #[.pointer (some ⟨3,96,none⟩)])] t frozen
  | o=>o
def laidOn (w0:World):World:={ w0 with heap:=w0.heap.modify 0 handPut }
end Go.Proofs.YtohachldbpejpaaGreatDoor
namespace Go.Proofs.YtohachldbpejpaaGreatDoor
open Go.ChangeShapes Go.WideShapes Go.ChangeAt Go.RowKit
set_option linter.unusedVariables false
theorem bd_lens {e:Int} {z:List Ac} {l:List Bk} {id:Int} (hz:z.length<=3999999) (hall:∀ a ∈ z,a.1.size<=maxLen/\a.2.2.2.2.length<=3999999) (ts:List Tx5) (most:Nat) (hts:ts.length<=4000000):(bdA e z l id ts most).1.ts.length<=4000000/\(bdA e z l id ts most).1.nx.length<=4000000:=by
  unfold bdA
  split
  · have q2:=gd_lenM (e:=e) (most:=most) ts (foL e z l (chT l id),[])
    have f1:=foL_few (e:=e) l (chT l id) z hz hall
    have f2:=gdA_few (e:=e) ts most f1.1 f1.2
    have f3:=neA_few (e:=e) f2.1 f2.2
    simp only [List.length_nil,Nat.zero_add] at q2
    have q3:(gdA e (foL e z l (chT l id)) ts most).2.length<=ts.length:=q2
    unfold bdC
    split
    · exact ⟨by simp,by simp⟩
    · split
      · exact ⟨Nat.le_trans q3 hts,Nat.le_trans (setA_len _ _) (Nat.le_trans f3.1 (by omega))⟩
      · exact ⟨Nat.le_trans q3 hts,by simp⟩
  · exact ⟨by simp,by simp⟩
theorem fnBodies_walk (a0:Option Addr) (len0 cap0:Nat) (z0:List Int) (w:World) (hgl:Gl w) (hgh:Gh w) (w0:IsRow .u8 w a0 len0 cap0 z0) :
    Calls Tryz.prog 4 #[.slice a0 len0 cap0] w fun e w'=>e=.returned (.bool true)/\Below w.heap.size w w':=by
  obtain ⟨cd,rfl,hr⟩:=w0.rd
  clear w0
  have hcap:cd.length<=9223372036854775807:=by
    rcases hr with ⟨_,_,_,e,_⟩ | ⟨_,_,cap,_,_,h1,h2,_⟩
    · subst e;simp
    · unfold maxLen at h2;omega
  have Hbig:=hide (big_any _ cd w hr hcap)
  by_cases hbig:1048576 < cd.length
  · rw [decide_eq_true hbig] at Hbig
    clear hr hgh hgl
    go_enter Tryz.func4,Tryz.ntmps4
    go_wp2_with fail
    refine Hbig.out.mono ?_
    rintro e w' ⟨rfl,rfl⟩
    go_wp2
    go_ret
    exact ⟨rfl,Below.refl _ _⟩
  rw [decide_eq_false hbig] at Hbig
  have Hd:=hide (drawMakeBody_any w _ cd hr (by omega))
  have Hgh:=hide hgh
  have Hgl:=hide hgl
  clear hr hgh hgl
  go_enter Tryz.func4,Tryz.ntmps4
  go_wp2_with fail
  refine Hbig.out.mono ?_
  rintro e w ⟨rfl,rfl⟩
  go_wp2_with fail
  refine Hd.out.mono ?_
  rintro en w2 ⟨e,u,z,v,l,id,x,ts,rfl,hrl,hfw,hrk,htb,hl9,hdt,hrt,ht8,ht9,hB2⟩
  obtain ⟨au,cu,rfl⟩:=hrl.shape
  obtain ⟨al,cl,rfl⟩:=hrk.shape
  have few:=few_fit hfw
  have hFew:∀ b ∈ l,FewK b:=fun x hx=>(hdt x hx).few
  have hBd:∀ b ∈ l,-9223372036854775808<=b.tr/\b.tr<=9223372036854775807:=fun x hx=>by rw [(hdt x hx).tr];omega
  obtain ⟨at_,ct,rfl⟩:=hrt.shape
  have htm:∀ x ∈ ts,x.2.1.size<=maxLen/\x.2.2.1.size<=maxLen:=fun x hx=>by have:=ht9 x hx;unfold maxLen;omega
  have HMk:=hide (fun V (hg:Gh V) (hl':Gl V) (h1:RdA V (.slice au z.length cu) z) (h2:RdKs V (.slice al l.length cl) l) (h3:RdT V (.slice at_ ts.length ct) ts)=>implMakeBody_any e _ _ _ z l id ts V hg hl' h1 h2 h3 few.1 few.2 (by omega) hFew hBd (by omega) htm)
  have HBA:=hide (fun V (h2:RdKs V (.slice al l.length cl) l)=>implBlockAt_any _ l id V h2 (by omega) hFew)
  have HEn:=hide (fun V (h2:RdKs V (.slice al l.length cl) l)=>implEnded_any _ l id V h2 (by omega) hFew hBd)
  have hsb:=bd_small (e:=e) (l:=l) (id:=id) (ts:=ts) few.1 few.2
  have Hmade:=hide (fun (b:Bk) (h0:b.qb=id) (h1:b.ts=(bdA e z l id ts 4).1.ts) (h2:b.en=(bdA e z l id ts 4).1.en) (h3:b.nx=(bdA e z l id ts 4).1.nx) (h4:b.rt=(bdA e z l id ts 4).1.rt)=>bo_made (e:=e) (z:=z) (l:=l) (ts:=ts) (most:=4) h0 h1 h2 h3 h4)
  have Hnone:=hide (fun h ha=>bd_none (e:=e) (z:=z) (l:=l) (id:=id) (ts:=ts) (most:=4) h ha)
  have Hther:=hide (fun h=>bd_there (e:=e) (z:=z) (l:=l) (id:=id) (ts:=ts) (most:=4) htb h)
  have Hend:=hide (fun h=>bd_ended (e:=e) (z:=z) (l:=l) (id:=id) (ts:=ts) (most:=4) h)
  have HBo:=hide (fun (b:Bk) (bv:Bv) V (hg:Gh V) (hl':Gl V) (h1:RdA V (.slice au z.length cu) z) (h2:RdKs V (.slice al l.length cl) l) (h3:RdK V b bv) (hfb:FewK b) hnt hnn=>implBodyOk_any e _ _ z l b bv V hg hl' h1 h2 h3 few.1 few.2 (by omega) hFew hBd hfb hnt hnn)
  have Hfew:=hide few
  generalize hR:bdA e z l id ts 4=R at HMk hsb Hmade Hnone Hther Hend
  obtain ⟨⟨bts,ben,bnx,brt⟩,there⟩:=R
  simp only at HMk hsb Hmade Hnone Hther Hend
  have hts4:bts.length<=4:=hsb.t
  have htsl:bts.length<=ts.length:=hsb.t2
  have hfb:FewK (⟨0,0,0,⟨#[]⟩,0,id,[],0,[],[],bts,ben,bnx,brt⟩:Bk):=by
    have m:1000<=maxLen:=by unfold maxLen;omega
    refine ⟨by simp,by simp,by simp,?_,?_,by simp,by simp,?_,hsb.ns,by show (0:Nat)<=maxLen;omega,?_⟩
    · show bts.length<=4000000;omega
    · have:=hsb.n;show bnx.length<=4000000;exact Nat.le_trans this (by omega)
    · intro x hx;exact htm x (hsb.m x hx)
    · have:=hsb.r;show brt.size<=maxLen;simp only at this;omega
  have hnt:(bdA e z l id bts bts.length).1.ts.length<=4000000/\(bdA e z l id bts bts.length).1.nx.length<=4000000:=bd_lens Hfew.out.1 Hfew.out.2 bts bts.length (by omega)
  have hbo:boB e z l (⟨0,0,0,⟨#[]⟩,0,id,[],0,[],[],bts,ben,bnx,brt⟩:Bk)=there:=Hmade.out _ rfl rfl rfl rfl rfl
  have HBo2:=hide (fun (bv:Bv) V (hg:Gh V) (hl':Gl V) (h1:RdA V (.slice au z.length cu) z) (h2:RdKs V (.slice al l.length cl) l) (h3:RdK V (⟨0,0,0,⟨#[]⟩,0,id,[],0,[],[],bts,ben,bnx,brt⟩:Bk) bv)=>HBo.out (⟨0,0,0,⟨#[]⟩,0,id,[],0,[],[],bts,ben,bnx,brt⟩:Bk) bv V hg hl' h1 h2 h3 hfb hnt.1 hnt.2)
  rw [hbo] at HBo2
  simp only [lgV,bkV] at HMk HBo2 ⊢
  obtain ⟨w3,hw3⟩:∃ x,w2.alloc (.cells #[.int .i64 e,.slice au z.length cu] 26)=x:=⟨_,rfl⟩
  have b3:Below w2.heap.size w2 w3:=by rw [<- hw3];exact (Below.refl _ w2).alloc (Nat.le_refl _) _
  have k3:Blk w3 w2.heap.size 26 [.int .i64 e,.slice au z.length cu]:=by rw [<- hw3];exact Blk.new w2 _ _
  have HB3:=hide (hB2.trans (b3.mono hB2.size))
  have Hra:=hide (fun V (hV:Below w3.heap.size w3 V)=>(hrl.below b3 (Nat.le_refl _)).below hV (Nat.le_refl _))
  have Hrk:=hide (fun V (hV:Below w3.heap.size w3 V)=>(hrk.below b3 (Nat.le_refl _)).below hV (Nat.le_refl _))
  have Hrt:=hide (fun V (hV:Below w3.heap.size w3 V)=>(hrt.below b3 (Nat.le_refl _)).below hV (Nat.le_refl _))
  have HK:=hide (fun V (hV:Below w3.heap.size w3 V)=>k3.below hV k3.lt)
  have Hg3:=hide (fun V (hV:Below w3.heap.size w3 V)=>Hgh.out.below (HB3.out.trans (hV.mono HB3.out.size)))
  have Hl3:=hide (fun V (hV:Below w3.heap.size w3 V)=>Hgl.out.below (HB3.out.trans (hV.mono HB3.out.size)) (Nat.le_refl _))
  clear hrl hrk hrt b3 k3 hB2 few hfw hFew hBd hdt htb htm ht9 hsb hfb hnt hbo hR HBo Hmade Hfew
  go_upto_region 5 with fail
  generalize hw4:World.alloc w3 _=w4
  have b4:Below w3.heap.size w3 w4:=by rw [<- hw4];exact (Below.refl _ w3).alloc (Nat.le_refl _) _
  have k4:Blk w4 w3.heap.size 50 [.int .i64 0,.int .i64 0,.int .i64 0,.string { data:=#[] },.int .i64 0,.int .i64 id,.slice none 0 0,.int .i64 0,.slice none 0 0,.slice none 0 0,.slice none 0 0,.bool false,.slice none 0 0,.string { data:=#[] }]:=by rw [<- hw4];exact Blk.new w3 _ _
  have s4:w4.heap.size=w3.heap.size+1:=by rw [<- hw4];simp
  have kk:=HK.out w4 b4
  have c0:=kk.cell 0
  have c1:=kk.cell 1
  simp only [List.getElem?_cons_zero,List.getElem?_cons_succ] at c0 c1
  have B4:=hide b4
  have K4:=hide k4
  have S4:=hide s4
  clear b4 k4 s4 kk hw4
  go_wp2_with fail
  refine (HMk.out w4 (Hg3.out w4 B4.out) (Hl3.out w4 B4.out) (Hra.out w4 B4.out) (Hrk.out w4 B4.out) (Hrt.out w4 B4.out)).mono ?_
  rintro en w5 ⟨vg,vn,rfl,og,on,hb5⟩
  obtain ⟨ag,cg,rfl⟩:=og.rd.shape
  obtain ⟨an,cn,rfl⟩:=on.rd.shape
  have s4:=S4.out
  have k5:=K4.out.below hb5 (by omega)
  have y10:=k5.cell 10
  have y11:=k5.cell 11
  have y12:=k5.cell 12
  have y13:=k5.cell 13
  simp only [List.getElem?_cons_zero,List.getElem?_cons_succ] at y10 y11 y12 y13
  have f10:=k5.frozen 10
  have f11:=k5.frozen 11
  have f12:=k5.frozen 12
  have f13:=k5.frozen 13
  obtain ⟨w6,hw6⟩:∃ x,((((w5.setCell ⟨w3.heap.size,10,none⟩ (.slice ag bts.length cg)).setCell ⟨w3.heap.size,11,none⟩ (.bool ben)).setCell ⟨w3.heap.size,12,none⟩ (.slice an bnx.length cn)).setCell ⟨w3.heap.size,13,none⟩ (.string brt))=x:=⟨_,rfl⟩
  have k6:Blk w6 w3.heap.size 50 [.int .i64 0,.int .i64 0,.int .i64 0,.string { data:=#[] },.int .i64 0,.int .i64 id,.slice none 0 0,.int .i64 0,.slice none 0 0,.slice none 0 0,.slice ag bts.length cg,.bool ben,.slice an bnx.length cn,.string brt]:=by rw [<- hw6];exact ((((k5.setC 10 (.slice ag bts.length cg)).setC 11 (.bool ben)).setC 12 (.slice an bnx.length cn)).setC 13 (.string brt))
  have hlt:w3.heap.size < w4.heap.size:=by omega
  have ot6:OwnT w4.heap.size w6 (.slice ag bts.length cg) bts:=by rw [<- hw6];exact ((((og.olderC hlt 10 _).olderC hlt 11 _).olderC hlt 12 _).olderC hlt 13 _)
  have on6:OwnV w4.heap.size w6 (.slice an bnx.length cn) bnx:=by rw [<- hw6];exact ((((on.olderC hlt 10 _).olderC hlt 11 _).olderC hlt 12 _).olderC hlt 13 _)
  have b36:Below w3.heap.size w3 w6:=by rw [<- hw6];exact (((((B4.out.trans (hb5.mono B4.out.size)).setCell (p:=⟨w3.heap.size,10,none⟩) (Nat.le_refl _) _).setCell (p:=⟨w3.heap.size,11,none⟩) (Nat.le_refl _) _).setCell (p:=⟨w3.heap.size,12,none⟩) (Nat.le_refl _) _).setCell (p:=⟨w3.heap.size,13,none⟩) (Nat.le_refl _) _)
  have H6:=hide (fun V (hV:Below w6.heap.size w6 V)=>b36.trans (hV.mono b36.size))
  have HK6:=hide (fun V (hV:Below w6.heap.size w6 V)=>k6.below hV k6.lt)
  have HRK:=hide (fun V (hV:Below w6.heap.size w6 V)=>(show RdK V (⟨0,0,0,⟨#[]⟩,0,id,[],0,[],[],bts,ben,bnx,brt⟩:Bk) ⟨.slice none 0 0,.slice none 0 0,.slice none 0 0,.slice ag bts.length cg,.slice an bnx.length cn⟩ from (show OwnK w4.heap.size w6 (⟨0,0,0,⟨#[]⟩,0,id,[],0,[],[],bts,ben,bnx,brt⟩:Bk) ⟨.slice none 0 0,.slice none 0 0,.slice none 0 0,.slice ag bts.length cg,.slice an bnx.length cn⟩ from ⟨World.ownsRow_nil _ _ _ _,World.ownsRow_nil _ _ _ _,World.ownsRow_nil _ _ _ _,ot6,on6⟩).below9 hV (Nat.le_refl _) |>.rd))
  have B6:=hide b36
  have HA6:=hide (HBA.out w6 (Hrk.out w6 b36))
  clear og on k5 k6 ot6 on6 b36 hb5 s4 c0 c1 hlt hw3
  go_wp2_with fail
  (try rw [hw6])
  refine HA6.out.mono ?_
  rintro en w7 ⟨bv,rfl,o7,-,hb7⟩
  obtain ⟨aq,cq,aw,cw,ah,ch,at9,ct9,an9,cn9,rfl⟩:=o7.rd.shapes9
  generalize baK l id=b9
  obtain ⟨qid,qep,qrd,qmd,qqr,qqb,qqw,qtr,qtw,qth,qts,qen,qnx,qrt⟩:=b9
  have Hnone2:Hid (id ≠ -1->decide (0<=atI l id)=false->bts=[]/\ben=false/\there=false):=hide (fun h1 h2=>by
    have:=Hnone.out h1 (by have:=of_decide_eq_false h2;omega)
    simp only [Prod.mk.injEq,Bd.mk.injEq] at this
    exact ⟨this.1.1,this.1.2.1,this.2⟩)
  have Hther2:Hid (id=-1\/decide (0<=atI l id)=true->there=true):=hide (fun h=>Hther.out (by rcases h with h | h;exact .inl h;exact .inr (of_decide_eq_true h)))
  generalize decide (0<=atI l id)=th at Hnone2 Hther2
  simp only [bkV]
  obtain ⟨w8,hw8⟩:∃ x,w7.alloc (.cells #[.int .i64 qid,.int .i64 qep,.int .i64 qrd,.string qmd,.int .i64 qqr,.int .i64 qqb,.slice aq qqw.length cq,.int .i64 qtr,.slice aw qtw.length cw,.slice ah qth.length ch,.slice at9 qts.length ct9,.bool qen,.slice an9 qnx.length cn9,.string qrt] 50)=x:=⟨_,rfl⟩
  have b8:Below w7.heap.size w7 w8:=by rw [<- hw8];exact (Below.refl _ w7).alloc (Nat.le_refl _) _
  have b68:=hb7.trans (b8.mono hb7.size)
  have b38:=H6.out w8 b68
  have kg:=HK.out w8 b38
  have kb:=HK6.out w8 b68
  have g0:=kg.cell 0
  have g1:=kg.cell 1
  simp only [List.getElem?_cons_zero,List.getElem?_cons_succ] at g0 g1
  have t0:=kb.cell 0
  have t1:=kb.cell 1
  have t2:=kb.cell 2
  have t3:=kb.cell 3
  have t4:=kb.cell 4
  have t5:=kb.cell 5
  have t6:=kb.cell 6
  have t7:=kb.cell 7
  have t8:=kb.cell 8
  have t9:=kb.cell 9
  have t10:=kb.cell 10
  have t11:=kb.cell 11
  have t12:=kb.cell 12
  have t13:=kb.cell 13
  simp only [List.getElem?_cons_zero,List.getElem?_cons_succ] at t0 t1 t2 t3 t4 t5 t6 t7 t8 t9 t10 t11 t12 t13
  have HB8:=hide (HBo2.out _ w8 (Hg3.out w8 b38) (Hl3.out w8 b38) (Hra.out w8 b38) (Hrk.out w8 b38) (HRK.out w8 b68))
  have B68:=hide b68
  have BW8:=hide (HB3.out.trans (b38.mono HB3.out.size))
  have HE8:=hide (fun V (hV:Below w8.heap.size w8 V)=>HEn.out V (Hrk.out V (b38.trans (hV.mono b38.size))))
  have HK8:=hide (fun V (hV:Below w8.heap.size w8 V)=>HK6.out V (b68.trans (hV.mono b68.size)))
  clear o7 hb7 b8 b68 b38 kg kb hw6 HA6 HBA HBo2 HRK HMk Hnone Hther y10 y11 y12 y13 f10 f11 f12 f13
  by_cases hA:id ≠ -1/\th=false
  · obtain ⟨h1,h2⟩:=hA
    obtain ⟨r1,r2,r3⟩:=Hnone2.out h1 h2
    subst h2
    subst r1
    subst r2
    subst r3
    have hdi:decide (id=-1)=false:=decide_eq_false h1
    simp only [List.length_nil] at t10 HB8
    go_wp2_with fail
    (try rw [hw8])
    refine HB8.out.mono ?_
    rintro en w9 ⟨rfl,hb9⟩
    have B9:=hide (BW8.out.trans (hb9.mono BW8.out.size))
    clear hb9
    go_wp2
    go_ret
    exact ⟨by first | rfl | simp,B9.out⟩
  · have hth:there=true:=Hther2.out (by
      by_cases h1:id=-1
      · exact .inl h1
      · cases th
        · exact absurd ⟨h1,rfl⟩ hA
        · exact .inr rfl)
    subst hth
    have h4i:(bts.length:Int)<=4:=by omega
    have hli:(bts.length:Int)<=(ts.length:Int):=by omega
    have hend:enB l id=true->bts=[]:=Hend.out
    generalize enB l id=E at HE8 hend
    by_cases hid:id=-1
    · subst hid
      go_wp2_with fail
      (try rw [hw8])
      refine HB8.out.mono ?_
      rintro en w9 ⟨rfl,hb9⟩
      have kb:=HK8.out w9 hb9
      have t10:=kb.cell 10
      simp only [List.getElem?_cons_zero,List.getElem?_cons_succ] at t10
      have HE9:=hide (HE8.out w9 hb9)
      have B9:=hide hb9
      clear kb hb9
      go_wp2_with fail
      refine HE9.out.mono ?_
      rintro en wa ⟨rfl,hba⟩
      have kb:=HK8.out wa (B9.out.trans (hba.mono B9.out.size))
      have t10:=kb.cell 10
      simp only [List.getElem?_cons_zero,List.getElem?_cons_succ] at t10
      have BA:=hide (BW8.out.trans ((B9.out.trans (hba.mono B9.out.size)).mono BW8.out.size))
      clear kb hba
      cases E
      · go_wp2
        go_ret
        exact ⟨by first | rfl | simp,BA.out⟩
      · have:=hend rfl
        subst this
        simp only [List.length_nil] at t10
        go_wp2
        go_ret
        exact ⟨by first | rfl | simp,BA.out⟩
    · have hdi:decide (id=-1)=false:=decide_eq_false hid
      have h2:th=true:=by
        cases th
        · exact absurd ⟨hid,rfl⟩ hA
        · rfl
      subst h2
      go_wp2_with fail
      (try rw [hw8])
      refine HB8.out.mono ?_
      rintro en w9 ⟨rfl,hb9⟩
      have kb:=HK8.out w9 hb9
      have t10:=kb.cell 10
      simp only [List.getElem?_cons_zero,List.getElem?_cons_succ] at t10
      have HE9:=hide (HE8.out w9 hb9)
      have B9:=hide hb9
      clear kb hb9
      go_wp2_with fail
      refine HE9.out.mono ?_
      rintro en wa ⟨rfl,hba⟩
      have kb:=HK8.out wa (B9.out.trans (hba.mono B9.out.size))
      have t10:=kb.cell 10
      simp only [List.getElem?_cons_zero,List.getElem?_cons_succ] at t10
      have BA:=hide (BW8.out.trans ((B9.out.trans (hba.mono B9.out.size)).mono BW8.out.size))
      clear kb hba
      cases E
      · go_wp2
        go_ret
        exact ⟨by first | rfl | simp,BA.out⟩
      · have:=hend rfl
        subst this
        simp only [List.length_nil] at t10
        go_wp2
        go_ret
        exact ⟨by first | rfl | simp,BA.out⟩
end Go.Proofs.YtohachldbpejpaaGreatDoor
