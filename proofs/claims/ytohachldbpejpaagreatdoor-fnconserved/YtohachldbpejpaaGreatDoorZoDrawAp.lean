/- An order drawn for a ledger that is there, and a ledger with it. -/
import Derived.Test.YtohachldbpejpaaGreatDoorZoAcKeys
import Derived.Test.YtohachldbpejpaaGreatDoorZoDrawTx5
set_option maxRecDepth 20000
set_option maxHeartbeats 1000000
namespace Go.Proofs.YtohachldbpejpaaGreatDoor
open Go.RowKit
set_option linter.unusedVariables false
def Sty (g:Nat) (w:World) (v:Value) (l:List Ac):Prop:=RdA w v l/\∀ w',w.grownBy w' (some g)->RdA w' v l
theorem Sty.notg {g:Nat} {w w':World} {v:Value} {l:List Ac} (h:Sty g w v l) (hg:w.grownBy w' (some g)):Sty g w' v l:=⟨h.2 w' hg,fun w'' h2=>h.2 w'' (grw_trans hg h2)⟩
theorem Sty.below {g B:Nat} {w w':World} {v:Value} {l:List Ac} (h:Sty g w v l) (hb:Below B w w') (hB:w.heap.size<=B):Sty g w' v l:=h.notg (grw_of_below (some g) hb hB)
theorem DrA.sty {base g:Nat} {w:World} {v:Value} {Z:List (Ac × Value)} (h:DrA base w v Z) (hg:g < base):Sty g w v (Z.map (·.1)):=⟨h.rd,fun w' h'=>(h.notg h' hg).rd⟩
theorem RdA.atP {w:World} {a:Option Addr} {cap i:Nat} {l:List Ac} (h:RdA w (.slice a l.length cap) l) (hi:i < l.length) :
    ∃ b off lv,a=some ⟨b,off,none⟩/\l.length<=cap/\cap<=maxLen/\b < w.heap.size/\AcAt w b (off+i * 5) l[i] lv/\RdL w lv l[i].2.2.2.2:=by
  rcases h with ⟨a',cap',e,rfl,-⟩ | ⟨b,off,cap',h0,e,h1,h2,h3,h4⟩
  · simp at hi
  · simp only [Value.slice.injEq,true_and] at e
    obtain ⟨rfl,rfl⟩:=e
    obtain ⟨lv,q1,q2⟩:=h4 i hi
    exact ⟨b,off,lv,rfl,h1,h2,h3,q1,q2⟩
def DrU (w0 w:World) (g:Nat) (cv:Value) (code:List UInt8) (e:Ending) (w':World):Prop:=∃ t:Tx5,e=.returned (txV t)/\t.2.1.size<=9/\t.2.2.1.size<=9/\Cur w0 w' g cv code/\w.grownBy w' (some g)
theorem drU_end {w0 w W:World} {g b:Nat} {cv:Value} {code:List UInt8} (hc:Cur w0 W g cv code) (hG:w.grownBy W (some g)) (hgb:g < b) (hwb:w.heap.size<=b) (y0 y1 y2 y3 y4:Value) :
    Cur w0 (((((W.setCell ⟨b,0,none⟩ y0).setCell ⟨b,1,none⟩ y1).setCell ⟨b,2,none⟩ y2).setCell ⟨b,3,none⟩ y3).setCell ⟨b,4,none⟩ y4) g cv code/\w.grownBy (((((W.setCell ⟨b,0,none⟩ y0).setCell ⟨b,1,none⟩ y1).setCell ⟨b,2,none⟩ y2).setCell ⟨b,3,none⟩ y3).setCell ⟨b,4,none⟩ y4) (some g) :=
  ⟨hc.below (below_put5 W b y0 y1 y2 y3 y4) hgb,grw_below hG (below_put5 W b y0 y1 y2 y3 y4) hwb⟩
theorem l6Tx_any (w0 w:World) (g:Nat) (cv:Value) (code:List UInt8) (e:Int) (v:Value) (l:List Ac) (hc:Cur w0 w g cv code) (hl:code.length<=1048576) (hs:Sty g w v l) (hln:l.length<=1000) (hsm:∀ a ∈ l,a.1.size<=9) :
    Calls Tryz.prog 104 #[.pointer (some ⟨g,0,none⟩),lgV e v] w fun en w'=>DrU w0 w g cv code en w':=by
  have hgl:=hc.lt
  obtain ⟨av,cv1,rfl⟩:=hs.1.shape
  simp only [lgV]
  obtain ⟨w1,hw1⟩:∃ x,w.alloc (.cells #[.int .i64 e,.slice av l.length cv1] 26)=x:=⟨_,rfl⟩
  have b1:Below w.heap.size w w1:=by rw [<- hw1];exact (Below.refl _ w).alloc (Nat.le_refl _) _
  have k1:Blk w1 w.heap.size 26 [.int .i64 e,.slice av l.length cv1]:=by rw [<- hw1];exact Blk.new w _ _
  have s1:w1.heap.size=w.heap.size+1:=by rw [<- hw1];simp
  obtain ⟨w2,hw2⟩:∃ x,w1.alloc (.cells #[.int .i64 0,.string { data:=#[] },.string { data:=#[] },.int .i64 0,.int .i64 0] 35)=x:=⟨_,rfl⟩
  have b2:Below w1.heap.size w1 w2:=by rw [<- hw2];exact (Below.refl _ w1).alloc (Nat.le_refl _) _
  have r2:Blk w2 (w.heap.size+1) 35 [.int .i64 0,.string { data:=#[] },.string { data:=#[] },.int .i64 0,.int .i64 0]:=by rw [<- hw2,<- s1];exact Blk.new w1 _ _
  have s2:w2.heap.size=w.heap.size+2:=by rw [<- hw2];simp [s1]
  have k2:=k1.below b2 (by omega)
  have hb2:Below w.heap.size w w2:=b1.trans (b2.mono (by omega))
  have hc2:=hc.below hb2 hgl
  have HG2:=hide (grw_of_below (some g) hb2 (Nat.le_refl _))
  have Hs2:=hide (hs.below hb2 (Nat.le_refl _))
  have K2:=hide k2
  have R2:=hide r2
  clear hc hs k1 k2 r2 b1 b2
  go_enter Tryz.func104,Tryz.ntmps104
  go_wp2_with fail
  refine (l5Tx_any w0 w2 g cv code hc2 hl).mono ?_
  rintro en w3 ⟨⟨k,f,tO,am,no⟩,rfl,hsm3,hc3,hg3⟩
  simp only [txV]
  have hz3:=hg3.size
  have hf9:f.size<=9:=hsm3.1
  have ht9:tO.size<=9:=hsm3.2.1
  obtain ⟨w4,hw4⟩:∃ x,w3.alloc (.cells #[.int .i64 k,.string f,.string tO,.int .i64 am,.int .i64 no] 35)=x:=⟨_,rfl⟩
  have b4:Below w3.heap.size w3 w4:=by rw [<- hw4];exact (Below.refl _ w3).alloc (Nat.le_refl _) _
  have t4:Blk w4 w3.heap.size 35 [.int .i64 k,.string f,.string tO,.int .i64 am,.int .i64 no]:=by rw [<- hw4];exact Blk.new w3 _ _
  have k4:=(blk_notg5 K2.out hg3 (by omega)).below b4 (by omega)
  have r4:=(blk_notg5 R2.out hg3 (by omega)).below b4 (by omega)
  have hc4:=hc3.below b4 (by omega)
  have HG4:=hide (grw_below (grw_trans HG2.out hg3) b4 (by omega))
  have Hs4:=hide ((Hs2.out.notg hg3).below b4 (Nat.le_refl _))
  have hz4:w4.heap.size=w3.heap.size+1:=by rw [<- hw4];simp
  clear hc2 hc3 hg3 b4 HG2 Hs2 K2 R2 hw1 hw2
  have c1:=k4.cell 1
  simp only [List.getElem?_cons_zero,List.getElem?_cons_succ] at c1
  by_cases hz:l.length=0
  · have hzi:¬ (0:Int) < (l.length:Int):=by omega
    have q0:=t4.cell 0
    have q1:=t4.cell 1
    have q2:=t4.cell 2
    have q3:=t4.cell 3
    have q4:=t4.cell 4
    have p0:=r4.cell 0
    have p1:=r4.cell 1
    have p2:=r4.cell 2
    have p3:=r4.cell 3
    have p4:=r4.cell 4
    have f0:=r4.frozen 0
    have f1:=r4.frozen 1
    have f2:=r4.frozen 2
    have f3:=r4.frozen 3
    have f4:=r4.frozen 4
    simp only [List.getElem?_cons_zero,List.getElem?_cons_succ] at q0 q1 q2 q3 q4 p0 p1 p2 p3 p4
    have HE:=hide (drU_end hc4 HG4.out (show g < w.heap.size+1 by omega) (by omega) (.int .i64 k) (.string f) (.string tO) (.int .i64 am) (.int .i64 no))
    clear t4 k4 r4 hc4 hz hz3 hz4 s1 s2
    go_wp2
    refine bodyPost_ret (v:=txV (k,f,tO,am,no)) (by simp [results,Tryz.f104,go_sem,txV,p0,p1,p2,p3,p4]) rfl ?_
    exact ⟨(k,f,tO,am,no),rfl,hf9,ht9,HE.out.1,HE.out.2⟩
  · have hzi:(0:Int) < (l.length:Int):=by omega
    go_wp2_with fail
    refine (l1Once_any w0 w4 g cv code 5 hc4 hl (by omega) (by omega)).mono ?_
    rintro en w5 ⟨bo,rfl,hc5,hg5⟩
    have hz5:=hg5.size
    have t5:=blk_notg5 t4 hg5 (by omega)
    have k5:=blk_notg5 k4 hg5 (by omega)
    have r5:=blk_notg5 r4 hg5 (by omega)
    have HG5:=hide (grw_trans HG4.out hg5)
    have Hs5:=hide (Hs4.out.notg hg5)
    clear t4 k4 r4 hc4 hg5 c1 hw4
    cases bo
    · have c1:=k5.cell 1
      simp only [List.getElem?_cons_zero,List.getElem?_cons_succ] at c1
      have c1d:w5.drew.cell? ⟨w.heap.size,1,none⟩=some (.slice av l.length cv1):=c1
      have T5:=hide t5
      have K5:=hide k5
      have R5:=hide r5
      have Hc5:=hide hc5.drew
      have BA:=hide (Below.refl w5.heap.size w5).drew
      have BB:=hide ((Below.refl w5.heap.size w5).alloc (Nat.le_refl _) (.cells #[.string { data:=#[] },.int .i64 0,.int .i64 0,.int .i64 0,.slice none 0 0] 105)).drew
      have HcB:=hide (hc5.below BB.out hc5.lt)
      have KB:Hid (Blk (w5.alloc (.cells #[.string { data:=#[] },.int .i64 0,.int .i64 0,.int .i64 0,.slice none 0 0] 105)).drew w5.heap.size 105 [.string { data:=#[] },.int .i64 0,.int .i64 0,.int .i64 0,.slice none 0 0]):=hide (Blk.new w5 _ _)
      have hg5':=hc5.lt
      have c1B:=(k5.below BB.out k5.lt).cell 1
      have c1A:=(k5.below BA.out k5.lt).cell 1
      simp only [List.getElem?_cons_zero,List.getElem?_cons_succ] at c1B c1A
      clear t5 k5 r5 hc5
      go_wp2
      go_region_law ((first
        | (go_simp;go_at_call 68;(with_reducible refine (l1Below_any w0 w5.drew g cv code (l.length:Int) Hc5.out hl (by omega) (by omega)).mono ?_);rintro en w6 ⟨x,rfl,hx,-,hc6,hg6⟩;have hxl:x < l.length:=by { have:=hx hzi;omega };have hxi:(x:Int) < (l.length:Int):=hx hzi;have hs6:=(Hs5.out.below BA.out (Nat.le_refl _)).notg hg6;obtain ⟨ba,oa,lv,rfl,ha1,ha2,ha3,haA,haL⟩:=hs6.1.atP hxl;have sm6:=hsm l[x] (List.getElem_mem _);generalize l[x]=A at haA haL sm6;obtain ⟨An,Af,Ao,As,Al⟩:=A;obtain ⟨g0,g1,g2,g3,g4⟩:=haA;simp only at g0 g1 g2 g3 g4 sm6;obtain ⟨ax,cx,rfl⟩:=haL.shape;have k6:=blk_notg5 (K5.out.below BA.out (by omega)) hg6 (by omega);have t6:=blk_notg5 (T5.out.below BA.out (by omega)) hg6 (by omega);have r6:=blk_notg5 (R5.out.below BA.out (by omega)) hg6 (by omega);have hG6:=grw_trans (grw_below HG5.out BA.out (by omega)) hg6;have hne:w.heap.size ≠ w5.heap.size:=by { omega };have c16:=k6.cell 1;have c17:=(k6.allocD (.cells #[.string { data:=#[] },.int .i64 0,.int .i64 0,.int .i64 0,.slice none 0 0] 105)).cell 1;simp only [List.getElem?_cons_zero,List.getElem?_cons_succ] at c16 c17;have bZ:=(Below.refl w6.heap.size w6).alloc (Nat.le_refl _) (.cells #[.string { data:=#[] },.int .i64 0,.int .i64 0,.int .i64 0,.slice none 0 0] 105);have j0:=(bZ.cell (p:=⟨ba,oa+x * 5,none⟩) ha3).trans g0;have j1:=(bZ.cell (p:=⟨ba,oa+x * 5+1,none⟩) ha3).trans g1;have j2:=(bZ.cell (p:=⟨ba,oa+x * 5+2,none⟩) ha3).trans g2;have j3:=(bZ.cell (p:=⟨ba,oa+x * 5+3,none⟩) ha3).trans g3;have j4:=(bZ.cell (p:=⟨ba,oa+x * 5+4,none⟩) ha3).trans g4)
        | (go_simp;go_at_call 68;(with_reducible refine (l1Below_any w0 (w5.alloc (.cells #[.string { data:=#[] },.int .i64 0,.int .i64 0,.int .i64 0,.slice none 0 0] 105)).drew g cv code (l.length:Int) HcB.out hl (by omega) (by omega)).mono ?_);rintro en w6 ⟨x,rfl,hx,-,hc6,hg6⟩;have hxl:x < l.length:=by { have:=hx hzi;omega };have hxi:(x:Int) < (l.length:Int):=hx hzi;have hs6:=(Hs5.out.below BB.out (Nat.le_refl _)).notg hg6;obtain ⟨ba,oa,lv,rfl,ha1,ha2,ha3,haA,haL⟩:=hs6.1.atP hxl;have sm6:=hsm l[x] (List.getElem_mem _);generalize l[x]=A at haA haL sm6;obtain ⟨An,Af,Ao,As,Al⟩:=A;obtain ⟨g0,g1,g2,g3,g4⟩:=haA;simp only at g0 g1 g2 g3 g4 sm6;obtain ⟨ax,cx,rfl⟩:=haL.shape;have k6:=blk_notg5 (K5.out.below BB.out (by omega)) hg6 (by omega);have t6:=blk_notg5 (T5.out.below BB.out (by omega)) hg6 (by omega);have r6:=blk_notg5 (R5.out.below BB.out (by omega)) hg6 (by omega);have hG6:=grw_trans (grw_below HG5.out BB.out (by omega)) hg6;have hne:w.heap.size ≠ w5.heap.size:=by { omega };have c16:=k6.cell 1;simp only [List.getElem?_cons_zero,List.getElem?_cons_succ] at c16;have kB6:=blk_notg5 KB.out hg6 (by omega);have n0:=kB6.cell 0;have n1:=kB6.cell 1;have n2:=kB6.cell 2;have n3:=kB6.cell 3;have n4:=kB6.cell 4;have m0:=kB6.frozen 0;have m1:=kB6.frozen 1;have m2:=kB6.frozen 2;have m3:=kB6.frozen 3;have m4:=kB6.frozen 4;simp only [List.getElem?_cons_zero,List.getElem?_cons_succ] at n0 n1 n2 n3 n4)))
      all_goals
        have hz35:=T5.out.lt
        have hzw5:=HG5.out.size
        have hzt:=t6.lt
        have hzr:=r6.lt
        first
        | (obtain ⟨W,hW⟩:∃ x,w6.alloc (.cells #[.string An,.int .i64 Af,.int .i64 Ao,.int .i64 As,.slice ax Al.length cx] 105)=x:=⟨_,rfl⟩
           rw [hW]
           have bW:Below w6.heap.size w6 W:=by rw [<- hW];exact (Below.refl _ w6).alloc (Nat.le_refl _) _
           have kA:Blk W w6.heap.size 105 [.string An,.int .i64 Af,.int .i64 Ao,.int .i64 As,.slice ax Al.length cx]:=by rw [<- hW];exact Blk.new w6 _ _
           have tW:=t6.below bW hzt
           have rW:=r6.below bW hzr
           have hcW:=hc6.below bW hc6.lt
           have hGW:=grw_below hG6 bW (by omega)
           have hne3:w6.heap.size ≠ w3.heap.size:=by omega
           clear hW
           generalize w6.heap.size=Ba at kA hne3 ⊢)
        | (obtain ⟨W,hW⟩:∃ x,((((w6.setCell ⟨w5.heap.size,0,none⟩ (.string An)).setCell ⟨w5.heap.size,1,none⟩ (.int .i64 Af)).setCell ⟨w5.heap.size,2,none⟩ (.int .i64 Ao)).setCell ⟨w5.heap.size,3,none⟩ (.int .i64 As)).setCell ⟨w5.heap.size,4,none⟩ (.slice ax Al.length cx)=x:=⟨_,rfl⟩
           rw [hW]
           have bW:Below w5.heap.size w6 W:=by rw [<- hW];exact below_put5 w6 w5.heap.size _ _ _ _ _
           have kA:Blk W w5.heap.size 105 [.string An,.int .i64 Af,.int .i64 Ao,.int .i64 As,.slice ax Al.length cx]:=by rw [<- hW];exact ((((kB6.setD 0 _ (by simp)).setD 1 _ (by simp)).setD 2 _ (by simp)).setD 3 _ (by simp)).setD 4 _ (by simp)
           have tW:=t6.below bW hz35
           have rW:=r6.below bW (by omega)
           have hcW:=hc6.below bW hg5'
           have hGW:=grw_below hG6 bW hzw5
           have hne3:w5.heap.size ≠ w3.heap.size:=by omega
           clear hW
           generalize w5.heap.size=Ba at kA hne3 ⊢)
        have e0:=kA.cell 0
        have f1:=tW.frozen 1
        have y1:=tW.cell 1
        have kA1:=kA.setOther 1 (.string An) hne3
        have tW1:=tW.setD 1 (.string An) (by simp)
        have e2:=kA1.cell 2
        have f4:=tW1.frozen 4
        have y4:=tW1.cell 4
        have tW2:=tW1.setD 4 (.int .i64 Ao) (by simp)
        have rW2:=(rW.setOther 1 (.string An) (show w.heap.size+1 ≠ w3.heap.size by omega)).setOther 4 (.int .i64 Ao) (show w.heap.size+1 ≠ w3.heap.size by omega)
        have bT:Below w3.heap.size W ((W.setCell ⟨w3.heap.size,1,none⟩ (.string An)).setCell ⟨w3.heap.size,4,none⟩ (.int .i64 Ao)):=((Below.refl _ W).setCell (p:=⟨w3.heap.size,1,none⟩) (Nat.le_refl _) _).setCell (p:=⟨w3.heap.size,4,none⟩) (Nat.le_refl _) _
        have q0:=tW2.cell 0
        have q1:=tW2.cell 1
        have q2:=tW2.cell 2
        have q3:=tW2.cell 3
        have q4:=tW2.cell 4
        have p0:=rW2.cell 0
        have p1:=rW2.cell 1
        have p2:=rW2.cell 2
        have p3:=rW2.cell 3
        have p4:=rW2.cell 4
        have v0:=rW2.frozen 0
        have v1:=rW2.frozen 1
        have v2:=rW2.frozen 2
        have v3:=rW2.frozen 3
        have v4:=rW2.frozen 4
        simp only [List.set_cons_zero,List.set_cons_succ,List.getElem?_cons_zero,List.getElem?_cons_succ] at e0 e2 y1 y4 q0 q1 q2 q3 q4 p0 p1 p2 p3 p4
        have HE:=hide (drU_end (hcW.below bT (by omega)) (grw_below hGW bT (by omega)) (show g < w.heap.size+1 by omega) (by omega) (.int .i64 k) (.string An) (.string tO) (.int .i64 am) (.int .i64 Ao))
        clear kA kA1 tW tW1 tW2 rW rW2 hcW hGW bT bW k6 t6 r6 hG6 hg6 hc6 g0 g1 g2 g3 g4
        go_wp2
        refine bodyPost_ret (v:=txV (k,An,tO,am,Ao)) (by simp [results,Tryz.f104,go_sem,txV,p0,p1,p2,p3,p4]) rfl ?_
        exact ⟨(k,An,tO,am,Ao),rfl,sm6,ht9,HE.out.1,HE.out.2⟩
    · have q0:=t5.cell 0
      have q1:=t5.cell 1
      have q2:=t5.cell 2
      have q3:=t5.cell 3
      have q4:=t5.cell 4
      have p0:=r5.cell 0
      have p1:=r5.cell 1
      have p2:=r5.cell 2
      have p3:=r5.cell 3
      have p4:=r5.cell 4
      have f0:=r5.frozen 0
      have f1:=r5.frozen 1
      have f2:=r5.frozen 2
      have f3:=r5.frozen 3
      have f4:=r5.frozen 4
      simp only [List.getElem?_cons_zero,List.getElem?_cons_succ] at q0 q1 q2 q3 q4 p0 p1 p2 p3 p4
      have HE:=hide (drU_end hc5 HG5.out (show g < w.heap.size+1 by omega) (by omega) (.int .i64 k) (.string f) (.string tO) (.int .i64 am) (.int .i64 no))
      clear t5 k5 r5 hc5 hz hz3 hz4 hz5 s1 s2
      go_wp2
      refine bodyPost_ret (v:=txV (k,f,tO,am,no)) (by simp [results,Tryz.f104,go_sem,txV,p0,p1,p2,p3,p4]) rfl ?_
      exact ⟨(k,f,tO,am,no),rfl,hf9,ht9,HE.out.1,HE.out.2⟩
end Go.Proofs.YtohachldbpejpaaGreatDoor
