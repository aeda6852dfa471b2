/- The walk of the law FnExactBodyOk. -/
import Derived.Test.YtohachldbpejpaaGreatDoorZnCtVal
import Derived.Test.YtohachldbpejpaaGreatDoorZnKsOpen
import Derived.Test.YtohachldbpejpaaGreatDoorZnKsSz
import Derived.Test.YtohachldbpejpaaGreatDoorZnLgSpec
import Derived.Test.YtohachldbpejpaaGreatDoorZnBkTo
import Derived.Test.YtohachldbpejpaaGreatDoorZnBoSpec
import Derived.Test.YtohachldbpejpaaGreatDoorZnGhLaid
import Derived.Test.YtohachldbpejpaaGreatDoorZnLgWith
import Derived.Test.YtohachldbpejpaaGreatDoorZnBkSpec
import Derived.WalkKit
import Derived.ProofKit
import Derived.Below
namespace Go.Proofs.YtohachldbpejpaaGreatDoor
open Go.ChangeShapes Go.WideShapes Go.ChangeAt Go.RowKit
set_option linter.unusedVariables false
theorem fewN_ofB {l:List Bk} (h:∀ q ∈ l,FitK q) (hm:totK l<=1048576):∀ b ∈ l,FewK b:=fun b hb=>by
  have f:=h b hb
  have m:=totK_at l b hb
  unfold wgK at m
  exact ⟨by omega,by omega,by omega,by omega,by omega,f.qs,f.ws,f.ts,f.ns,f.ms,f.rs⟩
theorem gdS_lenB {e:Int} {most:Nat}:∀ (ts:List Tx5) (s:List Ac × List Tx5),s.2.length<=most->(ts.foldl (gdS e most) s).2.length<=most
  | [],s,h=>h
  | t :: ts,s,h=>by
    rw [List.foldl_cons]
    refine gdS_lenB ts _ ?_
    unfold gdS
    split
    · exact h
    · split
      · simp;omega
      · exact h
theorem bdA_fewB (e:Int) (z:List Ac) (l:List Bk) (id:Int) (ts:List Tx5) (most:Nat) (hz:z.length<=3999999) (hall:∀ a ∈ z,a.1.size<=maxLen/\a.2.2.2.2.length<=3999999):(bdA e z l id ts most).1.ts.length<=most/\(bdA e z l id ts most).1.nx.length<=3999999:=by
  unfold bdA
  split
  · unfold bdC
    have hg:=gdS_lenB (e:=e) (most:=most) ts (foL e z l (chT l id),[]) (by simp)
    have hfo:=foL_few (e:=e) l (chT l id) z hz hall
    have hga:=gdA_few (e:=e) (l:=foL e z l (chT l id)) ts most hfo.1 hfo.2
    have hne:=neA_few (e:=e) hga.1 hga.2
    split
    · exact ⟨by simp,by simp⟩
    · split
      · exact ⟨hg,Nat.le_trans (setA_len _ _) hne.1⟩
      · exact ⟨hg,by simp⟩
  · exact ⟨by simp,by simp⟩
theorem toBlockX_any (id ep rd:Int) (md:ByteArray) (qr qb:Int) (qw:List ByteArray) (tr:Int) (tw:List ByteArray) (th:List Int) (ts:List Tx5) (en:Bool) (nx:List Vl) (rt:ByteArray) (bv:Bv) (w:World) (hr:RdK w (⟨id,ep,rd,md,qr,qb,qw,tr,tw,th,ts,en,nx,rt⟩:Bk) bv) (hf:FewK (⟨id,ep,rd,md,qr,qb,qw,tr,tw,th,ts,en,nx,rt⟩:Bk)) :
    Calls Tryz.prog 31 #[bkV (⟨id,ep,rd,md,qr,qb,qw,tr,tw,th,ts,en,nx,rt⟩:Bk) bv] w fun e w'=>∃ aq1 cq1 aw1 cw1 ah1 ch1 at1 ct1 an1 cn1,e=.returned (.agg #[.int .i64 id,.int .i64 ep,.int .i64 rd,.string md,.int .i64 qr,.int .i64 qb,.slice aq1 qw.length cq1,.int .i64 tr,.slice aw1 tw.length cw1,.slice ah1 th.length ch1,.slice at1 ts.length ct1,.bool en,.slice an1 nx.length cn1,.string rt])/\OwnK w.heap.size w' (⟨id,ep,rd,md,qr,qb,qw,tr,tw,th,ts,en,nx,rt⟩:Bk) ⟨.slice aq1 qw.length cq1,.slice aw1 tw.length cw1,.slice ah1 th.length ch1,.slice at1 ts.length ct1,.slice an1 nx.length cn1⟩/\Below w.heap.size w w':=by
  refine (toBlock_any (⟨id,ep,rd,md,qr,qb,qw,tr,tw,th,ts,en,nx,rt⟩:Bk) bv w hr hf).mono ?_
  rintro e w' ⟨v',rfl,o1,hb⟩
  obtain ⟨aq1,cq1,aw1,cw1,ah1,ch1,at1,ct1,an1,cn1,rfl⟩:=o1.rd.shapes9
  exact ⟨aq1,cq1,aw1,cw1,ah1,ch1,at1,ct1,an1,cn1,rfl,o1,hb⟩
open Classical in
set_option maxRecDepth 20000 in
set_option maxHeartbeats 8000000 in
theorem fnExactBodyOk_walk (a0:Int) (y0:Value) (z0:List Ac) (a1:Option Addr) (len1 cap1:Nat) (z1:List Bk) (z2:Bk) (y2:Bv) (w:World) (hgl:Gl w) (hgh:Gh w) (w0:RdA w y0 z0/\z0.length<=maxLen/\∀ q ∈ z0,q.1.size<=maxLen/\q.2.2.2.2.length<=maxLen) (w1x:len1=z1.length/\RdKs w (.slice a1 len1 cap1) z1/\z1.length<=maxLen/\∀ q ∈ z1,FitK q) (w2x:RdK w z2 y2/\FitK z2) :
    Calls Tryz.prog 6 #[lgV a0 y0,.slice a1 len1 cap1,bkV z2 y2] w fun e w'=>e=.returned (.bool true)/\Below w.heap.size w w':=by
  obtain ⟨hr,hlm,hsm⟩:=w0
  obtain ⟨rfl,hrt,hlt,hst⟩:=w1x
  obtain ⟨hrb,hfit2⟩:=w2x
  obtain ⟨aq0,cq0,aw0,cw0,ah0,ch0,at0,ct0,an0,cn0,rfl⟩:=hrb.shapes9
  obtain ⟨id,ep,rd,md,qr,qb,qw,tr,tw,th,ts,en,nx,rt⟩:=z2
  simp only at hrb
  obtain ⟨av,cv,rfl⟩:=hr.shape
  have hlm':z0.length<=9223372036854775807:=by unfold maxLen at hlm;omega
  have hsm':∀ a ∈ z0,a.1.size<=9223372036854775807/\a.2.2.2.2.length<=9223372036854775807:=fun a ha=>by have:=hsm a ha;unfold maxLen at this;omega
  simp only [bkV,lgV]
  obtain ⟨w1,hw1⟩:∃ w1,w.alloc (.cells #[.int .i64 a0,.slice av z0.length cv] 64)=w1:=⟨_,rfl⟩
  have hb1:Below w.heap.size w w1:=by rw [<- hw1];exact (Below.refl _ w).alloc (Nat.le_refl _) _
  have s1:w1.heap.size=w.heap.size+1:=by rw [<- hw1];simp
  have k1:Blk w1 w.heap.size 64 [.int .i64 a0,.slice av z0.length cv]:=by rw [<- hw1];exact Blk.new w _ _
  obtain ⟨w1b,hw1b⟩:∃ x,w1.alloc (.cells #[.int .i64 id,.int .i64 ep,.int .i64 rd,.string md,.int .i64 qr,.int .i64 qb,.slice aq0 qw.length cq0,.int .i64 tr,.slice aw0 tw.length cw0,.slice ah0 th.length ch0,.slice at0 ts.length ct0,.bool en,.slice an0 nx.length cn0,.string rt] 71)=x:=⟨_,rfl⟩
  have hb1b:Below w1.heap.size w1 w1b:=by rw [<- hw1b];exact (Below.refl _ w1).alloc (Nat.le_refl _) _
  have j1:Blk w1b (w.heap.size+1) 71 [.int .i64 id,.int .i64 ep,.int .i64 rd,.string md,.int .i64 qr,.int .i64 qb,.slice aq0 qw.length cq0,.int .i64 tr,.slice aw0 tw.length cw0,.slice ah0 th.length ch0,.slice at0 ts.length ct0,.bool en,.slice an0 nx.length cn0,.string rt]:=by rw [<- hw1b,<- s1];exact Blk.new w1 _ _
  have k1b:=k1.below hb1b k1.lt
  have hB1b:Below w.heap.size w w1b:=hb1.trans (hb1b.mono hb1.size)
  have Hz:=hide (szLedger_any a0 _ z0 1048576 w1b (hr.below hB1b (Nat.le_refl _)) (by omega) hlm' hsm')
  have Hzb:=hide (fun (m:Nat) V (hV:RdK V (⟨id,ep,rd,md,qr,qb,qw,tr,tw,th,ts,en,nx,rt⟩:Bk) ⟨.slice aq0 qw.length cq0,.slice aw0 tw.length cw0,.slice ah0 th.length ch0,.slice at0 ts.length ct0,.slice an0 nx.length cn0⟩) (hm:m<=100000000)=>szBlockN_any (⟨id,ep,rd,md,qr,qb,qw,tr,tw,th,ts,en,nx,rt⟩:Bk) ⟨.slice aq0 qw.length cq0,.slice aw0 tw.length cw0,.slice ah0 th.length ch0,.slice at0 ts.length ct0,.slice an0 nx.length cn0⟩ m V hV hm hfit2.q hfit2.w hfit2.h hfit2.t hfit2.n hfit2.qs hfit2.ws hfit2.ts hfit2.ns hfit2.ms hfit2.rs)
  simp only [bkV,lgV] at Hz Hzb
  have Hr:=hide hr
  have Hrt:=hide hrt
  have Hrb:=hide hrb
  have Hsm:=hide hsm
  have Hst:=hide hst
  have Hft:=hide hfit2
  have Hgh:=hide hgh
  have Hgl:=hide hgl
  have Hlt:=hide hlt
  have c0:=k1b.cell 0
  have c1:=k1b.cell 1
  simp only [List.getElem?_cons_zero,List.getElem?_cons_succ] at c0 c1
  clear hr hsm hsm' hlm hgh hgl hrt hst hlt hrb hfit2 k1
  go_enter Tryz.func6,Tryz.ntmps6
  go_wp2_with fail
  refine Hz.out.mono ?_
  rintro e w2a ⟨r,rfl,hfit,hb2a⟩
  have hB2a:Below w.heap.size w w2a:=hB1b.trans (hb2a.mono hB1b.size)
  have k2:=k1b.below hb2a k1b.lt
  have j2:=j1.below hb2a j1.lt
  clear c0 c1 k1b j1
  by_cases hneg:r < 0
  · clear hfit
    go_wp2
    go_ret
    exact ⟨rfl,hB2a⟩
  have hrm:=hfit (by omega)
  obtain ⟨rn,hrn⟩:∃ n:Nat,r=(n:Int):=⟨r.toNat,by omega⟩
  subst hrn
  have Hzt:=hide (szBlockSN_any _ z1 rn w2a (Hrt.out.below hB2a (Nat.le_refl _)) (by omega) Hlt.out Hst.out)
  clear hfit
  go_wp2_with fail
  refine Hzt.out.mono ?_
  rintro e w2b ⟨r2,rfl,hfit,hb2b⟩
  have hB2b:Below w.heap.size w w2b:=hB2a.trans (hb2b.mono hB2a.size)
  replace k2:=k2.below hb2b k2.lt
  replace j2:=j2.below hb2b j2.lt
  clear Hzt
  by_cases hneg2:r2 < 0
  · clear hfit
    go_wp2
    go_ret
    exact ⟨rfl,hB2b⟩
  have hfk:=hfit (by omega)
  obtain ⟨rm,hrm2⟩:∃ n:Nat,r2=(n:Int):=⟨r2.toNat,by omega⟩
  subst hrm2
  have Hzu:=hide (Hzb.out rm w2b (Hrb.out.below hB2b (Nat.le_refl _)) (by omega))
  have d0:=j2.cell 0
  have d1:=j2.cell 1
  have d2:=j2.cell 2
  have d3:=j2.cell 3
  have d4:=j2.cell 4
  have d5:=j2.cell 5
  have d6:=j2.cell 6
  have d7:=j2.cell 7
  have d8:=j2.cell 8
  have d9:=j2.cell 9
  have d10:=j2.cell 10
  have d11:=j2.cell 11
  have d12:=j2.cell 12
  have d13:=j2.cell 13
  simp only [List.getElem?_cons_zero,List.getElem?_cons_succ] at d0 d1 d2 d3 d4 d5 d6 d7 d8 d9 d10 d11 d12 d13
  clear hfit Hzb
  go_wp2_with fail
  refine Hzu.out.mono ?_
  rintro e w2 ⟨r3,rfl,hfit,hb2⟩
  have hB2:Below w.heap.size w w2:=hB2b.trans (hb2.mono hB2b.size)
  replace k2:=k2.below hb2 k2.lt
  replace j2:=j2.below hb2 j2.lt
  clear Hzu
  clear d0 d1 d2 d3 d4 d5 d6 d7 d8 d9 d10 d11 d12 d13
  by_cases hneg3:r3 < 0
  · clear hfit
    go_wp2
    go_ret
    exact ⟨rfl,hB2⟩
  · have hl:=hrm
    have hfu:=hfit (by omega)
    have hl1:z1.length<=1048576:=by omega
    have hlk:totK z1<=1048576:=by omega
    have hfew:=fewN_ofB Hst.out hlk
    have htr:=trS_of Hst.out
    have f:=Hft.out
    have hfb:FewK (⟨id,ep,rd,md,qr,qb,qw,tr,tw,th,ts,en,nx,rt⟩:Bk):=⟨by show qw.length<=_;omega,by show tw.length<=_;omega,by show th.length<=_;omega,by show ts.length<=_;omega,by show nx.length<=_;omega,f.qs,f.ws,f.ts,f.ns,f.ms,f.rs⟩
    have hts:ts.length<=1048576:=by omega
    have hl4:z0.length<=1048576:=by omega
    have hlv:∀ a ∈ z0,a.2.2.2.2.length<=1048576:=fun a ha=>by have h1:=totA_at z0 a ha;unfold wgA at h1;omega
    have hnl3:∀ a ∈ z0,a.1.size<=maxLen/\a.2.2.2.2.length<=3999999:=fun a ha=>⟨(Hsm.out a ha).1,by have:=hlv a ha;omega⟩
    have hbf:=bdA_fewB a0 z0 z1 qb ts ts.length (by omega) hnl3
    have HS:=hide (fun v vt bv w hr hrt hrb=>specBodyOk_any a0 v vt z0 z1 (⟨id,ep,rd,md,qr,qb,qw,tr,tw,th,ts,en,nx,rt⟩:Bk) bv w hr hrt hrb (by omega) hnl3 (by omega) hfew htr hfb)
    have HI:=hide (fun v vt bv w (hgw:Gh w) (hgv:Gl w) hr hrt hrb=>implBodyOk_any a0 v vt z0 z1 (⟨id,ep,rd,md,qr,qb,qw,tr,tw,th,ts,en,nx,rt⟩:Bk) bv w hgw hgv hr hrt hrb (by omega) hnl3 (by omega) hfew htr hfb (by show (bdA a0 z0 z1 qb ts ts.length).1.ts.length<=_;omega) (by show (bdA a0 z0 z1 qb ts ts.length).1.nx.length<=_;omega))
    have HT:=hide (fun v w hr=>toLedger_any a0 v z0 w hr (by omega) (fun a ha=>by have:=hlv a ha;omega))
    have HE:=hide (fun v1 v2 w h1 h2=>eqLedger_any a0 a0 v1 v2 z0 z0 w h1 h2 (by omega) (by omega) (fun a ha=>by have:=hlv a ha;omega) (fun a ha=>by have:=hlv a ha;omega))
    rw [decide_eq_true rfl,decide_eq_true rfl,Bool.true_and] at HE
    have HX:=hide (fun v w hr=>toBlockS_any v z1 w hr (by omega) hfew)
    have HEX:=hide (fun v1 v2 w h1 h2=>eqBlockS_any v1 v2 z1 w h1 h2 (by omega) hfew)
    have HTb:=hide (fun bv w hr=>toBlockX_any id ep rd md qr qb qw tr tw th ts en nx rt bv w hr hfb)
    have HEb:=hide (fun v1 v2 w h1 h2=>eqBlock_any (⟨id,ep,rd,md,qr,qb,qw,tr,tw,th,ts,en,nx,rt⟩:Bk) v1 v2 w h1 h2 hfb)
    generalize boB a0 z0 z1 (⟨id,ep,rd,md,qr,qb,qw,tr,tw,th,ts,en,nx,rt⟩:Bk)=BO at HS HI
    simp only [lgV,bkV] at HS HI HT HE HTb HEb
    clear hfit hfk hfu hlk hfew htr hl hl1 hl4 hlv hnl3 Hsm Hz Hst Hft f hfb hts hbf hrm
    have hd2:Below w2.heap.size w2 w2.drew:=(Below.refl _ w2).drew
    have hB2d:Below w.heap.size w w2.drew:=hB2.drew
    replace k2:=k2.below hd2 k2.lt
    replace j2:=j2.below hd2 j2.lt
    have HSa:Hid (∀ W,Blk W w.heap.size 64 [.int .i64 a0,.slice av z0.length cv]->Blk W (w.heap.size+1) 71 [.int .i64 id,.int .i64 ep,.int .i64 rd,.string md,.int .i64 qr,.int .i64 qb,.slice aq0 qw.length cq0,.int .i64 tr,.slice aw0 tw.length cw0,.slice ah0 th.length ch0,.slice at0 ts.length ct0,.bool en,.slice an0 nx.length cn0,.string rt]->(W.cell? ⟨w.heap.size,0,none⟩=some (.int .i64 a0)/\W.cell? ⟨w.heap.size,1,none⟩=some (.slice av z0.length cv)/\W.cell? ⟨w.heap.size+1,0,none⟩=some (.int .i64 id)/\W.cell? ⟨w.heap.size+1,1,none⟩=some (.int .i64 ep)/\W.cell? ⟨w.heap.size+1,2,none⟩=some (.int .i64 rd)/\W.cell? ⟨w.heap.size+1,3,none⟩=some (.string md)/\W.cell? ⟨w.heap.size+1,4,none⟩=some (.int .i64 qr)/\W.cell? ⟨w.heap.size+1,5,none⟩=some (.int .i64 qb)/\W.cell? ⟨w.heap.size+1,6,none⟩=some (.slice aq0 qw.length cq0)/\W.cell? ⟨w.heap.size+1,7,none⟩=some (.int .i64 tr)/\W.cell? ⟨w.heap.size+1,8,none⟩=some (.slice aw0 tw.length cw0)/\W.cell? ⟨w.heap.size+1,9,none⟩=some (.slice ah0 th.length ch0)/\W.cell? ⟨w.heap.size+1,10,none⟩=some (.slice at0 ts.length ct0)/\W.cell? ⟨w.heap.size+1,11,none⟩=some (.bool en)/\W.cell? ⟨w.heap.size+1,12,none⟩=some (.slice an0 nx.length cn0)/\W.cell? ⟨w.heap.size+1,13,none⟩=some (.string rt))):=hide (fun W h1 h2=>⟨h1.cell 0,h1.cell 1,h2.cell 0,h2.cell 1,h2.cell 2,h2.cell 3,h2.cell 4,h2.cell 5,h2.cell 6,h2.cell 7,h2.cell 8,h2.cell 9,h2.cell 10,h2.cell 11,h2.cell 12,h2.cell 13⟩)
    have hS0:=HSa.out _ k2 j2
    have Kk:=hide k2
    have Kj:=hide j2
    clear k2 j2
    go_wp2
    go_region_held_law (fun w'=>w'.cell? ⟨w.heap.size,0,none⟩=some (.int .i64 a0)/\w'.cell? ⟨w.heap.size,1,none⟩=some (.slice av z0.length cv)/\w'.cell? ⟨w.heap.size+1,0,none⟩=some (.int .i64 id)/\w'.cell? ⟨w.heap.size+1,1,none⟩=some (.int .i64 ep)/\w'.cell? ⟨w.heap.size+1,2,none⟩=some (.int .i64 rd)/\w'.cell? ⟨w.heap.size+1,3,none⟩=some (.string md)/\w'.cell? ⟨w.heap.size+1,4,none⟩=some (.int .i64 qr)/\w'.cell? ⟨w.heap.size+1,5,none⟩=some (.int .i64 qb)/\w'.cell? ⟨w.heap.size+1,6,none⟩=some (.slice aq0 qw.length cq0)/\w'.cell? ⟨w.heap.size+1,7,none⟩=some (.int .i64 tr)/\w'.cell? ⟨w.heap.size+1,8,none⟩=some (.slice aw0 tw.length cw0)/\w'.cell? ⟨w.heap.size+1,9,none⟩=some (.slice ah0 th.length ch0)/\w'.cell? ⟨w.heap.size+1,10,none⟩=some (.slice at0 ts.length ct0)/\w'.cell? ⟨w.heap.size+1,11,none⟩=some (.bool en)/\w'.cell? ⟨w.heap.size+1,12,none⟩=some (.slice an0 nx.length cn0)/\w'.cell? ⟨w.heap.size+1,13,none⟩=some (.string rt)) (first | with_reducible exact hS0 | with_reducible exact hS1 | with_reducible exact hS2 | with_reducible exact hS3 | with_reducible exact hS4) ((first
      | (go_at_call 28;refine (HS.out _ _ _ _ (oT.below (hbX.trans (hbU.mono hbX.size)) (Nat.le_refl _)).rd (oX.below hbU (Nat.le_refl _)).rd oU.rd).mono ?_;rintro e w5 ⟨rfl,hbA⟩;have bb5:=bU.trans (hbA.mono bU.size);have hS4:=HSa.out _ (Kk.out.below bb5 Kk.out.lt) (Kj.out.below bb5 Kj.out.lt))
      | (go_at_call 31;refine (HTb.out _ _ (Hrb.out.below hBX (Nat.le_refl _))).mono ?_;rintro e wU ⟨aqU,cqU,awU,cwU,ahU,chU,atU,ctU,anU,cnU,rfl,oU,hbU⟩;have bU:=bX.trans (hbU.mono bX.size);have hS3:=HSa.out _ (Kk.out.below bU Kk.out.lt) (Kj.out.below bU Kj.out.lt))
      | (go_at_call 30;refine (HX.out _ _ (Hrt.out.below hBT (Nat.le_refl _))).mono ?_;rintro e wX ⟨vX,rfl,oX,hbX⟩;obtain ⟨aX,cX,rfl⟩:=oX.rd.shape;have bX:=hbT.trans (hbX.mono hbT.size);have hBX:Below w.heap.size w wX:=hB2d.trans (bX.mono hB2.size);have hS2:=HSa.out _ (Kk.out.below bX Kk.out.lt) (Kj.out.below bX Kj.out.lt))
      | (go_at_call 29;refine (HT.out _ _ (Hr.out.below hB2d (Nat.le_refl _))).mono ?_;rintro e wT ⟨vT,rfl,oT,hbT⟩;obtain ⟨aT,cT,rfl⟩:=oT.rd.shape;have hBT:Below w.heap.size w wT:=hB2d.trans (hbT.mono hB2.size);have hS1:=HSa.out _ (Kk.out.below hbT Kk.out.lt) (Kj.out.below hbT Kj.out.lt))))
    have k2:=Kk.out
    have j2:=Kj.out
    have hB5:Below w.heap.size w w5:=hB2d.trans (bb5.mono hB2.size)
    replace k2:=k2.below bb5 k2.lt
    replace j2:=j2.below bb5 j2.lt
    clear hS0 hS1 hS2 hS3 hS4 oT oX oU Kk Kj hbT hbX hbU hbA bX bU bb5 hBT hBX
    have c0:=k2.cell 0
    have c1:=k2.cell 1
    simp only [List.getElem?_cons_zero,List.getElem?_cons_succ] at c0 c1
    go_wp2_with fail
    refine (HT.out _ _ (Hr.out.below hB5 (Nat.le_refl _))).mono ?_
    rintro e w6 ⟨v6,rfl,o6,hb6⟩
    have hB6:Below w.heap.size w w6:=hB5.trans (hb6.mono hB5.size)
    replace k2:=k2.below hb6 k2.lt
    replace j2:=j2.below hb6 j2.lt
    clear c0 c1
    obtain ⟨a6,cv6,rfl⟩:=o6.rd.shape
    obtain ⟨w7,hw7⟩:∃ w7,w6.alloc (.cells #[.int .i64 a0,.slice a6 z0.length cv6] 26)=w7:=⟨_,rfl⟩
    have hb7:Below w6.heap.size w6 w7:=by rw [<- hw7];exact (Below.refl _ w6).alloc (Nat.le_refl _) _
    have b7:Blk w7 w6.heap.size 26 [.int .i64 a0,.slice a6 z0.length cv6]:=by rw [<- hw7];exact Blk.new w6 _ _
    have hB7:Below w.heap.size w w7:=hB6.trans (hb7.mono hB6.size)
    replace k2:=k2.below hb7 k2.lt
    replace j2:=j2.below hb7 j2.lt
    replace o6:=o6.below hb7 (Nat.le_refl _)
    go_wp2_with fail
    refine (HX.out _ _ (Hrt.out.below hB7 (Nat.le_refl _))).mono ?_
    rintro e w8 ⟨v8,rfl,o8,hb8⟩
    have hB8:Below w.heap.size w w8:=hB7.trans (hb8.mono hB7.size)
    replace k2:=k2.below hb8 k2.lt
    replace j2:=j2.below hb8 j2.lt
    replace b7:=b7.below hb8 b7.lt
    replace o6:=o6.below hb8 (Nat.le_refl _)
    obtain ⟨a8,cv8,rfl⟩:=o8.rd.shape
    have d0:=j2.cell 0
    have d1:=j2.cell 1
    have d2:=j2.cell 2
    have d3:=j2.cell 3
    have d4:=j2.cell 4
    have d5:=j2.cell 5
    have d6:=j2.cell 6
    have d7:=j2.cell 7
    have d8:=j2.cell 8
    have d9:=j2.cell 9
    have d10:=j2.cell 10
    have d11:=j2.cell 11
    have d12:=j2.cell 12
    have d13:=j2.cell 13
    simp only [List.getElem?_cons_zero,List.getElem?_cons_succ] at d0 d1 d2 d3 d4 d5 d6 d7 d8 d9 d10 d11 d12 d13
    go_wp2_with fail
    refine (HTb.out _ _ (Hrb.out.below hB8 (Nat.le_refl _))).mono ?_
    rintro e w9 ⟨aq9,cq9,aw9,cw9,ah9,ch9,at9,ct9,an9,cn9,rfl,o9,hb9⟩
    have hB9:Below w.heap.size w w9:=hB8.trans (hb9.mono hB8.size)
    replace k2:=k2.below hb9 k2.lt
    replace j2:=j2.below hb9 j2.lt
    replace b7:=b7.below hb9 b7.lt
    replace o6:=o6.below hb9 (Nat.le_refl _)
    replace o8:=o8.below hb9 (Nat.le_refl _)
    clear d0 d1 d2 d3 d4 d5 d6 d7 d8 d9 d10 d11 d12 d13
    obtain ⟨w10,hw10⟩:∃ x,w9.alloc (.cells #[.int .i64 id,.int .i64 ep,.int .i64 rd,.string md,.int .i64 qr,.int .i64 qb,.slice aq9 qw.length cq9,.int .i64 tr,.slice aw9 tw.length cw9,.slice ah9 th.length ch9,.slice at9 ts.length ct9,.bool en,.slice an9 nx.length cn9,.string rt] 50)=x:=⟨_,rfl⟩
    have hb10:Below w9.heap.size w9 w10:=by rw [<- hw10];exact (Below.refl _ w9).alloc (Nat.le_refl _) _
    have b10:Blk w10 w9.heap.size 50 [.int .i64 id,.int .i64 ep,.int .i64 rd,.string md,.int .i64 qr,.int .i64 qb,.slice aq9 qw.length cq9,.int .i64 tr,.slice aw9 tw.length cw9,.slice ah9 th.length ch9,.slice at9 ts.length ct9,.bool en,.slice an9 nx.length cn9,.string rt]:=by rw [<- hw10];exact Blk.new w9 _ _
    have r9:=o9.rd
    clear o9
    have hB10:Below w.heap.size w w10:=hB9.trans (hb10.mono hB9.size)
    replace k2:=k2.below hb10 k2.lt
    replace j2:=j2.below hb10 j2.lt
    replace b7:=b7.below hb10 b7.lt
    replace o6:=o6.below hb10 (Nat.le_refl _)
    replace o8:=o8.below hb10 (Nat.le_refl _)
    replace r9:=r9.below hb10 (Nat.le_refl _)
    have c0:=b7.cell 0
    have c1:=b7.cell 1
    simp only [List.getElem?_cons_zero,List.getElem?_cons_succ] at c0 c1
    have d0:=b10.cell 0
    have d1:=b10.cell 1
    have d2:=b10.cell 2
    have d3:=b10.cell 3
    have d4:=b10.cell 4
    have d5:=b10.cell 5
    have d6:=b10.cell 6
    have d7:=b10.cell 7
    have d8:=b10.cell 8
    have d9:=b10.cell 9
    have d10:=b10.cell 10
    have d11:=b10.cell 11
    have d12:=b10.cell 12
    have d13:=b10.cell 13
    simp only [List.getElem?_cons_zero,List.getElem?_cons_succ] at d0 d1 d2 d3 d4 d5 d6 d7 d8 d9 d10 d11 d12 d13
    go_wp2_with fail
    refine (HI.out _ _ _ _ (Hgh.out.below hB10) (Hgl.out.below hB10 (Nat.le_refl _)) o6.rd o8.rd r9).mono ?_
    rintro e w11 ⟨rfl,hb11⟩
    have hB11:Below w.heap.size w w11:=hB10.trans (hb11.mono hB10.size)
    replace k2:=k2.below hb11 k2.lt
    replace j2:=j2.below hb11 j2.lt
    replace b7:=b7.below hb11 b7.lt
    replace b10:=b10.below hb11 b10.lt
    replace o6:=o6.below hb11 (Nat.le_refl _)
    replace o8:=o8.below hb11 (Nat.le_refl _)
    replace r9:=r9.below hb11 (Nat.le_refl _)
    clear c0 c1
    clear d0 d1 d2 d3 d4 d5 d6 d7 d8 d9 d10 d11 d12 d13
    have hd11:Below w11.heap.size w11 w11.drew:=(Below.refl _ w11).drew
    have hB11d:Below w.heap.size w w11.drew:=hB11.drew
    replace k2:=k2.below hd11 k2.lt
    replace j2:=j2.below hd11 j2.lt
    replace b7:=b7.below hd11 b7.lt
    replace b10:=b10.below hd11 b10.lt
    replace o6:=o6.below hd11 (Nat.le_refl _)
    replace o8:=o8.below hd11 (Nat.le_refl _)
    replace r9:=r9.below hd11 (Nat.le_refl _)
    have HSx:Hid (∀ W,Blk W w.heap.size 64 [.int .i64 a0,.slice av z0.length cv]->Blk W w6.heap.size 26 [.int .i64 a0,.slice a6 z0.length cv6]->(W.cell? ⟨w.heap.size,0,none⟩=some (.int .i64 a0)/\W.cell? ⟨w.heap.size,1,none⟩=some (.slice av z0.length cv)/\W.cell? ⟨w6.heap.size,0,none⟩=some (.int .i64 a0)/\W.cell? ⟨w6.heap.size,1,none⟩=some (.slice a6 z0.length cv6))):=hide (fun W h1 h2=>⟨h1.cell 0,h1.cell 1,h2.cell 0,h2.cell 1⟩)
    have hS10:=HSx.out _ k2 b7
    have Kk:=hide k2
    have Kb:=hide b7
    have Kx:=hide o6
    clear k2 b7 o6
    cases BO <;> go_wp2
    all_goals
      go_region_held_law (fun w'=>w'.cell? ⟨w.heap.size,0,none⟩=some (.int .i64 a0)/\w'.cell? ⟨w.heap.size,1,none⟩=some (.slice av z0.length cv)/\w'.cell? ⟨w6.heap.size,0,none⟩=some (.int .i64 a0)/\w'.cell? ⟨w6.heap.size,1,none⟩=some (.slice a6 z0.length cv6)) (first | with_reducible exact hS10 | with_reducible exact hS11 | with_reducible exact hS12) ((first
        | (go_at_call 32;refine (HE.out _ _ _ (Kx.out.below hb12 (Nat.le_refl _)).rd o12.rd).mono ?_;rintro e w13 ⟨rfl,hb13⟩;have hS12:=HSx.out _ ((Kk.out.below hb12 Kk.out.lt).below hb13 (Kk.out.below hb12 Kk.out.lt).lt) ((Kb.out.below hb12 Kb.out.lt).below hb13 (Kb.out.below hb12 Kb.out.lt).lt))
        | (go_at_call 29;refine (HT.out _ _ (Hr.out.below hB11d (Nat.le_refl _))).mono ?_;rintro e w12 ⟨v12,rfl,o12,hb12⟩;have hsh:=o12.rd.shape;obtain ⟨a12,cv12,hv12⟩:=hsh;subst hv12;have hS11:=HSx.out _ (Kk.out.below hb12 Kk.out.lt) (Kb.out.below hb12 Kb.out.lt))))

    all_goals
      have k2:=Kk.out
      have hB12:Below w.heap.size w w12:=hB11d.trans (hb12.mono hB11.size)
      have hB13:Below w.heap.size w w13:=hB12.trans (hb13.mono hB12.size)
      replace j2:=j2.below hb12 j2.lt
      replace b10:=b10.below hb12 b10.lt
      replace o8:=o8.below hb12 (Nat.le_refl _)
      replace r9:=r9.below hb12 (Nat.le_refl _)
      replace j2:=j2.below hb13 j2.lt
      replace b10:=b10.below hb13 b10.lt
      replace o8:=o8.below hb13 (Nat.le_refl _)
      replace r9:=r9.below hb13 (Nat.le_refl _)
      clear hS10 hS11 hS12 o12 HSx Kk Kb Kx k2
      go_wp2_with fail
      refine (HX.out _ _ (Hrt.out.below hB13 (Nat.le_refl _))).mono ?_
      rintro e w14 ⟨v14,rfl,o14,hb14⟩
      have hB14:Below w.heap.size w w14:=hB13.trans (hb14.mono hB13.size)
      replace j2:=j2.below hb14 j2.lt
      replace b10:=b10.below hb14 b10.lt
      replace o8:=o8.below hb14 (Nat.le_refl _)
      replace r9:=r9.below hb14 (Nat.le_refl _)
      obtain ⟨a14,cv14,rfl⟩:=o14.rd.shape
      go_wp2_with fail
      refine (HEX.out _ _ _ o8.rd o14.rd).mono ?_
      rintro e w15 ⟨rfl,hb15⟩
      have hB15:Below w.heap.size w w15:=hB14.trans (hb15.mono hB14.size)
      replace j2:=j2.below hb15 j2.lt
      replace b10:=b10.below hb15 b10.lt
      replace o8:=o8.below hb15 (Nat.le_refl _)
      replace r9:=r9.below hb15 (Nat.le_refl _)
      clear o14 o8
      have hd15:Below w15.heap.size w15 w15.drew:=(Below.refl _ w15).drew
      have hB15d:Below w.heap.size w w15.drew:=hB15.drew
      replace j2:=j2.below hd15 j2.lt
      replace b10:=b10.below hd15 b10.lt
      replace r9:=r9.below hd15 (Nat.le_refl _)
      have HSy:Hid (∀ W,Blk W (w.heap.size+1) 71 [.int .i64 id,.int .i64 ep,.int .i64 rd,.string md,.int .i64 qr,.int .i64 qb,.slice aq0 qw.length cq0,.int .i64 tr,.slice aw0 tw.length cw0,.slice ah0 th.length ch0,.slice at0 ts.length ct0,.bool en,.slice an0 nx.length cn0,.string rt]->Blk W w9.heap.size 50 [.int .i64 id,.int .i64 ep,.int .i64 rd,.string md,.int .i64 qr,.int .i64 qb,.slice aq9 qw.length cq9,.int .i64 tr,.slice aw9 tw.length cw9,.slice ah9 th.length ch9,.slice at9 ts.length ct9,.bool en,.slice an9 nx.length cn9,.string rt]->(W.cell? ⟨w.heap.size+1,0,none⟩=some (.int .i64 id)/\W.cell? ⟨w.heap.size+1,1,none⟩=some (.int .i64 ep)/\W.cell? ⟨w.heap.size+1,2,none⟩=some (.int .i64 rd)/\W.cell? ⟨w.heap.size+1,3,none⟩=some (.string md)/\W.cell? ⟨w.heap.size+1,4,none⟩=some (.int .i64 qr)/\W.cell? ⟨w.heap.size+1,5,none⟩=some (.int .i64 qb)/\W.cell? ⟨w.heap.size+1,6,none⟩=some (.slice aq0 qw.length cq0)/\W.cell? ⟨w.heap.size+1,7,none⟩=some (.int .i64 tr)/\W.cell? ⟨w.heap.size+1,8,none⟩=some (.slice aw0 tw.length cw0)/\W.cell? ⟨w.heap.size+1,9,none⟩=some (.slice ah0 th.length ch0)/\W.cell? ⟨w.heap.size+1,10,none⟩=some (.slice at0 ts.length ct0)/\W.cell? ⟨w.heap.size+1,11,none⟩=some (.bool en)/\W.cell? ⟨w.heap.size+1,12,none⟩=some (.slice an0 nx.length cn0)/\W.cell? ⟨w.heap.size+1,13,none⟩=some (.string rt)/\W.cell? ⟨w9.heap.size,0,none⟩=some (.int .i64 id)/\W.cell? ⟨w9.heap.size,1,none⟩=some (.int .i64 ep)/\W.cell? ⟨w9.heap.size,2,none⟩=some (.int .i64 rd)/\W.cell? ⟨w9.heap.size,3,none⟩=some (.string md)/\W.cell? ⟨w9.heap.size,4,none⟩=some (.int .i64 qr)/\W.cell? ⟨w9.heap.size,5,none⟩=some (.int .i64 qb)/\W.cell? ⟨w9.heap.size,6,none⟩=some (.slice aq9 qw.length cq9)/\W.cell? ⟨w9.heap.size,7,none⟩=some (.int .i64 tr)/\W.cell? ⟨w9.heap.size,8,none⟩=some (.slice aw9 tw.length cw9)/\W.cell? ⟨w9.heap.size,9,none⟩=some (.slice ah9 th.length ch9)/\W.cell? ⟨w9.heap.size,10,none⟩=some (.slice at9 ts.length ct9)/\W.cell? ⟨w9.heap.size,11,none⟩=some (.bool en)/\W.cell? ⟨w9.heap.size,12,none⟩=some (.slice an9 nx.length cn9)/\W.cell? ⟨w9.heap.size,13,none⟩=some (.string rt))):=hide (fun W h1 h2=>⟨h1.cell 0,h1.cell 1,h1.cell 2,h1.cell 3,h1.cell 4,h1.cell 5,h1.cell 6,h1.cell 7,h1.cell 8,h1.cell 9,h1.cell 10,h1.cell 11,h1.cell 12,h1.cell 13,h2.cell 0,h2.cell 1,h2.cell 2,h2.cell 3,h2.cell 4,h2.cell 5,h2.cell 6,h2.cell 7,h2.cell 8,h2.cell 9,h2.cell 10,h2.cell 11,h2.cell 12,h2.cell 13⟩)
      have hS15:=HSy.out _ j2 b10
      have Kj:=hide j2
      have Kc:=hide b10
      clear j2 b10
      go_wp2
      go_region_held_law (fun w'=>w'.cell? ⟨w.heap.size+1,0,none⟩=some (.int .i64 id)/\w'.cell? ⟨w.heap.size+1,1,none⟩=some (.int .i64 ep)/\w'.cell? ⟨w.heap.size+1,2,none⟩=some (.int .i64 rd)/\w'.cell? ⟨w.heap.size+1,3,none⟩=some (.string md)/\w'.cell? ⟨w.heap.size+1,4,none⟩=some (.int .i64 qr)/\w'.cell? ⟨w.heap.size+1,5,none⟩=some (.int .i64 qb)/\w'.cell? ⟨w.heap.size+1,6,none⟩=some (.slice aq0 qw.length cq0)/\w'.cell? ⟨w.heap.size+1,7,none⟩=some (.int .i64 tr)/\w'.cell? ⟨w.heap.size+1,8,none⟩=some (.slice aw0 tw.length cw0)/\w'.cell? ⟨w.heap.size+1,9,none⟩=some (.slice ah0 th.length ch0)/\w'.cell? ⟨w.heap.size+1,10,none⟩=some (.slice at0 ts.length ct0)/\w'.cell? ⟨w.heap.size+1,11,none⟩=some (.bool en)/\w'.cell? ⟨w.heap.size+1,12,none⟩=some (.slice an0 nx.length cn0)/\w'.cell? ⟨w.heap.size+1,13,none⟩=some (.string rt)/\w'.cell? ⟨w9.heap.size,0,none⟩=some (.int .i64 id)/\w'.cell? ⟨w9.heap.size,1,none⟩=some (.int .i64 ep)/\w'.cell? ⟨w9.heap.size,2,none⟩=some (.int .i64 rd)/\w'.cell? ⟨w9.heap.size,3,none⟩=some (.string md)/\w'.cell? ⟨w9.heap.size,4,none⟩=some (.int .i64 qr)/\w'.cell? ⟨w9.heap.size,5,none⟩=some (.int .i64 qb)/\w'.cell? ⟨w9.heap.size,6,none⟩=some (.slice aq9 qw.length cq9)/\w'.cell? ⟨w9.heap.size,7,none⟩=some (.int .i64 tr)/\w'.cell? ⟨w9.heap.size,8,none⟩=some (.slice aw9 tw.length cw9)/\w'.cell? ⟨w9.heap.size,9,none⟩=some (.slice ah9 th.length ch9)/\w'.cell? ⟨w9.heap.size,10,none⟩=some (.slice at9 ts.length ct9)/\w'.cell? ⟨w9.heap.size,11,none⟩=some (.bool en)/\w'.cell? ⟨w9.heap.size,12,none⟩=some (.slice an9 nx.length cn9)/\w'.cell? ⟨w9.heap.size,13,none⟩=some (.string rt)) (first | with_reducible exact hS15 | with_reducible exact hS16 | with_reducible exact hS17) ((first
        | (go_at_call 34;refine (HEb.out _ _ _ (r9.below hb16 (Nat.le_refl _)) o16.rd).mono ?_;rintro e w17 ⟨rfl,hb17⟩;have hS17:=HSy.out _ ((Kj.out.below hb16 Kj.out.lt).below hb17 (Kj.out.below hb16 Kj.out.lt).lt) ((Kc.out.below hb16 Kc.out.lt).below hb17 (Kc.out.below hb16 Kc.out.lt).lt))
        | (go_at_call 31;refine (HTb.out _ _ (Hrb.out.below hB15d (Nat.le_refl _))).mono ?_;rintro e w16 ⟨aq16,cq16,aw16,cw16,ah16,ch16,at16,ct16,an16,cn16,rfl,o16,hb16⟩;have hS16:=HSy.out _ (Kj.out.below hb16 Kj.out.lt) (Kc.out.below hb16 Kc.out.lt))))
      have hB16:Below w.heap.size w w16:=hB15d.trans (hb16.mono hB15.size)
      have hB17:Below w.heap.size w w17:=hB16.trans (hb17.mono hB16.size)
      go_wp2
      go_ret
      exact ⟨rfl,hB17⟩
end Go.Proofs.YtohachldbpejpaaGreatDoor
