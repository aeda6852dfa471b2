/- Numbers held against their marks. -/
import Derived.Test.YtamljhcmiphdgaaGreatDoorZvNdOkS
import Derived.Test.YtamljhcmiphdgaaGreatDoorZvPlAddS
set_option maxRecDepth 20000
set_option maxHeartbeats 8000000
namespace Go.Proofs.YtamljhcmiphdgaaGreatDoor
open Go.RowKit
set_option linter.unusedVariables false
theorem aZ_ {X:World} {a:Act} {R:Ending->World->Prop} {F:List Value} (g:Nat) (bk:Value) (h:X.rangeAt g 0 F) (h4:a.tmps[4]?.getD undef=.pointer (some ⟨g,0,none⟩)) (h5:a.tmps[5]?.getD undef=bk) (hs:(Tryz.prog.info? 55).map (·.size)=some F.length) (hd:a.defers=[]) (hR:R (.returned (.tuple #[.agg F.toArray,bk])) X):bodyPost Tryz.prog Tryz.f6 R .ret a X:=by
 have hl:=run_loadVar_mid (P:=Tryz.prog) X g 0 55 F _ h Tryz.underlying55 rfl hs
 refine bodyPost_ret (v:=.tuple #[.agg F.toArray,bk]) ?_ hd hR
 simp [results,Tryz.f6,h4,h5,asAddr,hl]
theorem dW_ (p:Nd) (u:Nv) (t:Tx5) (w:World) (hrd:RdNd w p u) (hfw:FewNd p) (hft:FitNd p) (hl1:p.tt.length<=3999999) (hl2:∀ q ∈ p.ps,q.bs.length<=3999999) (hl3:p.pl.length<=3999999) (hall:∀ a ∈ p.pl,a.2.1.size<=maxLen/\a.2.2.1.size<=maxLen) (ht:t.2.1.size<=maxLen/\t.2.2.1.size<=maxLen) :
  Calls Tryz.prog 6 #[noV p u,txV t] w fun e w'=>∃ u',e=.returned (.tuple #[noV (sbP p t) u',.bool (sbO p t)])/\(∀ W,Kept w.heap.size w'.heap.size w' W->RdNd W (sbP p t) u')/\Below w.heap.size w w':=by
 have HC:=a_ (fun V (hV:Below w.heap.size w V)=>ef_ p u V (hrd.below hV (nr_ _)) hfw hl1 hl2)
 have HN:=a_ (fun V (hV:Below w.heap.size w V)=>dD_ p u V (hrd.below hV (nr_ _)) hfw hft)
 have HA:=a_ (fun V (hV:Below w.heap.size w V)=>fs_ u.p p.pl t V (hrd.kp.below hV (nr_ _)) hl3 hall ht)
 have HQ1:=a_ (fun (h:nodB p=false)=>(show sbP p t=p/\sbO p t=false from ⟨by unfold sbP;rw [if_neg (by rw [h];decide)],by unfold sbO;rw [h];rfl⟩))
 have HQ2:=a_ (fun (h:nodB p=true)=>(show sbP p t={ p with pl:=(poS p.pl t).1 }/\sbO p t=(poS p.pl t).2 from ⟨by unfold sbP;rw [if_pos h],by unfold sbO;rw [h];rfl⟩))
 rw [show noV p u=.agg (noC p u).toArray from rfl] at HC HN ⊢
 have hcl:(noC p u).length=20:=rfl
 have hP:(noC p u)[18]?=some u.p:=rfl
 clear hrd hfw hft hl1 hl2 hl3 hall ht
 generalize noC p u=P at HC HN hcl hP ⊢
 generalize u.p=up at hP HA
 generalize sbP p t=Q at HQ1 HQ2 ⊢
 generalize sbO p t=bb at HQ1 HQ2 ⊢
 generalize poS p.pl t=pq at HA HQ2
 have ZP:=a_ (show (Tryz.prog.info? 55).map (·.size)=some P.length from by rw [hcl];exact Tryz.infoC20)
 clear hcl
 obtain ⟨kd,fm,tn,am,nc⟩:=t
 simp only [txV] at HA ⊢
 obtain ⟨S0,hS0⟩:∃ x,((w.alloc (.cells P.toArray 55)).alloc (.cells #[.int .i64 kd,.string fm,.string tn,.int .i64 am,.int .i64 nc] 59)).alloc (.cells noZ_ 55)=x:=⟨_,rfl⟩
 have b0':Below w.heap.size w S0:=by rw [<- hS0];exact (((br_ _ w).alloc (nr_ _) _).alloc (by simp) _).alloc (by simp;omega) _
 have K0:=a_ (show Blk S0 w.heap.size 55 P from by rw [<- hS0];exact (Blk.new w _ _).below (((br_ (w.heap.size+1) _).alloc (by simp) _).alloc (by simp) _) (by omega))
 have X0:=a_ (show Blk S0 (w.heap.size+1) 59 [.int .i64 kd,.string fm,.string tn,.int .i64 am,.int .i64 nc] from by rw [<- hS0];exact (Blk.newR _ _ [.int .i64 kd,.string fm,.string tn,.int .i64 am,.int .i64 nc] _ (by simp)).below ((br_ (w.heap.size+2) _).alloc (by simp) _) (by omega))
 have R0:=a_ (show Blk S0 (w.heap.size+2) 55 noY_ from by rw [<- hS0];exact Blk.newR _ _ noY_ _ (by simp))
 have B0:=a_ b0'
 have HL:=a_ (c_ K0.out)
 have HPh:=a_ hP
 clear b0' hP
 go_enter Tryz.func6,Tryz.ntmps6
 go_upto_region 1 with fail
 (try rw [hS0])
 clear hS0
 go_wp2_with (first
  | (refine wpList_load_mid rfl 55 _ rfl w.heap.size 0 rfl P _ HL.out Tryz.underlying55 rfl ZP.out ?_)
  | fail)
 refine (HC.out S0 B0.out).mono ?_
 rintro e w2 ⟨u2,rfl,o2,hb2⟩
 have hO:=o2
 rw [show noV p u2=.agg (noC p u2).toArray from rfl]
 have hGl:(noC p u2).length=20:=rfl
 have OG:=a_ (all_oneCell_toArray (List.all_eq_true.1 (F_ o2.rd)))
 have hz:=R0.out.lt
 have E0:noV p u2=.agg (noC p u2).toArray:=rfl
 have E1:∀ l q,noV { p with pl:=l } { u2 with p:=q }=.agg ((noC p u2).set 18 q).toArray:=fun _ _=>rfl
 have Ec:∀ l q,noC { p with pl:=l } { u2 with p:=q }=(noC p u2).set 18 q:=fun _ _=>rfl
 generalize noC p u2=G at hGl OG E0 E1 Ec ⊢
 have HEc:=a_ Ec
 clear Ec
 have HE0:=a_ E0
 have HE1:=a_ E1
 have ZG:=a_ (show (Tryz.prog.info? 55).map (·.size)=some G.toArray.size from by rw [show G.toArray.size=20 from by simpa using hGl];exact Tryz.infoC20)
 have b2:=B0.out.trans (hb2.mono B0.out.size)
 obtain ⟨wA,hwA⟩:∃ x,w2.alloc (.cells noZ_ 55)=x:=⟨_,rfl⟩
 have kA:Blk wA w2.heap.size 55 noY_:=by rw [<- hwA];exact Blk.new w2 _ _
 have bA:Below w2.heap.size w2 wA:=by rw [<- hwA];exact (br_ _ w2).alloc (nr_ _) _
 have HTh:=a_ (show wA.there w2.heap.size 0 G.toArray.size from by rw [show G.toArray.size=20 from by simpa using hGl];exact kA.there rfl)
 obtain ⟨w3,hw3⟩:∃ x,wA.setCells w2.heap.size 0 G.toArray.toList=x:=⟨_,rfl⟩
 have b3:Below w2.heap.size w2 w3:=by rw [<- hw3];exact bA.trans (e_ (B:=w2.heap.size) (nr_ _) _ _ 0)
 have G3:=a_ (show Blk w3 w2.heap.size 55 G from by rw [<- hw3];exact q_ kA (by rw [List.toList_toArray,hGl];rfl))
 have K3:=a_ (K0.out.below (hb2.trans (b3.mono hb2.size)) K0.out.lt)
 have X3:=a_ (X0.out.below (hb2.trans (b3.mono hb2.size)) X0.out.lt)
 have R3:=a_ (R0.out.below (hb2.trans (b3.mono hb2.size)) R0.out.lt)
 have B3:=a_ (b2.trans (b3.mono b2.size))
 have O3:=a_ (hO.kept (Kept.of_below b3 (nr_ _)))
 have HL3:=a_ (c_ K3.out)
 have HwA:=a_ hwA
 have Hw3:=a_ hw3
 have HGl:=a_ hGl
 have hs2:=hb2.size
 clear o2 hO hb2 b2 kA bA b3 hwA hw3 R0 B0 K0 X0 HL HC hGl E0 E1
 go_wp2_with (first
  | (refine wpList_load_mid rfl 55 _ rfl w.heap.size 0 rfl P _ HL3.out Tryz.underlying55 rfl ZP.out ?_)
  | ((try rw [HwA.out]);refine wpList_store_mid rfl 55 _ _ rfl w2.heap.size 0 G.toArray rfl rfl HTh.out ZG.out OG.out ?_;rw [Hw3.out])
  | fail)
 refine (HN.out w3 B3.out).mono ?_
 rintro e w4 ⟨rfl,hb4⟩
 have G4:=a_ (G3.out.below hb4 G3.out.lt)
 have R4:=a_ (R3.out.below hb4 R3.out.lt)
 have X4:=a_ (X3.out.below hb4 X3.out.lt)
 have K4:=a_ (K3.out.below hb4 K3.out.lt)
 have B4:=a_ (B3.out.trans (hb4.mono B3.out.size))
 have O4:=a_ (O3.out.kept (Kept.of_below hb4 (nr_ _)))
 clear hb4 G3 R3 B3 O3 K3 X3 HL3 HN HTh HwA Hw3 ZP
 cases hok:nodB p
 ·obtain ⟨q1,q2⟩:=HQ1.out hok
  subst q1 q2
  have HLG:=a_ (c_ G4.out)
  have HTf:=a_ (show w4.there (w.heap.size+1+1) 0 G.toArray.size from by rw [show G.toArray.size=20 from by simpa using HGl.out];exact R4.out.there rfl)
  have HX:=a_ (show Blk (w4.setCells (w.heap.size+2) 0 G) (w.heap.size+2) 55 G from q_ R4.out (by rw [HGl.out];rfl))
  have FO:=a_ (O4.out.kept (Kept.setCs w4 0 G (.inl (show w.heap.size+2 < S0.heap.size from hz))))
  have Sz:=a_ (And.intro G4.out.lt (e_ (B:=w.heap.size) (show w.heap.size<=w.heap.size+2 by omega) G w4 0).size)
  have FB:=a_ (B4.out.trans (e_ (B:=w.heap.size) (show w.heap.size<=w.heap.size+2 by omega) G w4 0))
  clear G4 R4 B4 O4 K4 X4 HQ1 HQ2 HA HPh
  go_wp2_with (first
   | (refine wpList_load_mid rfl 55 _ rfl w2.heap.size 0 rfl G _ HLG.out Tryz.underlying55 rfl (by simpa using ZG.out) ?_)
   | (refine wpList_store_mid rfl 55 _ _ rfl (w.heap.size+1+1) 0 G.toArray rfl rfl HTf.out ZG.out OG.out ?_)
   | fail)
  (try simp only [List.toList_toArray])
  refine aZ_ (F:=G) (w.heap.size+2) (.bool false) (c_ HX.out) (by rfl) (by rfl) (by simpa using ZG.out) rfl ?_
  exact ⟨u2,by rw [HE0.out],fun W hk=>(FO.out.kept (hk.mono (by omega) (Nat.le_trans (Nat.le_of_lt Sz.out.1) Sz.out.2))).rd,FB.out⟩
 ·obtain ⟨q1,q2⟩:=HQ2.out hok
  subst q1 q2
  have c18:=(K4.out.cell 18).trans HPh.out
  have d0:=X4.out.cell 0
  have d1:=X4.out.cell 1
  have d2:=X4.out.cell 2
  have d3:=X4.out.cell 3
  have d4:=X4.out.cell 4
  simp only [gz_,gs_] at d0 d1 d2 d3 d4
  have HA4:=a_ (HA.out w4 B4.out)
  clear HA HQ1 HQ2 HPh K4 X4
  go_wp2_with fail
  refine HA4.out.mono ?_
  rintro e w5 ⟨v',rfl,o5,hb5⟩
  obtain ⟨av,cv,hsh⟩:=o5.rd.shape
  subst hsh
  have g5:=G4.out.below hb5 G4.out.lt
  have r5:=R4.out.below hb5 R4.out.lt
  have hg4:=G4.out.lt
  have x18:=g5.cell 18
  rw [List.getElem?_eq_getElem (by rw [HGl.out];omega)] at x18
  have f18:=g5.frozen 18
  generalize G[18]'(by rw [HGl.out];omega)=gx at x18
  obtain ⟨w6,hw6⟩:∃ x,w5.setCell ⟨w2.heap.size,18,none⟩ (.slice av pq.1.length cv)=x:=⟨_,rfl⟩
  obtain ⟨H,hH⟩:∃ x,G.set 18 (.slice av pq.1.length cv)=x:=⟨_,rfl⟩
  have hHl:H.length=20:=by rw [<- hH];simp [HGl.out]
  have k6:Blk w6 w2.heap.size 55 H:=by rw [<- hw6,<- hH];exact g5.setC 18 _
  have p6:Oth (fun g=>g=w2.heap.size) w5 w6:=by rw [<- hw6];exact (Oth.refl (fun g=>g=w2.heap.size) w5).set (S:=fun g=>g=w2.heap.size) rfl 18 _
  have r6:Blk w6 (w.heap.size+2) 55 noY_:=(p6.block _ r5.lt (fun e=>by have e9:w.heap.size+2=w2.heap.size:=e;omega)).trans r5
  have B6:=a_ ((B4.out.trans (hb5.mono B4.out.size)).trans (p6.below (B:=w.heap.size) (fun k e=>by have e9:k=w2.heap.size:=e;omega) (Nat.le_trans B4.out.size hb5.size)))
  have O6:=a_ ((O4.out.kept (Kept.of_below hb5 (nr_ _))).kept (Kept.of_oth p6 (fun k h1 h2 e=>by have e9:k=w2.heap.size:=e;omega)))
  have I6:=a_ ((InT.of o5).kept (Kept.of_oth p6 (fun k h1 h2 e=>by have e9:k=w2.heap.size:=e;omega)))
  have HLG:=a_ (c_ k6)
  have HTf:=a_ (show w6.there (w.heap.size+1+1) 0 H.toArray.size from by rw [show H.toArray.size=20 from by simpa using hHl];exact r6.there rfl)
  have HX:=a_ (show Blk (w6.setCells (w.heap.size+2) 0 H) (w.heap.size+2) 55 H from q_ r6 (by rw [hHl];rfl))
  have FO:=a_ (O6.out.kept (Kept.setCs w6 0 H (.inl (show w.heap.size+2 < S0.heap.size from hz))))
  have FI:=a_ (I6.out.kept (Kept.setCs w6 0 H (.inl (show w.heap.size+2 < w4.heap.size by omega))))
  have Sz:=a_ (And.intro hg4 (And.intro hb5.size (Nat.le_trans p6.size (e_ (B:=w.heap.size) (show w.heap.size<=w.heap.size+2 by omega) H w6 0).size)))
  have FB:=a_ (B6.out.trans (e_ (B:=w.heap.size) (show w.heap.size<=w.heap.size+2 by omega) H w6 0))
  have FE:=a_ (show noV { p with pl:=pq.1 } { u2 with p:=.slice av pq.1.length cv }=.agg H.toArray from by rw [HE1.out,hH])
  have ZH:=a_ (show (Tryz.prog.info? 55).map (·.size)=some H.toArray.size from by rw [show H.toArray.size=20 from by simpa using hHl];exact Tryz.infoC20)
  have OH:=a_ (all_oneCell_toArray (cs:=H) (List.all_eq_true.1 (by rw [<- hH,<- HEc.out pq.1];exact F_ (dC_ FO.out.rd FI.out.rd))))
  have Hw6:=a_ hw6
  clear c18 d0 d1 d2 d3 d4 hw6 hH k6 p6 r6 r5 g5 o5 hb5 O4 B4 G4 R4 O6 I6 B6 HA4
  go_wp2_with (first
   | (refine wpList_load_mid rfl 55 _ rfl w2.heap.size 0 rfl H _ HLG.out Tryz.underlying55 rfl (by simpa using ZH.out) ?_)
   | ((try rw [Hw6.out]);refine wpList_store_mid rfl 55 _ _ rfl (w.heap.size+1+1) 0 H.toArray rfl rfl HTf.out ZH.out OH.out ?_)
   | ((try rw [Hw6.out]);refine wpList_load_mid rfl 55 _ rfl w2.heap.size 0 rfl H _ HLG.out Tryz.underlying55 rfl (by simpa using ZH.out) ?_)
   | fail)
  (try simp only [List.toList_toArray])
  refine aZ_ (F:=H) (w.heap.size+2) (.bool pq.2) (c_ HX.out) (by rfl) (by rfl) (by simpa using ZH.out) rfl ?_
  exact ⟨{ u2 with p:=.slice av pq.1.length cv },by rw [FE.out],fun W hk=>dC_ (FO.out.kept (hk.mono (by omega) (by obtain ⟨q1,q2,q3⟩:=Sz.out;have q4:w5.heap.size<=(w6.setCells (w.heap.size+1+1) 0 H).heap.size:=q3;omega))).rd (FI.out.kept (hk.mono (by omega) (by obtain ⟨q1,q2,q3⟩:=Sz.out;have q4:w5.heap.size<=(w6.setCells (w.heap.size+1+1) 0 H).heap.size:=q3;omega))).rd,FB.out⟩
open Go.RowKit Go.Sort
theorem aI_ (v:Value) (k n:Nat) (w:World) (hr:RdI w v (mkI k n)) (hl:n<=10000000) (hk:k<=100000000) (hk0:0 < k) :
  Calls Tryz.prog 67 #[v,.int .i64 (k:Int)] w fun e w'=>e=.returned (.int .i64 ((k+n:Nat):Int))/\Below w.heap.size w w':=by
 have hML:=bi_ k n
 have hMA:=ix_ k n
 generalize hMd:mkI k n=M at hML hMA hr
 clear hMd
 rcases hr with ⟨a,cap,rfl,rfl,-⟩ | ⟨b,off,cap,h0,rfl,h1,h2,h3,h4⟩
 ·simp at hML
  subst hML
  clear hMA
  go_enter Tryz.func67,Tryz.ntmps67
  go_wp2
  refine wp_loop_rounds 1 ?_
  rw [rounds_succ]
  go_wp2
  go_ret
  exact ⟨rfl,br_ _ _⟩
 ·have HMA:=a_ hMA
  have hMl:n<=M.length:=by omega
  have hMg:M.length<=n:=by omega
  have H4:=a_ h4
  clear hML hMA h4
  go_enter Tryz.func67,Tryz.ntmps67
  go_wp2
  go_loopw [1,5] (fun kv iv wr=>∃ j:Nat,j<=n/\iv=.int .i64 (j:Int)/\kv=.int .i64 ((k+j:Nat):Int)/\wr=w) (fun _ iv _=>n - (intOf iv).toNat)
  case atStart=>exact ⟨0,Nat.zero_le _,rfl,rfl,rfl⟩
  case round =>
   obtain ⟨j,hj,rfl,rfl,rfl⟩:=hrel
   by_cases hlt:j < n
   ·have hjM:j < M.length:=by omega
    have hc0:=H4.out j hjM
    obtain ⟨K,hK⟩:∃ K:Nat,k+j=K:=⟨_,rfl⟩
    have hK2:K<=150000000:=by omega
    rw [HMA.out j hjM,hK] at hc0
    rw [hK]
    have HK:=a_ hK
    have hli:(j:Int) < (M.length:Int):=by omega
    clear hK
    go_wp2
    go_roundw
    case rel=>exact ⟨j+1,by omega,by go_num,by rw [show k+(j+1)=K+1 from by have:=HK.out;omega];go_num,by first | trivial | rfl⟩
    case measure=>simp [intOf];omega
   ·have e:j=n:=by omega
    have He:=a_ e
    clear e
    go_wp2
    go_ret
    exact ⟨h_ (by rw [<- He.out]),br_ _ _⟩
end Go.Proofs.YtamljhcmiphdgaaGreatDoor
