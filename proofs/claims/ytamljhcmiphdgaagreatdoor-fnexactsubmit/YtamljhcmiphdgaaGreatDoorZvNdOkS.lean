/- The model's NodeOk, of any node. -/
import Derived.Test.YtamljhcmiphdgaaGreatDoorZvNdSubT
import Derived.Test.YtamljhcmiphdgaaGreatDoorZvNdSubP
set_option maxRecDepth 20000
set_option maxHeartbeats 16000000
namespace Go.Proofs.YtamljhcmiphdgaaGreatDoor
open Go.RowKit
set_option linter.unusedVariables false
theorem hN_ {w:World} {b o:Nat} {cs ds:List Value} (h:w.rangeAt b o (cs ++ ds)):w.rangeAt b o cs:=fun j v hv=>h j v (by rw [List.getElem?_append_left (List.getElem?_eq_some_iff.1 hv).1];exact hv)
theorem dk_ (TB:Nat) (t:Tx5) (p:Nd) (u:Nv) (b0:Addr) (w:World) (hrd:RdNd w p u) (hfw:FewNd p) (hft:FitNd p) (hge:Gc w b0) (hG:0 < w.heap.size) (hT:Blk w TB 59 (txC t)) (hl3:p.pl.length<=3999999) (hall:∀ a ∈ p.pl,a.2.1.size<=maxLen/\a.2.2.1.size<=maxLen) (ht:t.2.1.size<=maxLen/\t.2.2.1.size<=maxLen) :
  Calls Tryz.prog 36 #[noV p u,.func (.func 37) #[] #[.pointer (some ⟨TB,0,none⟩)]] w fun e w'=>∃ u',e=.returned (.tuple #[.agg (noC (sbP p t) u' ++ tT4).toArray,.bool (sbO p t)])/\RdNd w' (sbP p t) u'/\Below w.heap.size w w':=by
 cases h:nodB p
 ·have e1:sbP p t=p:=by unfold sbP;rw [if_neg (by rw [h];decide)]
  have e2:sbO p t=false:=by unfold sbO;rw [h];rfl
  rw [e1,e2]
  refine (dt_ TB p u b0 w hrd hfw hft hge hG h).mono ?_
  rintro e w' ⟨rfl,hb⟩
  exact ⟨u,rfl,hrd.below hb (nr_ _),hb⟩
 ·cases h2:(poS p.pl t).2
  ·have e1:sbP p t={ p with pl:=p.pl }:=by unfold sbP;rw [if_pos h,poS_no h2]
   have e2:sbO p t=false:=by unfold sbO;rw [h,h2];rfl
   rw [e1,e2]
   refine (cW_ TB t p u b0 w hrd hfw hft hge hG hT hl3 hall ht h h2).mono ?_
   rintro e w' ⟨rfl,hb⟩
   exact ⟨u,rfl,hrd.below hb (nr_ _),hb⟩
  ·have e1:sbP p t={ p with pl:=(poS p.pl t).1 }:=by unfold sbP;rw [if_pos h]
   have e2:sbO p t=true:=by unfold sbO;rw [h,h2];rfl
   rw [e1,e2]
   refine (dq_ TB t p u b0 w hrd hfw hft hge hG hT hl3 hall ht h h2).mono ?_
   rintro e w' ⟨v',rfl,hi,hb⟩
   exact ⟨{ u with p:=v' },rfl,dC_ (hrd.below hb (nr_ _)) hi.rd,hb⟩
theorem dM_ {X:World} {a:Act} {R:Ending->World->Prop} {F:List Value} (g:Nat) (bk:Value) (h:X.rangeAt g 0 F) (h4:a.tmps[4]?.getD undef=.pointer (some ⟨g,0,none⟩)) (h5:a.tmps[5]?.getD undef=bk) (hs:(Tryz.prog.info? 55).map (·.size)=some F.length) (hd:a.defers=[]) (hR:R (.returned (.tuple #[.agg F.toArray,bk])) X):bodyPost Tryz.prog Tryz.f9 R .ret a X:=by
 have hl:=run_loadVar_mid (P:=Tryz.prog) X g 0 55 F _ h Tryz.underlying55 rfl hs
 refine bodyPost_ret (v:=.tuple #[.agg F.toArray,bk]) ?_ hd hR
 simp [results,Tryz.f9,h4,h5,asAddr,hl]
theorem ee_ (p:Nd) (u:Nv) (t:Tx5) (b0:Addr) (w:World) (hrd:RdNd w p u) (hfw:FewNd p) (hft:FitNd p) (hge:Gc w b0) (hG:0 < w.heap.size) (hl1:p.tt.length<=3999999) (hl2:∀ q ∈ p.ps,q.bs.length<=3999999) (hl3:p.pl.length<=3999999) (hall:∀ a ∈ p.pl,a.2.1.size<=maxLen/\a.2.2.1.size<=maxLen) (ht:t.2.1.size<=maxLen/\t.2.2.1.size<=maxLen) :
  Calls Tryz.prog 9 #[noV p u,txV t] w fun e w'=>∃ u',e=.returned (.tuple #[noV (sbP p t) u',.bool (sbO p t)])/\OwnNd w.heap.size w'.heap.size w' (sbP p t) u'/\Below w.heap.size w w':=by
 have HT:=a_ (fun V TB (hV:Below w.heap.size w V) (hTB:Blk V TB 59 (txC t))=>dk_ TB t p u b0 V (hrd.below hV (nr_ _)) hfw hft (hge.below hV hG) (Nat.lt_of_lt_of_le hG hV.size) hTB hl3 hall ht)
 have HC:=a_ (fun u1 V (h:RdNd V (sbP p t) u1)=>eb_ (sbP p t) u1 V h (cX_ t hfw hl3) (by rw [sb_tt];exact hl1) (by rw [sb_ps];exact hl2))
 rw [show noV p u=.agg (noC p u).toArray from rfl] at HT ⊢
 have hcl:(noC p u).length=20:=rfl
 clear hrd hfw hft hge hl1 hl2 hl3 hall ht
 generalize sbP p t=Q at HT HC ⊢
 generalize sbO p t=bb at HT ⊢
 generalize noC p u=P at HT hcl ⊢
 have ZP:=a_ (show (Tryz.prog.info? 55).map (·.size)=some P.length from by rw [hcl];exact Tryz.infoC20)
 clear hcl
 obtain ⟨kd,fm,tn,am,nc⟩:=t
 simp only [txC,txV] at HT ⊢
 obtain ⟨S0,hS0⟩:∃ x,((w.alloc (.cells P.toArray 55)).alloc (.cells #[.int .i64 kd,.string fm,.string tn,.int .i64 am,.int .i64 nc] 59)).alloc (.cells noZ_ 55)=x:=⟨_,rfl⟩
 have b0':Below w.heap.size w S0:=by rw [<- hS0];exact (((br_ _ w).alloc (nr_ _) _).alloc (by simp) _).alloc (by simp;omega) _
 have K0:=a_ (show Blk S0 w.heap.size 55 P from by rw [<- hS0];exact (Blk.new w _ _).below (((br_ (w.heap.size+1) _).alloc (by simp) _).alloc (by simp) _) (by omega))
 have X0:=a_ (show Blk S0 (w.heap.size+1) 59 [.int .i64 kd,.string fm,.string tn,.int .i64 am,.int .i64 nc] from by rw [<- hS0];exact (Blk.newR _ _ [.int .i64 kd,.string fm,.string tn,.int .i64 am,.int .i64 nc] _ (by simp)).below ((br_ (w.heap.size+2) _).alloc (by simp) _) (by omega))
 have R0:=a_ (show Blk S0 (w.heap.size+2) 55 noY_ from by rw [<- hS0];exact Blk.newR _ _ noY_ _ (by simp))
 have B0:=a_ b0'
 have HL:=a_ (c_ K0.out)
 have hmf:∀ (fn:Fn) (first cap:Array Value) (w:World),(Instr.makeFunc fn first cap).run Tryz.prog w=.ok (.func fn first cap) w:=fun _ _ _ _=>rfl
 clear b0' K0
 go_enter Tryz.func9,Tryz.ntmps9
 go_upto_region 1 with fail
 (try rw [hS0])
 clear hS0
 go_wp2_with (first
  | (refine wpList_load_mid rfl 55 _ rfl w.heap.size 0 rfl P _ HL.out Tryz.underlying55 rfl ZP.out ?_)
  | fail)
 refine (HT.out S0 (w.heap.size+1) B0.out X0.out).mono ?_
 rintro e w2 ⟨u1,rfl,r1,hb2⟩
 have R2:=a_ (R0.out.below hb2 R0.out.lt)
 have b2:=B0.out.trans (hb2.mono B0.out.size)
 have hCl:(noC Q u1).length=20:=rfl
 have hC1:(noC Q u1 ++ tT4).all (·.oneCell')=true:=by
  rw [List.all_append,F_ r1]
  rfl
 have C4:=a_ (fun V (hV:Below w2.heap.size w2 V)=>HC.out u1 V (r1.below hV (nr_ _)))
 rw [show noV Q u1=.agg (noC Q u1).toArray from rfl] at C4
 clear r1 HC X0
 generalize noC Q u1=C at hCl hC1 C4 ⊢
 obtain ⟨G,hGG⟩:∃ x,C ++ tT4=x:=⟨_,rfl⟩
 have hGl:G.length=24:=by rw [<- hGG,List.length_append,hCl];rfl
 rw [hGG] at hC1
 have OG:=a_ (all_oneCell_toArray (cs:=G) (List.all_eq_true.1 hC1))
 have ZG:=a_ (show (Tryz.prog.info? 91).map (·.size)=some G.toArray.size from by rw [show G.toArray.size=24 from by simpa using hGl];exact Tryz.infoT24)
 have ZC:=a_ (show (Tryz.prog.info? 55).map (·.size)=some C.length from by rw [hCl];exact Tryz.infoC20)
 have HGl:=a_ hGl
 have HGG:=a_ hGG
 rw [hGG]
 clear hC1 hCl hGl hGG
 obtain ⟨wA,hwA⟩:∃ x,w2.alloc (.cells #[.string { data:=#[] },.int .i64 0,.int .i64 0,.slice none 0 0,.slice none 0 0,.slice none 0 0,.int .i64 0,.int .i64 0,.int .i64 0,.int .i64 0,.slice none 0 0,.int .i64 0,.slice none 0 0,.slice none 0 0,.int .i64 0,.slice none 0 0,.slice none 0 0,.slice none 0 0,.slice none 0 0,.slice none 0 0,.slice none 0 0,.slice none 0 0,.slice none 0 0,.bool false] 91)=x:=⟨_,rfl⟩
 have kA:Blk wA w2.heap.size 91 [.string { data:=#[] },.int .i64 0,.int .i64 0,.slice none 0 0,.slice none 0 0,.slice none 0 0,.int .i64 0,.int .i64 0,.int .i64 0,.int .i64 0,.slice none 0 0,.int .i64 0,.slice none 0 0,.slice none 0 0,.int .i64 0,.slice none 0 0,.slice none 0 0,.slice none 0 0,.slice none 0 0,.slice none 0 0,.slice none 0 0,.slice none 0 0,.slice none 0 0,.bool false]:=by rw [<- hwA];exact Blk.new w2 _ _
 have bA:Below w2.heap.size w2 wA:=by rw [<- hwA];exact (br_ _ w2).alloc (nr_ _) _
 have HTh:=a_ (show wA.there w2.heap.size 0 G.toArray.size from by rw [show G.toArray.size=24 from by simpa using HGl.out];exact kA.there rfl)
 obtain ⟨w3,hw3⟩:∃ x,wA.setCells w2.heap.size 0 G.toArray.toList=x:=⟨_,rfl⟩
 have k3:Blk w3 w2.heap.size 91 G:=by rw [<- hw3];exact q_ kA (by rw [List.toList_toArray,HGl.out];rfl)
 have b3:Below w2.heap.size w2 w3:=by rw [<- hw3];exact bA.trans (e_ (B:=w2.heap.size) (nr_ _) _ _ 0)
 have RG:=a_ (show w3.rangeAt w2.heap.size 0 C from hN_ (by rw [HGG.out];exact c_ k3))
 have R3:=a_ (R2.out.below b3 R2.out.lt)
 have B3:=a_ (b2.trans (b3.mono b2.size))
 have C5:=a_ (C4.out w3 b3)
 have HwA:=a_ hwA
 have Hw3:=a_ hw3
 clear hb2 b2 kA bA k3 b3 hwA hw3 R0 B0 R2 HL HT C4
 go_wp2_with (first
  | (refine cB_ 55 _ rfl w2.heap.size 0 rfl C _ RG.out Tryz.underlying55 rfl ZC.out (by rfl) ?_)
  | ((try rw [HwA.out]);refine wpList_store_mid rfl 91 _ _ rfl w2.heap.size 0 G.toArray rfl rfl HTh.out ZG.out OG.out ?_;rw [Hw3.out])
  | fail)
 refine C5.out.mono ?_
 rintro e w4 ⟨u4,rfl,o4,hb4⟩
 rw [show noV Q u4=.agg (noC Q u4).toArray from rfl]
 have HFV:=a_ (show noV Q u4=.agg (noC Q u4).toArray from rfl)
 have hz3:=R3.out.lt
 have r4:=R3.out.below hb4 hz3
 have hFl:(noC Q u4).length=20:=rfl
 have OF:=a_ (all_oneCell_toArray (List.all_eq_true.1 (F_ o4.rd)))
 have FO:=a_ (fun F=>o4.kept (Kept.setCs w4 0 F (.inl (show w.heap.size+2 < w3.heap.size by omega))))
 have FB:=a_ (fun F=>(B3.out.trans (hb4.mono B3.out.size)).trans (e_ (B:=w.heap.size) (show w.heap.size<=w.heap.size+2 by omega) F w4 0))
 have sz4:=hb4.size
 have szw:=B3.out.size
 generalize noC Q u4=F at hFl OF HFV ⊢
 have HX:=a_ (show Blk (w4.setCells (w.heap.size+2) 0 F) (w.heap.size+2) 55 F from q_ r4 (by rw [hFl];rfl))
 have HTf:=a_ (show w4.there (w.heap.size+1+1) 0 F.toArray.size from by rw [show F.toArray.size=20 from by simpa using hFl];exact r4.there rfl)
 have ZF:=a_ (show (Tryz.prog.info? 55).map (·.size)=some F.length from by rw [hFl];exact Tryz.infoC20)
 have FZ:=a_ (show (w4.setCells (w.heap.size+2) 0 F).heap.size=w4.heap.size from P_ _ F _ 0)
 clear o4 hb4 r4 R3 hFl RG HTh HwA Hw3 C5
 go_wp2_with (first
  | (refine wpList_store_mid rfl 55 _ _ rfl (w.heap.size+1+1) 0 F.toArray rfl rfl HTf.out (by simpa using ZF.out) OF.out ?_)
  | fail)
 (try simp only [List.toList_toArray])
 refine dM_ (F:=F) (w.heap.size+2) (.bool bb) (c_ HX.out) (by rfl) (by rfl) ZF.out rfl ?_
 refine ⟨u4,by rw [<- HFV.out],?_,FB.out F⟩
 show OwnNd w.heap.size (w4.setCells (w.heap.size+2) 0 F).heap.size (w4.setCells (w.heap.size+2) 0 F) Q u4
 rw [FZ.out]
 exact (FO.out F).wide szw (nr_ _)
theorem Oth.thenB {S:Nat->Prop} {w0 w w':World} (h:Oth S w0 w) (hb:Below w0.heap.size w w'):Oth S w0 w' :=
 ⟨hb.os.trans h.os,hb.tape.trans h.tape,hb.output.trans h.output,Nat.le_trans h.size hb.size,fun k hk hn=>(hb.block k hk).trans (h.block k hk hn)⟩
theorem dP_ {X:World} {a:Act} {R:Ending->World->Prop} {F:List Value} (g:Nat) (h:X.rangeAt g 0 F) (h2:a.tmps[2]?.getD undef=.pointer (some ⟨g,0,none⟩)) (hs:(Tryz.prog.info? 55).map (·.size)=some F.length) (hd:a.defers=[]) (hR:R (.returned (.agg F.toArray)) X):bodyPost Tryz.prog Tryz.f23 R .ret a X:=by
 have hl:=run_loadVar_mid (P:=Tryz.prog) X g 0 55 F _ h Tryz.underlying55 rfl hs
 refine bodyPost_ret (v:=.agg F.toArray) ?_ hd hR
 simp [results,Tryz.f23,h2,asAddr,hl]
theorem ef_ (p:Nd) (u:Nv) (w:World) (hr:RdNd w p u) (hf:FewNd p) (hl1:p.tt.length<=3999999) (hl2:∀ q ∈ p.ps,q.bs.length<=3999999) :
  Calls Tryz.prog 23 #[noV p u] w fun e w'=>∃ u',e=.returned (noV p u')/\OwnNd w.heap.size w'.heap.size w' p u'/\Below w.heap.size w w':=by
 have hnq:=hf.nq
 have hfq:=hf.fq
 have hna:=hf.na
 have hns:=hf.ns
 have hnt:=hf.nt
 have hnw:=hf.nw
 have hnx:=hf.nx
 have hnh:=hf.nh
 have hnv:=hf.nv
 have hng:=hf.ng
 have hnd:=hf.nd
 have hnp:=hf.np
 have hfa:=hf.fa
 have hft:=hf.ft
 clear hf
 obtain ⟨nm,ep,be,la,st,tt,rd,vd,hr,hb,hw,tr,tw,th,ld,vo,go,dn,pl,ps⟩:=p
 obtain ⟨ya,ys,yt,yw,yx,yh,yv,yg,yd,yp,yq⟩:=u
 obtain ⟨hya,hys,hyt,hyw,hyx,hyh,hyv,hyg,hyd,hyp,hyq⟩:=hr
 simp only at *
 obtain ⟨ada,cpa,rfl⟩:=hya.shape
 obtain ⟨ads,cps,rfl⟩:=hys.shape
 obtain ⟨adt,cpt,rfl⟩:=hyt.shape
 obtain ⟨adw,cpw,rfl⟩:=hyw.shape
 obtain ⟨adx,cpx,rfl⟩:=hyx.shape
 obtain ⟨adh,cph,rfl⟩:=hyh.shape
 obtain ⟨adv,cpv,rfl⟩:=hyv.shape
 obtain ⟨adg,cpg,rfl⟩:=hyg.shape
 obtain ⟨add,cpd,rfl⟩:=hyd.shape
 obtain ⟨adp,cpp,rfl⟩:=hyp.shape
 obtain ⟨adq,cpq,rfl⟩:=hyq.shape
 simp only [noV]
 have EA:=a_ (fun V (hV:Below w.heap.size w V)=>dB_ be (.slice ada la.length cpa) la V (hya.below hV (nr_ _)) hna hfa)
 have EB:=a_ (fun V (hV:Below w.heap.size w V)=>aT_ (.slice adt tt.length cpt) tt V (hyt.below hV (nr_ _)) (by omega) hft)
 have EQ:=a_ (fun V (hV:Below w.heap.size w V)=>an_ hr hb (.slice adw hw.length cpw) hw V (hyw.below hV (nr_ _)) hnw)
 have ET:=a_ (fun V (hV:Below w.heap.size w V)=>aU_ tr (.slice adx tw.length cpx) (.slice adh th.length cph) tw th V (hyx.below hV (nr_ _)) (hyh.below hV (nr_ _)) hnx hnh)
 have Rs:=a_ (fun V (hV:Below w.heap.size w V)=>hys.below hV (nr_ _))
 have Rv:=a_ (fun V (hV:Below w.heap.size w V)=>hyv.below hV (nr_ _))
 have Rg:=a_ (fun V (hV:Below w.heap.size w V)=>hyg.below hV (nr_ _))
 have Rd:=a_ (fun V (hV:Below w.heap.size w V)=>hyd.below hV (nr_ _))
 have Rp:=a_ (fun V (hV:Below w.heap.size w V)=>hyp.below hV (nr_ _))
 have HYq:=a_ hyq
 simp only [lgV,qcV,tcV] at *
 clear hya hyt hyw hyx hyh hys hyv hyg hyd hyp hyq hfa hft
 have b1:Below (w.heap.size+1) (w.alloc (.cells #[.string nm,.int .i64 ep,.int .i64 be,.slice ada la.length cpa,.slice ads st.length cps,.slice adt tt.length cpt,.int .i64 rd,.int .i64 vd,.int .i64 hr,.int .i64 hb,.slice adw hw.length cpw,.int .i64 tr,.slice adx tw.length cpx,.slice adh th.length cph,.int .i64 ld,.slice adv vo.length cpv,.slice adg go.length cpg,.slice add dn.length cpd,.slice adp pl.length cpp,.slice adq ps.length cpq] 55)) ((w.alloc (.cells #[.string nm,.int .i64 ep,.int .i64 be,.slice ada la.length cpa,.slice ads st.length cps,.slice adt tt.length cpt,.int .i64 rd,.int .i64 vd,.int .i64 hr,.int .i64 hb,.slice adw hw.length cpw,.int .i64 tr,.slice adx tw.length cpx,.slice adh th.length cph,.int .i64 ld,.slice adv vo.length cpv,.slice adg go.length cpg,.slice add dn.length cpd,.slice adp pl.length cpp,.slice adq ps.length cpq] 55)).alloc (.cells noZ_ 55)):=(br_ _ _).alloc (by simp) _
 have KA:=(Blk.new w 55 [.string nm,.int .i64 ep,.int .i64 be,.slice ada la.length cpa,.slice ads st.length cps,.slice adt tt.length cpt,.int .i64 rd,.int .i64 vd,.int .i64 hr,.int .i64 hb,.slice adw hw.length cpw,.int .i64 tr,.slice adx tw.length cpx,.slice adh th.length cph,.int .i64 ld,.slice adv vo.length cpv,.slice adg go.length cpg,.slice add dn.length cpd,.slice adp pl.length cpp,.slice adq ps.length cpq]).below b1 (by omega)
 have HA:=a_ (c_ KA)
 obtain ⟨T3,hT3⟩:∃ x,((w.alloc (.cells #[.string nm,.int .i64 ep,.int .i64 be,.slice ada la.length cpa,.slice ads st.length cps,.slice adt tt.length cpt,.int .i64 rd,.int .i64 vd,.int .i64 hr,.int .i64 hb,.slice adw hw.length cpw,.int .i64 tr,.slice adx tw.length cpx,.slice adh th.length cph,.int .i64 ld,.slice adv vo.length cpv,.slice adg go.length cpg,.slice add dn.length cpd,.slice adp pl.length cpp,.slice adq ps.length cpq] 55)).alloc (.cells noZ_ 55)).alloc (.cells noZ_ 55)=x:=⟨_,rfl⟩
 have C9:Tg 55 55 noY_ [.string nm,.int .i64 ep,.int .i64 be,.slice ada la.length cpa,.slice ads st.length cps,.slice adt tt.length cpt,.int .i64 rd,.int .i64 vd,.int .i64 hr,.int .i64 hb,.slice adw hw.length cpw,.int .i64 tr,.slice adx tw.length cpx,.slice adh th.length cph,.int .i64 ld,.slice adv vo.length cpv,.slice adg go.length cpg,.slice add dn.length cpd,.slice adp pl.length cpp,.slice adq ps.length cpq] w T3 noY_:=by
  rw [<- hT3]
  exact ⟨(Blk.new w _ _).below (((br_ (w.heap.size+1) _).alloc (by simp) _).alloc (by simp) _) (by omega),(Blk.newR _ _ noY_ _ (by simp)).below ((br_ (w.heap.size+2) _).alloc (by simp) _) (by omega),Blk.newR _ _ noY_ _ (by simp),(((br_ _ w).alloc (nr_ _) _).alloc (by simp) _).alloc (by simp;omega) _⟩
 have HZ:=a_ (C9.o.there (n:=20) rfl)
 obtain ⟨S0,hS0⟩:∃ x,T3.setCells (w.heap.size+2) 0 [.string nm,.int .i64 ep,.int .i64 be,.slice ada la.length cpa,.slice ads st.length cps,.slice adt tt.length cpt,.int .i64 rd,.int .i64 vd,.int .i64 hr,.int .i64 hb,.slice adw hw.length cpw,.int .i64 tr,.slice adx tw.length cpx,.slice adh th.length cph,.int .i64 ld,.slice adv vo.length cpv,.slice adg go.length cpg,.slice add dn.length cpd,.slice adp pl.length cpp,.slice adq ps.length cpq]=x:=⟨_,rfl⟩
 have C0:=a_ (show Tg 55 55 noY_ [.string nm,.int .i64 ep,.int .i64 be,.slice ada la.length cpa,.slice ads st.length cps,.slice adt tt.length cpt,.int .i64 rd,.int .i64 vd,.int .i64 hr,.int .i64 hb,.slice adw hw.length cpw,.int .i64 tr,.slice adx tw.length cpx,.slice adh th.length cph,.int .i64 ld,.slice adv vo.length cpv,.slice adg go.length cpg,.slice add dn.length cpd,.slice adp pl.length cpp,.slice adq ps.length cpq] w S0 [.string nm,.int .i64 ep,.int .i64 be,.slice ada la.length cpa,.slice ads st.length cps,.slice adt tt.length cpt,.int .i64 rd,.int .i64 vd,.int .i64 hr,.int .i64 hb,.slice adw hw.length cpw,.int .i64 tr,.slice adx tw.length cpx,.slice adh th.length cph,.int .i64 ld,.slice adv vo.length cpv,.slice adg go.length cpg,.slice add dn.length cpd,.slice adp pl.length cpp,.slice adq ps.length cpq] from by
  rw [<- hS0]
  exact ⟨C9.p.sets (by omega) 0 _,C9.r.sets (by omega) 0 _,q_ C9.o rfl,C9.b.trans (e_ (B:=w.heap.size) (show w.heap.size<=w.heap.size+2 by omega) _ _ 0)⟩)
 clear b1 KA C9
 have HT3:=a_ hT3
 have HS0:=a_ hS0
 clear hT3 hS0
 go_enter Tryz.func23,Tryz.ntmps23
 go_upto_region 2 with (first
  | (refine wpList_load_mid rfl 55 _ rfl w.heap.size 0 rfl [.string nm,.int .i64 ep,.int .i64 be,.slice ada la.length cpa,.slice ads st.length cps,.slice adt tt.length cpt,.int .i64 rd,.int .i64 vd,.int .i64 hr,.int .i64 hb,.slice adw hw.length cpw,.int .i64 tr,.slice adx tw.length cpx,.slice adh th.length cph,.int .i64 ld,.slice adv vo.length cpv,.slice adg go.length cpg,.slice add dn.length cpd,.slice adp pl.length cpp,.slice adq ps.length cpq] _ HA.out Tryz.underlying55 rfl Tryz.infoC20 ?_)
  | ((try rw [HT3.out]);refine wpList_store_mid rfl 55 _ _ rfl (w.heap.size+2) 0 #[.string nm,.int .i64 ep,.int .i64 be,.slice ada la.length cpa,.slice ads st.length cps,.slice adt tt.length cpt,.int .i64 rd,.int .i64 vd,.int .i64 hr,.int .i64 hb,.slice adw hw.length cpw,.int .i64 tr,.slice adx tw.length cpx,.slice adh th.length cph,.int .i64 ld,.slice adv vo.length cpv,.slice adg go.length cpg,.slice add dn.length cpd,.slice adp pl.length cpp,.slice adq ps.length cpq] rfl rfl HZ.out (by kernel_rfl) (all_oneCell_toArray (cs:=[.string nm,.int .i64 ep,.int .i64 be,.slice ada la.length cpa,.slice ads st.length cps,.slice adt tt.length cpt,.int .i64 rd,.int .i64 vd,.int .i64 hr,.int .i64 hb,.slice adw hw.length cpw,.int .i64 tr,.slice adx tw.length cpx,.slice adh th.length cph,.int .i64 ld,.slice adv vo.length cpv,.slice adg go.length cpg,.slice add dn.length cpd,.slice adp pl.length cpp,.slice adq ps.length cpq]) (List.all_eq_true.1 rfl)) ?_;rw [HS0.out])
  | fail)
 clear HA HZ HT3 HS0
 have p2:=C0.out.p.cell 2
 have p3:=C0.out.p.cell 3
 simp only [gz_,gs_] at p2 p3
 go_wp2_with fail
 refine (EA.out S0 C0.out.b).mono ?_
 rintro e w1 ⟨v1,rfl,o1,hb1⟩
 obtain ⟨bda,bpa,rfl⟩:=o1.rd.shape
 have G1:=C0.out.call hb1
 have q2:=G1.o.cell 2
 have g2:=G1.o.frozen 2
 have q3:=G1.o.cell 3
 have g3:=G1.o.frozen 3
 simp only [gz_,gs_] at q2 q3
 clear EA p2 p3
 go_upto_region 3 with fail
 obtain ⟨S1,hS1⟩:∃ x,((w1).setCell ⟨w.heap.size+2,2,none⟩ (.int .i64 be)).setCell ⟨w.heap.size+2,3,none⟩ (.slice bda la.length bpa)=x:=⟨_,rfl⟩
 have C1:=a_ (show Tg 55 55 noY_ [.string nm,.int .i64 ep,.int .i64 be,.slice ada la.length cpa,.slice ads st.length cps,.slice adt tt.length cpt,.int .i64 rd,.int .i64 vd,.int .i64 hr,.int .i64 hb,.slice adw hw.length cpw,.int .i64 tr,.slice adx tw.length cpx,.slice adh th.length cph,.int .i64 ld,.slice adv vo.length cpv,.slice adg go.length cpg,.slice add dn.length cpd,.slice adp pl.length cpp,.slice adq ps.length cpq] w S1 [.string nm,.int .i64 ep,.int .i64 be,.slice bda la.length bpa,.slice ads st.length cps,.slice adt tt.length cpt,.int .i64 rd,.int .i64 vd,.int .i64 hr,.int .i64 hb,.slice adw hw.length cpw,.int .i64 tr,.slice adx tw.length cpx,.slice adh th.length cph,.int .i64 ld,.slice adv vo.length cpv,.slice adg go.length cpg,.slice add dn.length cpd,.slice adp pl.length cpp,.slice adq ps.length cpq] from by rw [<- hS1];exact ((G1.put 2 _).put 3 _))
 have P1:=a_ (show Oth (fun g=>g=w.heap.size+2) S0 S1 from by rw [<- hS1];exact ((z_ hb1 2 _).set (S:=fun g=>g=w.heap.size+2) rfl 3 _))
 have N1:=a_ (show w1.heap.size=S1.heap.size from by rw [<- hS1];simp)
 have Oa:=a_ (show OwnX S0.heap.size S1.heap.size S1 (.slice bda la.length bpa) la from by rw [<- N1.out,<- hS1];exact ((OwnA.ox o1)).kept ((Kept.set _ 2 _ (.inl (by have:=C0.out.lt;omega))).trans (Kept.set _ 3 _ (.inl (by have:=C0.out.lt;omega)))))
 (try rw [hS1])
 clear G1 hb1 o1 q2 g2 q3 g3 hS1
 have p4:=C1.out.p.cell 4
 simp only [gz_,gs_] at p4
 have pA2:=(C1.out.p.below ((br_ S1.heap.size S1).alloc (nr_ _) (.cells #[] 152)) C1.out.p.lt).cell 4
 simp only [gz_,gs_] at pA2
 go_upto_region 4 with (first
  | (at_builtin;refine dl_ S1 rfl _ _ rfl (.slice ads st.length cps) st rfl rfl (Rs.out S1 C1.out.b) hns ?_;intro v2 w2 o2 hb2;obtain ⟨bds,bps,hv2⟩:=o2.rd.shape;subst hv2;have G2:=C1.out.call hb2;have q4:=G2.o.cell 4;have g4:=G2.o.frozen 4;simp only [gz_,gs_] at q4)
  | fail)
 clear pA2 p4 Rs
 obtain ⟨S2,hS2⟩:∃ x,(w2).setCell ⟨w.heap.size+2,4,none⟩ (.slice bds st.length bps)=x:=⟨_,rfl⟩
 have C2:=a_ (show Tg 55 55 noY_ [.string nm,.int .i64 ep,.int .i64 be,.slice ada la.length cpa,.slice ads st.length cps,.slice adt tt.length cpt,.int .i64 rd,.int .i64 vd,.int .i64 hr,.int .i64 hb,.slice adw hw.length cpw,.int .i64 tr,.slice adx tw.length cpx,.slice adh th.length cph,.int .i64 ld,.slice adv vo.length cpv,.slice adg go.length cpg,.slice add dn.length cpd,.slice adp pl.length cpp,.slice adq ps.length cpq] w S2 [.string nm,.int .i64 ep,.int .i64 be,.slice bda la.length bpa,.slice bds st.length bps,.slice adt tt.length cpt,.int .i64 rd,.int .i64 vd,.int .i64 hr,.int .i64 hb,.slice adw hw.length cpw,.int .i64 tr,.slice adx tw.length cpx,.slice adh th.length cph,.int .i64 ld,.slice adv vo.length cpv,.slice adg go.length cpg,.slice add dn.length cpd,.slice adp pl.length cpp,.slice adq ps.length cpq] from by rw [<- hS2];exact (G2.put 4 _))
 have P2:=a_ (show Oth (fun g=>g=w.heap.size+2) S1 S2 from by rw [<- hS2];exact (z_ hb2 4 _))
 have N2:=a_ (show w2.heap.size=S2.heap.size from by rw [<- hS2];simp)
 have Os:=a_ (show InV S1.heap.size S2.heap.size S2 (.slice bds st.length bps) st from by rw [<- N2.out,<- hS2];exact (o2).kept (Kept.set _ 4 _ (.inl (by have:=C1.out.lt;omega))))
 (try rw [hS2])
 clear G2 hb2 o2 q4 g4 hS2
 have p5:=C2.out.p.cell 5
 simp only [gz_,gs_] at p5
 go_wp2_with fail
 refine (EB.out S2 C2.out.b).mono ?_
 rintro e w3 ⟨v3,rfl,o3,hb3⟩
 obtain ⟨bdt,bpt,rfl⟩:=o3.rd.shape
 have G3:=C2.out.call hb3
 have q5:=G3.o.cell 5
 have g5:=G3.o.frozen 5
 simp only [gz_,gs_] at q5
 clear EB p5
 go_upto_region 5 with fail
 obtain ⟨S3,hS3⟩:∃ x,(w3).setCell ⟨w.heap.size+2,5,none⟩ (.slice bdt tt.length bpt)=x:=⟨_,rfl⟩
 have C3:=a_ (show Tg 55 55 noY_ [.string nm,.int .i64 ep,.int .i64 be,.slice ada la.length cpa,.slice ads st.length cps,.slice adt tt.length cpt,.int .i64 rd,.int .i64 vd,.int .i64 hr,.int .i64 hb,.slice adw hw.length cpw,.int .i64 tr,.slice adx tw.length cpx,.slice adh th.length cph,.int .i64 ld,.slice adv vo.length cpv,.slice adg go.length cpg,.slice add dn.length cpd,.slice adp pl.length cpp,.slice adq ps.length cpq] w S3 [.string nm,.int .i64 ep,.int .i64 be,.slice bda la.length bpa,.slice bds st.length bps,.slice bdt tt.length bpt,.int .i64 rd,.int .i64 vd,.int .i64 hr,.int .i64 hb,.slice adw hw.length cpw,.int .i64 tr,.slice adx tw.length cpx,.slice adh th.length cph,.int .i64 ld,.slice adv vo.length cpv,.slice adg go.length cpg,.slice add dn.length cpd,.slice adp pl.length cpp,.slice adq ps.length cpq] from by rw [<- hS3];exact (G3.put 5 _))
 have P3:=a_ (show Oth (fun g=>g=w.heap.size+2) S2 S3 from by rw [<- hS3];exact (z_ hb3 5 _))
 have N3:=a_ (show w3.heap.size=S3.heap.size from by rw [<- hS3];simp)
 have Ot:=a_ (show OwnKx S2.heap.size S3.heap.size S3 (.slice bdt tt.length bpt) tt from by rw [<- N3.out,<- hS3];exact ((OwnKs.kx o3)).kept (Kept.set _ 5 _ (.inl (by have:=C2.out.lt;omega))))
 (try rw [hS3])
 clear G3 hb3 o3 q5 g5 hS3
 have p8:=C3.out.p.cell 8
 have p9:=C3.out.p.cell 9
 have p10:=C3.out.p.cell 10
 simp only [gz_,gs_] at p8 p9 p10
 go_wp2_with fail
 refine (EQ.out S3 C3.out.b).mono ?_
 rintro e w4 ⟨v4,rfl,o4,hb4⟩
 obtain ⟨bdw,bpw,rfl⟩:=o4.rd.shape
 have G4:=C3.out.call hb4
 have q8:=G4.o.cell 8
 have g8:=G4.o.frozen 8
 have q9:=G4.o.cell 9
 have g9:=G4.o.frozen 9
 have q10:=G4.o.cell 10
 have g10:=G4.o.frozen 10
 simp only [gz_,gs_] at q8 q9 q10
 clear EQ p8 p9 p10
 go_upto_region 6 with fail
 obtain ⟨S4,hS4⟩:∃ x,(((w4).setCell ⟨w.heap.size+2,8,none⟩ (.int .i64 hr)).setCell ⟨w.heap.size+2,9,none⟩ (.int .i64 hb)).setCell ⟨w.heap.size+2,10,none⟩ (.slice bdw hw.length bpw)=x:=⟨_,rfl⟩
 have C4:=a_ (show Tg 55 55 noY_ [.string nm,.int .i64 ep,.int .i64 be,.slice ada la.length cpa,.slice ads st.length cps,.slice adt tt.length cpt,.int .i64 rd,.int .i64 vd,.int .i64 hr,.int .i64 hb,.slice adw hw.length cpw,.int .i64 tr,.slice adx tw.length cpx,.slice adh th.length cph,.int .i64 ld,.slice adv vo.length cpv,.slice adg go.length cpg,.slice add dn.length cpd,.slice adp pl.length cpp,.slice adq ps.length cpq] w S4 [.string nm,.int .i64 ep,.int .i64 be,.slice bda la.length bpa,.slice bds st.length bps,.slice bdt tt.length bpt,.int .i64 rd,.int .i64 vd,.int .i64 hr,.int .i64 hb,.slice bdw hw.length bpw,.int .i64 tr,.slice adx tw.length cpx,.slice adh th.length cph,.int .i64 ld,.slice adv vo.length cpv,.slice adg go.length cpg,.slice add dn.length cpd,.slice adp pl.length cpp,.slice adq ps.length cpq] from by rw [<- hS4];exact (((G4.put 8 _).put 9 _).put 10 _))
 have P4:=a_ (show Oth (fun g=>g=w.heap.size+2) S3 S4 from by rw [<- hS4];exact (((z_ hb4 8 _).set (S:=fun g=>g=w.heap.size+2) rfl 9 _).set (S:=fun g=>g=w.heap.size+2) rfl 10 _))
 have N4:=a_ (show w4.heap.size=S4.heap.size from by rw [<- hS4];simp)
 have Ow:=a_ (show InS S3.heap.size S4.heap.size S4 (.slice bdw hw.length bpw) hw from by rw [<- N4.out,<- hS4];exact ((InS.of o4)).kept (((Kept.set _ 8 _ (.inl (by have:=C3.out.lt;omega))).trans (Kept.set _ 9 _ (.inl (by have:=C3.out.lt;omega)))).trans (Kept.set _ 10 _ (.inl (by have:=C3.out.lt;omega)))))
 (try rw [hS4])
 clear G4 hb4 o4 q8 g8 q9 g9 q10 g10 hS4
 have p11:=C4.out.p.cell 11
 have p12:=C4.out.p.cell 12
 have p13:=C4.out.p.cell 13
 simp only [gz_,gs_] at p11 p12 p13
 go_wp2_with fail
 refine (ET.out S4 C4.out.b).mono ?_
 rintro e w5 ⟨v5,z5,rfl,o5,i5,hb5⟩
 obtain ⟨bdx,bpx,rfl⟩:=o5.rd.shape
 obtain ⟨bdh,bph,rfl⟩:=i5.rd.shape
 have G5:=C4.out.call hb5
 have q11:=G5.o.cell 11
 have g11:=G5.o.frozen 11
 have q12:=G5.o.cell 12
 have g12:=G5.o.frozen 12
 have q13:=G5.o.cell 13
 have g13:=G5.o.frozen 13
 simp only [gz_,gs_] at q11 q12 q13
 clear ET p11 p12 p13
 go_upto_region 7 with fail
 obtain ⟨S5,hS5⟩:∃ x,(((w5).setCell ⟨w.heap.size+2,11,none⟩ (.int .i64 tr)).setCell ⟨w.heap.size+2,12,none⟩ (.slice bdx tw.length bpx)).setCell ⟨w.heap.size+2,13,none⟩ (.slice bdh th.length bph)=x:=⟨_,rfl⟩
 have C5:=a_ (show Tg 55 55 noY_ [.string nm,.int .i64 ep,.int .i64 be,.slice ada la.length cpa,.slice ads st.length cps,.slice adt tt.length cpt,.int .i64 rd,.int .i64 vd,.int .i64 hr,.int .i64 hb,.slice adw hw.length cpw,.int .i64 tr,.slice adx tw.length cpx,.slice adh th.length cph,.int .i64 ld,.slice adv vo.length cpv,.slice adg go.length cpg,.slice add dn.length cpd,.slice adp pl.length cpp,.slice adq ps.length cpq] w S5 [.string nm,.int .i64 ep,.int .i64 be,.slice bda la.length bpa,.slice bds st.length bps,.slice bdt tt.length bpt,.int .i64 rd,.int .i64 vd,.int .i64 hr,.int .i64 hb,.slice bdw hw.length bpw,.int .i64 tr,.slice bdx tw.length bpx,.slice bdh th.length bph,.int .i64 ld,.slice adv vo.length cpv,.slice adg go.length cpg,.slice add dn.length cpd,.slice adp pl.length cpp,.slice adq ps.length cpq] from by rw [<- hS5];exact (((G5.put 11 _).put 12 _).put 13 _))
 have P5:=a_ (show Oth (fun g=>g=w.heap.size+2) S4 S5 from by rw [<- hS5];exact (((z_ hb5 11 _).set (S:=fun g=>g=w.heap.size+2) rfl 12 _).set (S:=fun g=>g=w.heap.size+2) rfl 13 _))
 have N5:=a_ (show w5.heap.size=S5.heap.size from by rw [<- hS5];simp)
 have Ox:=a_ (show InS S4.heap.size S5.heap.size S5 (.slice bdx tw.length bpx) tw from by rw [<- N5.out,<- hS5];exact ((InS.of o5)).kept (((Kept.set _ 11 _ (.inl (by have:=C4.out.lt;omega))).trans (Kept.set _ 12 _ (.inl (by have:=C4.out.lt;omega)))).trans (Kept.set _ 13 _ (.inl (by have:=C4.out.lt;omega)))))
 have Oh:=a_ (show InI S4.heap.size S5.heap.size S5 (.slice bdh th.length bph) th from by rw [<- N5.out,<- hS5];exact ((InI.of i5)).kept (((Kept.set _ 11 _ (.inl (by have:=C4.out.lt;omega))).trans (Kept.set _ 12 _ (.inl (by have:=C4.out.lt;omega)))).trans (Kept.set _ 13 _ (.inl (by have:=C4.out.lt;omega)))))
 (try rw [hS5])
 clear G5 hb5 o5 i5 q11 g11 q12 g12 q13 g13 hS5
 have p15:=C5.out.p.cell 15
 simp only [gz_,gs_] at p15
 have pA6:=(C5.out.p.below ((br_ S5.heap.size S5).alloc (nr_ _) (.cells #[] 156)) C5.out.p.lt).cell 15
 simp only [gz_,gs_] at pA6
 go_upto_region 8 with (first
  | (at_builtin;refine cr_ S5 rfl _ _ rfl (.slice adv vo.length cpv) vo rfl rfl (Rv.out S5 C5.out.b) hnv ?_;intro v6 w6 o6 hb6;obtain ⟨bdv,bpv,hv6⟩:=o6.rd.shape;subst hv6;have G6:=C5.out.call hb6;have q15:=G6.o.cell 15;have g15:=G6.o.frozen 15;simp only [gz_,gs_] at q15)
  | fail)
 clear pA6 p15 Rv
 obtain ⟨S6,hS6⟩:∃ x,(w6).setCell ⟨w.heap.size+2,15,none⟩ (.slice bdv vo.length bpv)=x:=⟨_,rfl⟩
 have C6:=a_ (show Tg 55 55 noY_ [.string nm,.int .i64 ep,.int .i64 be,.slice ada la.length cpa,.slice ads st.length cps,.slice adt tt.length cpt,.int .i64 rd,.int .i64 vd,.int .i64 hr,.int .i64 hb,.slice adw hw.length cpw,.int .i64 tr,.slice adx tw.length cpx,.slice adh th.length cph,.int .i64 ld,.slice adv vo.length cpv,.slice adg go.length cpg,.slice add dn.length cpd,.slice adp pl.length cpp,.slice adq ps.length cpq] w S6 [.string nm,.int .i64 ep,.int .i64 be,.slice bda la.length bpa,.slice bds st.length bps,.slice bdt tt.length bpt,.int .i64 rd,.int .i64 vd,.int .i64 hr,.int .i64 hb,.slice bdw hw.length bpw,.int .i64 tr,.slice bdx tw.length bpx,.slice bdh th.length bph,.int .i64 ld,.slice bdv vo.length bpv,.slice adg go.length cpg,.slice add dn.length cpd,.slice adp pl.length cpp,.slice adq ps.length cpq] from by rw [<- hS6];exact (G6.put 15 _))
 have P6:=a_ (show Oth (fun g=>g=w.heap.size+2) S5 S6 from by rw [<- hS6];exact (z_ hb6 15 _))
 have N6:=a_ (show w6.heap.size=S6.heap.size from by rw [<- hS6];simp)
 have Ov:=a_ (show InR 156 S5.heap.size S6.heap.size S6 (.slice bdv vo.length bpv) vo from by rw [<- N6.out,<- hS6];exact (o6).kept (Kept.set _ 15 _ (.inl (by have:=C5.out.lt;omega))))
 (try rw [hS6])
 clear G6 hb6 o6 q15 g15 hS6
 have p16:=C6.out.p.cell 16
 simp only [gz_,gs_] at p16
 have pA7:=(C6.out.p.below ((br_ S6.heap.size S6).alloc (nr_ _) (.cells #[] 158)) C6.out.p.lt).cell 16
 simp only [gz_,gs_] at pA7
 go_upto_region 9 with (first
  | (at_builtin;refine co_ S6 rfl _ _ rfl (.slice adg go.length cpg) go rfl rfl (Rg.out S6 C6.out.b) hng ?_;intro v7 w7 o7 hb7;obtain ⟨bdg,bpg,hv7⟩:=o7.rd.shape;subst hv7;have G7:=C6.out.call hb7;have q16:=G7.o.cell 16;have g16:=G7.o.frozen 16;simp only [gz_,gs_] at q16)
  | fail)
 clear pA7 p16 Rg
 obtain ⟨S7,hS7⟩:∃ x,(w7).setCell ⟨w.heap.size+2,16,none⟩ (.slice bdg go.length bpg)=x:=⟨_,rfl⟩
 have C7:=a_ (show Tg 55 55 noY_ [.string nm,.int .i64 ep,.int .i64 be,.slice ada la.length cpa,.slice ads st.length cps,.slice adt tt.length cpt,.int .i64 rd,.int .i64 vd,.int .i64 hr,.int .i64 hb,.slice adw hw.length cpw,.int .i64 tr,.slice adx tw.length cpx,.slice adh th.length cph,.int .i64 ld,.slice adv vo.length cpv,.slice adg go.length cpg,.slice add dn.length cpd,.slice adp pl.length cpp,.slice adq ps.length cpq] w S7 [.string nm,.int .i64 ep,.int .i64 be,.slice bda la.length bpa,.slice bds st.length bps,.slice bdt tt.length bpt,.int .i64 rd,.int .i64 vd,.int .i64 hr,.int .i64 hb,.slice bdw hw.length bpw,.int .i64 tr,.slice bdx tw.length bpx,.slice bdh th.length bph,.int .i64 ld,.slice bdv vo.length bpv,.slice bdg go.length bpg,.slice add dn.length cpd,.slice adp pl.length cpp,.slice adq ps.length cpq] from by rw [<- hS7];exact (G7.put 16 _))
 have P7:=a_ (show Oth (fun g=>g=w.heap.size+2) S6 S7 from by rw [<- hS7];exact (z_ hb7 16 _))
 have N7:=a_ (show w7.heap.size=S7.heap.size from by rw [<- hS7];simp)
 have Og:=a_ (show InR 158 S6.heap.size S7.heap.size S7 (.slice bdg go.length bpg) go from by rw [<- N7.out,<- hS7];exact (o7).kept (Kept.set _ 16 _ (.inl (by have:=C6.out.lt;omega))))
 (try rw [hS7])
 clear G7 hb7 o7 q16 g16 hS7
 have p17:=C7.out.p.cell 17
 simp only [gz_,gs_] at p17
 have pA8:=(C7.out.p.below ((br_ S7.heap.size S7).alloc (nr_ _) (.cells #[] 3)) C7.out.p.lt).cell 17
 simp only [gz_,gs_] at pA8
 go_upto_region 10 with (first
  | (at_builtin;refine di_ S7 rfl _ _ rfl (.slice add dn.length cpd) dn rfl rfl (Rd.out S7 C7.out.b) hnd ?_;intro v8 w8 o8 hb8;obtain ⟨bdd,bpd,hv8⟩:=o8.rd.shape;subst hv8;have G8:=C7.out.call hb8;have q17:=G8.o.cell 17;have g17:=G8.o.frozen 17;simp only [gz_,gs_] at q17)
  | fail)
 clear pA8 p17 Rd
 obtain ⟨S8,hS8⟩:∃ x,(w8).setCell ⟨w.heap.size+2,17,none⟩ (.slice bdd dn.length bpd)=x:=⟨_,rfl⟩
 have C8:=a_ (show Tg 55 55 noY_ [.string nm,.int .i64 ep,.int .i64 be,.slice ada la.length cpa,.slice ads st.length cps,.slice adt tt.length cpt,.int .i64 rd,.int .i64 vd,.int .i64 hr,.int .i64 hb,.slice adw hw.length cpw,.int .i64 tr,.slice adx tw.length cpx,.slice adh th.length cph,.int .i64 ld,.slice adv vo.length cpv,.slice adg go.length cpg,.slice add dn.length cpd,.slice adp pl.length cpp,.slice adq ps.length cpq] w S8 [.string nm,.int .i64 ep,.int .i64 be,.slice bda la.length bpa,.slice bds st.length bps,.slice bdt tt.length bpt,.int .i64 rd,.int .i64 vd,.int .i64 hr,.int .i64 hb,.slice bdw hw.length bpw,.int .i64 tr,.slice bdx tw.length bpx,.slice bdh th.length bph,.int .i64 ld,.slice bdv vo.length bpv,.slice bdg go.length bpg,.slice bdd dn.length bpd,.slice adp pl.length cpp,.slice adq ps.length cpq] from by rw [<- hS8];exact (G8.put 17 _))
 have P8:=a_ (show Oth (fun g=>g=w.heap.size+2) S7 S8 from by rw [<- hS8];exact (z_ hb8 17 _))
 have N8:=a_ (show w8.heap.size=S8.heap.size from by rw [<- hS8];simp)
 have Od:=a_ (show InI S7.heap.size S8.heap.size S8 (.slice bdd dn.length bpd) dn from by rw [<- N8.out,<- hS8];exact (o8).kept (Kept.set _ 17 _ (.inl (by have:=C7.out.lt;omega))))
 (try rw [hS8])
 clear G8 hb8 o8 q17 g17 hS8
 have p18:=C8.out.p.cell 18
 simp only [gz_,gs_] at p18
 have pA9:=(C8.out.p.below ((br_ S8.heap.size S8).alloc (nr_ _) (.cells #[] 59)) C8.out.p.lt).cell 18
 simp only [gz_,gs_] at pA9
 go_upto_region 11 with (first
  | (at_builtin;refine iN_ S8 rfl _ _ rfl (.slice adp pl.length cpp) pl rfl rfl (Rp.out S8 C8.out.b) hnp ?_;intro v9 w9 o9 hb9;obtain ⟨bdp,bpp,hv9⟩:=o9.rd.shape;subst hv9;have G9:=C8.out.call hb9;have q18:=G9.o.cell 18;have g18:=G9.o.frozen 18;simp only [gz_,gs_] at q18)
  | fail)
 clear pA9 p18 Rp
 obtain ⟨S9,hS9⟩:∃ x,(w9).setCell ⟨w.heap.size+2,18,none⟩ (.slice bdp pl.length bpp)=x:=⟨_,rfl⟩
 have C9:=a_ (show Tg 55 55 noY_ [.string nm,.int .i64 ep,.int .i64 be,.slice ada la.length cpa,.slice ads st.length cps,.slice adt tt.length cpt,.int .i64 rd,.int .i64 vd,.int .i64 hr,.int .i64 hb,.slice adw hw.length cpw,.int .i64 tr,.slice adx tw.length cpx,.slice adh th.length cph,.int .i64 ld,.slice adv vo.length cpv,.slice adg go.length cpg,.slice add dn.length cpd,.slice adp pl.length cpp,.slice adq ps.length cpq] w S9 [.string nm,.int .i64 ep,.int .i64 be,.slice bda la.length bpa,.slice bds st.length bps,.slice bdt tt.length bpt,.int .i64 rd,.int .i64 vd,.int .i64 hr,.int .i64 hb,.slice bdw hw.length bpw,.int .i64 tr,.slice bdx tw.length bpx,.slice bdh th.length bph,.int .i64 ld,.slice bdv vo.length bpv,.slice bdg go.length bpg,.slice bdd dn.length bpd,.slice bdp pl.length bpp,.slice adq ps.length cpq] from by rw [<- hS9];exact (G9.put 18 _))
 have P9:=a_ (show Oth (fun g=>g=w.heap.size+2) S8 S9 from by rw [<- hS9];exact (z_ hb9 18 _))
 have N9:=a_ (show w9.heap.size=S9.heap.size from by rw [<- hS9];simp)
 have Op:=a_ (show InT S8.heap.size S9.heap.size S9 (.slice bdp pl.length bpp) pl from by rw [<- N9.out,<- hS9];exact (o9).kept (Kept.set _ 18 _ (.inl (by have:=C8.out.lt;omega))))
 (try rw [hS9])
 clear G9 hb9 o9 q18 g18 hS9
 have bA:Below S9.heap.size S9 (S9.alloc (.cells #[] 138)):=(br_ _ _).alloc (nr_ _) _
 have GA:=C9.out.call bA
 have q19:=GA.o.cell 19
 have g19:=GA.o.frozen 19
 simp only [gz_,gs_] at q19
 have hzl:=C9.out.lt
 obtain ⟨SL,hSL⟩:∃ x,(S9.alloc (.cells #[] 138)).setCell ⟨w.heap.size+2,19,none⟩ (.slice (some ⟨S9.heap.size,0,none⟩) 0 0)=x:=⟨_,rfl⟩
 have CL:=a_ (show Tg 55 55 noY_ [.string nm,.int .i64 ep,.int .i64 be,.slice ada la.length cpa,.slice ads st.length cps,.slice adt tt.length cpt,.int .i64 rd,.int .i64 vd,.int .i64 hr,.int .i64 hb,.slice adw hw.length cpw,.int .i64 tr,.slice adx tw.length cpx,.slice adh th.length cph,.int .i64 ld,.slice adv vo.length cpv,.slice adg go.length cpg,.slice add dn.length cpd,.slice adp pl.length cpp,.slice adq ps.length cpq] w SL [.string nm,.int .i64 ep,.int .i64 be,.slice bda la.length bpa,.slice bds st.length bps,.slice bdt tt.length bpt,.int .i64 rd,.int .i64 vd,.int .i64 hr,.int .i64 hb,.slice bdw hw.length bpw,.int .i64 tr,.slice bdx tw.length bpx,.slice bdh th.length bph,.int .i64 ld,.slice bdv vo.length bpv,.slice bdg go.length bpg,.slice bdd dn.length bpd,.slice bdp pl.length bpp,.slice (some ⟨S9.heap.size,0,none⟩) 0 0] from by rw [<- hSL];exact GA.put 19 _)
 have OL:=a_ (show OwnPx S9.heap.size SL.heap.size SL (.slice (some ⟨S9.heap.size,0,none⟩) 0 0) [] from by
  rw [<- hSL]
  exact ((iu_ S9 S9.heap.size (nr_ _)).kept (Kept.set (g:=w.heap.size+2) _ 19 _ (.inl (by omega)))).wide (nr_ _) (by simp))
 have PL:=a_ (show Oth (fun g=>g=w.heap.size+2) S9 SL from by rw [<- hSL];exact z_ bA 19 _)
 clear bA GA
 go_wp2
 (try rw [hSL])
 clear hSL q19 g19
 go_loopw [4] (fun iv wr=>∃ (k:Nat) (v:Value),k<=ps.length/\iv=.int .i64 (k:Int)/\Tg 55 55 noY_ [.string nm,.int .i64 ep,.int .i64 be,.slice ada la.length cpa,.slice ads st.length cps,.slice adt tt.length cpt,.int .i64 rd,.int .i64 vd,.int .i64 hr,.int .i64 hb,.slice adw hw.length cpw,.int .i64 tr,.slice adx tw.length cpx,.slice adh th.length cph,.int .i64 ld,.slice adv vo.length cpv,.slice adg go.length cpg,.slice add dn.length cpd,.slice adp pl.length cpp,.slice adq ps.length cpq] w wr [.string nm,.int .i64 ep,.int .i64 be,.slice bda la.length bpa,.slice bds st.length bps,.slice bdt tt.length bpt,.int .i64 rd,.int .i64 vd,.int .i64 hr,.int .i64 hb,.slice bdw hw.length bpw,.int .i64 tr,.slice bdx tw.length bpx,.slice bdh th.length bph,.int .i64 ld,.slice bdv vo.length bpv,.slice bdg go.length bpg,.slice bdd dn.length bpd,.slice bdp pl.length bpp,v]/\OwnPx S9.heap.size wr.heap.size wr v (ps.take k)/\v.ownBlock ≠ none/\Oth (fun g=>g=w.heap.size+2) S9 wr) (fun iv _=>ps.length - (intOf iv).toNat)
 case atStart=>exact ⟨0,_,Nat.zero_le _,rfl,CL.out,OL.out,by simp [Value.ownBlock],PL.out⟩
 case round =>
  clear CL OL PL SL
  obtain ⟨k,v,hk,rfl,hc,ho,hne,hot⟩:=hrel
  have pp:=hc.p.cell 19
  have oo:=hc.o.cell 19
  have oof:=hc.o.frozen 19
  simp only [gz_,gs_] at pp oo
  have Hln:=a_ (show (ps.take k).length=k by simp;omega)
  obtain ⟨oa,oc,hv0⟩:=ho.rd.shape
  rw [Hln.out] at hv0
  subst hv0
  by_cases hlt:k < ps.length
  ·obtain ⟨b0,off,rfl,h3,hcell⟩:=HYq.out.at5 (by omega)
   obtain ⟨uk,hat,hrk⟩:=hcell k hlt
   have hBr:=hc.b
   have hrw:=hrk.below hBr (nr_ _)
   have hrg:=o_ hat hBr h3
   have hfk:=hfq _ (List.getElem_mem hlt)
   have hlk:=hl2 _ (List.getElem_mem hlt)
   have HY:Hid (ps.take k ++ [ps[k]]=ps.take (k+1)):=a_ (by rw [List.take_succ_eq_append_getElem hlt])
   have hki:(k:Int) < (ps.length:Int):=by omega
   have hk0:(0:Int)<=(k:Int):=by omega
   have HC:=a_ (fun V (hV:Below wr.heap.size wr V)=>ea_ ps[k] uk V (hrw.below hV (nr_ _)) hfk hlk)
   have Hrg:=a_ (fun V (hV:Below wr.heap.size wr V)=>o_ hrg hV (Nat.lt_of_lt_of_le h3 hBr.size))
   have Hsb:=a_ hrw.kb.shape
   have Hsw:=a_ hrw.kw.shape
   have bD:Below wr.heap.size wr wr.drew:=(br_ wr.heap.size wr).drew
   have Hc:=a_ hc
   have Ho:=a_ ho
   have Hne:=a_ hne
   have Hot:=a_ hot
   have hzw:=hc.lt
   have hsK:=hot.size
   clear hat hrk hcell hc ho hne hot hrw hrg hBr hfk hlk
   generalize ps[k]=pk at HC HY Hrg Hsb Hsw
   obtain ⟨yb,yw⟩:=uk
   simp only at Hsb Hsw
   obtain ⟨ayb,cyb,rfl⟩:=Hsb.out
   obtain ⟨ayw,cyw,rfl⟩:=Hsw.out
   clear Hsb Hsw
   simp only [pfC] at Hrg
   simp only [pfV] at HC
   have r0:=Hrg.out wr (br_ _ _) 0 _ rfl
   have r1:=Hrg.out wr (br_ _ _) 1 _ rfl
   have r2:=Hrg.out wr (br_ _ _) 2 _ rfl
   have r3:=Hrg.out wr (br_ _ _) 3 _ rfl
   have r4:=Hrg.out wr (br_ _ _) 4 _ rfl
   have d0:=Hrg.out wr.drew bD 0 _ rfl
   have d1:=Hrg.out wr.drew bD 1 _ rfl
   have d2:=Hrg.out wr.drew bD 2 _ rfl
   have d3:=Hrg.out wr.drew bD 3 _ rfl
   have d4:=Hrg.out wr.drew bD 4 _ rfl
   have pd:wr.drew.cell? ⟨w.heap.size,19,none⟩=_:=pp
   have od:wr.drew.cell? ⟨w.heap.size+2,19,none⟩=_:=oo
   rw [Nat.add_zero] at r0 d0
   clear Hrg
   go_wp2
   go_region_law (first
    | (refine hv_ wr rfl _ _ rfl S9.heap.size (.slice oa k oc) w4.heap.size (ps.take k) pk ⟨.slice ab4 pk.bs.length cb4,.slice aw4 pk.qw.length cw4⟩ (by rfl) (by rfl) Ho.out Hne.out B5.out K5.out O5.out (by have:=Hln.out;omega) hsK ?_;intro v7 w7 ho7 hn7 hb7;have hsh:=ho7.rd.shape;obtain ⟨a7,c7,hv7⟩:=hsh;subst hv7;have k7:=k5o.below hb7 (show w.heap.size+2 < S9.heap.size by omega);have x7:=k7.cell 19;have f7:=k7.frozen 19;simp only [gz_,gs_] at x7)
    | (go_simp;go_at_call 81;refine (HC.out _ (by first | exact bD | exact br_ _ _)).mono ?_;rintro en w4 ⟨u4,rfl,o4,hb4⟩;obtain ⟨yb4,yw4⟩:=u4;obtain ⟨ab4,cb4,hx4⟩:=o4.rd.kb.shape;simp only at hx4;subst hx4;obtain ⟨aw4,cw4,hx4⟩:=o4.rd.kw.shape;simp only at hx4;subst hx4;simp only;have B4:Below wr.heap.size wr w4:=(by first | exact bD.trans hb4 | exact hb4);have sz4:=B4.size;have b5:Below w4.heap.size w4 (w4.alloc (.cells #[.int .i64 pk.ep,.slice ab4 pk.bs.length cb4,.int .i64 pk.qr,.int .i64 pk.qb,.slice aw4 pk.qw.length cw4] 138)):=(br_ _ _).alloc (nr_ _) _;have B5:=a_ (B4.trans (b5.mono B4.size));have K5:=a_ (show Blk (w4.alloc (.cells #[.int .i64 pk.ep,.slice ab4 pk.bs.length cb4,.int .i64 pk.qr,.int .i64 pk.qb,.slice aw4 pk.qw.length cw4] 138)) w4.heap.size 138 (pfC pk ⟨.slice ab4 pk.bs.length cb4,.slice aw4 pk.qw.length cw4⟩) from Blk.new w4 _ _);have O5:=a_ (show OwnPf wr.heap.size (w4.alloc (.cells #[.int .i64 pk.ep,.slice ab4 pk.bs.length cb4,.int .i64 pk.qr,.int .i64 pk.qb,.slice aw4 pk.qw.length cw4] 138)).heap.size (w4.alloc (.cells #[.int .i64 pk.ep,.slice ab4 pk.bs.length cb4,.int .i64 pk.qr,.int .i64 pk.qb,.slice aw4 pk.qw.length cw4] 138)) pk ⟨.slice ab4 pk.bs.length cb4,.slice aw4 pk.qw.length cw4⟩ from (o4.kept (Kept.of_below b5 (nr_ _))).wide (by first | exact nr_ _ | exact bD.size) b5.size);have k4o:=Hc.out.o.below B4 Hc.out.o.lt;have k5o:=Hc.out.o.below B5.out Hc.out.o.lt;have e4:=k4o.cell 19;have e5:=k5o.cell 19;have k5p:=Hc.out.p.below B5.out Hc.out.p.lt;simp only [gz_,gs_] at e4 e5))
   all_goals
    have hbl7:(ps.take k ++ [pk]).length=k+1:=by rw [List.length_append,Hln.out];rfl
    have hco:Tg 55 55 noY_ [.string nm,.int .i64 ep,.int .i64 be,.slice ada la.length cpa,.slice ads st.length cps,.slice adt tt.length cpt,.int .i64 rd,.int .i64 vd,.int .i64 hr,.int .i64 hb,.slice adw hw.length cpw,.int .i64 tr,.slice adx tw.length cpx,.slice adh th.length cph,.int .i64 ld,.slice adv vo.length cpv,.slice adg go.length cpg,.slice add dn.length cpd,.slice adp pl.length cpp,.slice (some ⟨b0,off,none⟩) ps.length cpq] w (w7.setCell ⟨w.heap.size+2,19,none⟩ (.slice a7 (ps.take k ++ [pk]).length c7)) [.string nm,.int .i64 ep,.int .i64 be,.slice bda la.length bpa,.slice bds st.length bps,.slice bdt tt.length bpt,.int .i64 rd,.int .i64 vd,.int .i64 hr,.int .i64 hb,.slice bdw hw.length bpw,.int .i64 tr,.slice bdx tw.length bpx,.slice bdh th.length bph,.int .i64 ld,.slice bdv vo.length bpv,.slice bdg go.length bpg,.slice bdd dn.length bpd,.slice bdp pl.length bpp,.slice a7 (ps.take k ++ [pk]).length c7] :=
     (show Tg 55 55 noY_ [.string nm,.int .i64 ep,.int .i64 be,.slice ada la.length cpa,.slice ads st.length cps,.slice adt tt.length cpt,.int .i64 rd,.int .i64 vd,.int .i64 hr,.int .i64 hb,.slice adw hw.length cpw,.int .i64 tr,.slice adx tw.length cpx,.slice adh th.length cph,.int .i64 ld,.slice adv vo.length cpv,.slice adg go.length cpg,.slice add dn.length cpd,.slice adp pl.length cpp,.slice (some ⟨b0,off,none⟩) ps.length cpq] w w7 _ from ⟨k5p.below hb7 (by omega),(Hc.out.r.below B5.out Hc.out.r.lt).below hb7 (by omega),k7,(Hc.out.b.trans (B5.out.mono Hc.out.b.size)).trans (hb7.mono (show w.heap.size<=S9.heap.size by omega))⟩).put 19 _
    have hoo:OwnPx S9.heap.size (w7.setCell ⟨w.heap.size+2,19,none⟩ (.slice a7 (ps.take k ++ [pk]).length c7)).heap.size (w7.setCell ⟨w.heap.size+2,19,none⟩ (.slice a7 (ps.take k ++ [pk]).length c7)) (.slice a7 (ps.take k ++ [pk]).length c7) (ps.take (k+1)):=by
     rw [<- HY.out]
     exact (ho7.kept (Kept.set (g:=w.heap.size+2) _ 19 _ (.inl (by omega)))).wide (nr_ _) (by simp)
    have hpo:Oth (fun g=>g=w.heap.size+2) S9 (w7.setCell ⟨w.heap.size+2,19,none⟩ (.slice a7 (ps.take k ++ [pk]).length c7)) :=
     ((Hot.out.trans (Oth.of_below B5.out)).thenB hb7).set (S:=fun g=>g=w.heap.size+2) rfl 19 _
    rw [hbl7] at hco hoo hpo hn7
    have Hn7:=a_ hn7
    have Hco:=a_ hco
    have Hoo:=a_ hoo
    have Hpo:=a_ hpo
    clear hco hoo hpo k4o k5o k5p e4 e5 o4 hb4 B4 ho7 hb7
    go_wp2
    go_roundw
    case rel=>exact ⟨k+1,_,by omega,by go_num,Hco.out,Hoo.out,Hn7.out,Hpo.out⟩
    case measure=>simp [intOf];omega
  ·obtain rfl:k=ps.length:=by omega
   rw [List.take_length] at ho
   have CLL:=a_ hc
   have PLL:=a_ hot
   have Oq:=a_ ho
   clear hc hot ho hne
   have hz0:=C0.out.lt
   obtain ⟨F,hF⟩:∃ x,([.string nm,.int .i64 ep,.int .i64 be,.slice bda la.length bpa,.slice bds st.length bps,.slice bdt tt.length bpt,.int .i64 rd,.int .i64 vd,.int .i64 hr,.int .i64 hb,.slice bdw hw.length bpw,.int .i64 tr,.slice bdx tw.length bpx,.slice bdh th.length bph,.int .i64 ld,.slice bdv vo.length bpv,.slice bdg go.length bpg,.slice bdd dn.length bpd,.slice bdp pl.length bpp,.slice oa ps.length oc]:List Value)=x:=⟨_,rfl⟩
   have hFl:F.length=20:=by rw [<- hF];rfl
   have hF1:F.toArray.all (·.oneCell')=true:=by rw [List.all_toArray,<- hF];rfl
   have Hsz:=a_ (show (Tryz.prog.info? 55).map (·.size)=some F.length from by rw [hFl];exact Tryz.infoC20)
   have Hld:=a_ (show wr.rangeAt (w.heap.size+2) 0 F from by rw [<- hF];exact c_ CLL.out.o)
   have HRk:=a_ (show Blk wr (w.heap.size+1) 55 noY_ from CLL.out.r)
   have Hth:=a_ (show wr.there (w.heap.size+1) 0 F.toArray.size from by rw [show F.toArray.size=20 from by simpa using hFl];exact HRk.out.there rfl)
   have HX:=a_ (show Blk (wr.setCells (w.heap.size+1) 0 F) (w.heap.size+1) 55 F from by rw [<- hF];exact q_ HRk.out (by rfl))
   have HB:=a_ (CLL.out.b.trans (e_ (B:=w.heap.size) (show w.heap.size<=w.heap.size+1 by omega) F wr 0))
   have Y1:=(show S0.heap.size<=S1.heap.size from P1.out.size)
   have Y2:=(show S1.heap.size<=S2.heap.size from P2.out.size)
   have Y3:=(show S2.heap.size<=S3.heap.size from P3.out.size)
   have Y4:=(show S3.heap.size<=S4.heap.size from P4.out.size)
   have Y5:=(show S4.heap.size<=S5.heap.size from P5.out.size)
   have Y6:=(show S5.heap.size<=S6.heap.size from P6.out.size)
   have Y7:=(show S6.heap.size<=S7.heap.size from P7.out.size)
   have Y8:=(show S7.heap.size<=S8.heap.size from P8.out.size)
   have Y9:=(show S8.heap.size<=S9.heap.size from P9.out.size)
   have YL:=(show S9.heap.size<=wr.heap.size from PLL.out.size)
   have Fa:=a_ (show OwnX S0.heap.size S1.heap.size (wr.setCells (w.heap.size+1) 0 F) (.slice bda la.length bpa) la from ((((((((((Oa.out.kept (Kept.of_oth P2.out (fun g a b e=>by have e9:g=w.heap.size+2:=e;omega))).kept (Kept.of_oth P3.out (fun g a b e=>by have e9:g=w.heap.size+2:=e;omega))).kept (Kept.of_oth P4.out (fun g a b e=>by have e9:g=w.heap.size+2:=e;omega))).kept (Kept.of_oth P5.out (fun g a b e=>by have e9:g=w.heap.size+2:=e;omega))).kept (Kept.of_oth P6.out (fun g a b e=>by have e9:g=w.heap.size+2:=e;omega))).kept (Kept.of_oth P7.out (fun g a b e=>by have e9:g=w.heap.size+2:=e;omega))).kept (Kept.of_oth P8.out (fun g a b e=>by have e9:g=w.heap.size+2:=e;omega))).kept (Kept.of_oth P9.out (fun g a b e=>by have e9:g=w.heap.size+2:=e;omega))).kept (Kept.of_oth PLL.out (fun g a b e=>by have e9:g=w.heap.size+2:=e;omega))).kept (Kept.setCs _ 0 F (.inl (by omega)))))
   have Fs:=a_ (show InV S1.heap.size S2.heap.size (wr.setCells (w.heap.size+1) 0 F) (.slice bds st.length bps) st from (((((((((Os.out.kept (Kept.of_oth P3.out (fun g a b e=>by have e9:g=w.heap.size+2:=e;omega))).kept (Kept.of_oth P4.out (fun g a b e=>by have e9:g=w.heap.size+2:=e;omega))).kept (Kept.of_oth P5.out (fun g a b e=>by have e9:g=w.heap.size+2:=e;omega))).kept (Kept.of_oth P6.out (fun g a b e=>by have e9:g=w.heap.size+2:=e;omega))).kept (Kept.of_oth P7.out (fun g a b e=>by have e9:g=w.heap.size+2:=e;omega))).kept (Kept.of_oth P8.out (fun g a b e=>by have e9:g=w.heap.size+2:=e;omega))).kept (Kept.of_oth P9.out (fun g a b e=>by have e9:g=w.heap.size+2:=e;omega))).kept (Kept.of_oth PLL.out (fun g a b e=>by have e9:g=w.heap.size+2:=e;omega))).kept (Kept.setCs _ 0 F (.inl (by omega)))))
   have Ft:=a_ (show OwnKx S2.heap.size S3.heap.size (wr.setCells (w.heap.size+1) 0 F) (.slice bdt tt.length bpt) tt from ((((((((Ot.out.kept (Kept.of_oth P4.out (fun g a b e=>by have e9:g=w.heap.size+2:=e;omega))).kept (Kept.of_oth P5.out (fun g a b e=>by have e9:g=w.heap.size+2:=e;omega))).kept (Kept.of_oth P6.out (fun g a b e=>by have e9:g=w.heap.size+2:=e;omega))).kept (Kept.of_oth P7.out (fun g a b e=>by have e9:g=w.heap.size+2:=e;omega))).kept (Kept.of_oth P8.out (fun g a b e=>by have e9:g=w.heap.size+2:=e;omega))).kept (Kept.of_oth P9.out (fun g a b e=>by have e9:g=w.heap.size+2:=e;omega))).kept (Kept.of_oth PLL.out (fun g a b e=>by have e9:g=w.heap.size+2:=e;omega))).kept (Kept.setCs _ 0 F (.inl (by omega)))))
   have Fw:=a_ (show InS S3.heap.size S4.heap.size (wr.setCells (w.heap.size+1) 0 F) (.slice bdw hw.length bpw) hw from (((((((Ow.out.kept (Kept.of_oth P5.out (fun g a b e=>by have e9:g=w.heap.size+2:=e;omega))).kept (Kept.of_oth P6.out (fun g a b e=>by have e9:g=w.heap.size+2:=e;omega))).kept (Kept.of_oth P7.out (fun g a b e=>by have e9:g=w.heap.size+2:=e;omega))).kept (Kept.of_oth P8.out (fun g a b e=>by have e9:g=w.heap.size+2:=e;omega))).kept (Kept.of_oth P9.out (fun g a b e=>by have e9:g=w.heap.size+2:=e;omega))).kept (Kept.of_oth PLL.out (fun g a b e=>by have e9:g=w.heap.size+2:=e;omega))).kept (Kept.setCs _ 0 F (.inl (by omega)))))
   have Fx:=a_ (show InS S4.heap.size S5.heap.size (wr.setCells (w.heap.size+1) 0 F) (.slice bdx tw.length bpx) tw from ((((((Ox.out.kept (Kept.of_oth P6.out (fun g a b e=>by have e9:g=w.heap.size+2:=e;omega))).kept (Kept.of_oth P7.out (fun g a b e=>by have e9:g=w.heap.size+2:=e;omega))).kept (Kept.of_oth P8.out (fun g a b e=>by have e9:g=w.heap.size+2:=e;omega))).kept (Kept.of_oth P9.out (fun g a b e=>by have e9:g=w.heap.size+2:=e;omega))).kept (Kept.of_oth PLL.out (fun g a b e=>by have e9:g=w.heap.size+2:=e;omega))).kept (Kept.setCs _ 0 F (.inl (by omega)))))
   have Fh:=a_ (show InI S4.heap.size S5.heap.size (wr.setCells (w.heap.size+1) 0 F) (.slice bdh th.length bph) th from ((((((Oh.out.kept (Kept.of_oth P6.out (fun g a b e=>by have e9:g=w.heap.size+2:=e;omega))).kept (Kept.of_oth P7.out (fun g a b e=>by have e9:g=w.heap.size+2:=e;omega))).kept (Kept.of_oth P8.out (fun g a b e=>by have e9:g=w.heap.size+2:=e;omega))).kept (Kept.of_oth P9.out (fun g a b e=>by have e9:g=w.heap.size+2:=e;omega))).kept (Kept.of_oth PLL.out (fun g a b e=>by have e9:g=w.heap.size+2:=e;omega))).kept (Kept.setCs _ 0 F (.inl (by omega)))))
   have Fv:=a_ (show InR 156 S5.heap.size S6.heap.size (wr.setCells (w.heap.size+1) 0 F) (.slice bdv vo.length bpv) vo from (((((Ov.out.kept (Kept.of_oth P7.out (fun g a b e=>by have e9:g=w.heap.size+2:=e;omega))).kept (Kept.of_oth P8.out (fun g a b e=>by have e9:g=w.heap.size+2:=e;omega))).kept (Kept.of_oth P9.out (fun g a b e=>by have e9:g=w.heap.size+2:=e;omega))).kept (Kept.of_oth PLL.out (fun g a b e=>by have e9:g=w.heap.size+2:=e;omega))).kept (Kept.setCs _ 0 F (.inl (by omega)))))
   have Fg:=a_ (show InR 158 S6.heap.size S7.heap.size (wr.setCells (w.heap.size+1) 0 F) (.slice bdg go.length bpg) go from ((((Og.out.kept (Kept.of_oth P8.out (fun g a b e=>by have e9:g=w.heap.size+2:=e;omega))).kept (Kept.of_oth P9.out (fun g a b e=>by have e9:g=w.heap.size+2:=e;omega))).kept (Kept.of_oth PLL.out (fun g a b e=>by have e9:g=w.heap.size+2:=e;omega))).kept (Kept.setCs _ 0 F (.inl (by omega)))))
   have Fd:=a_ (show InI S7.heap.size S8.heap.size (wr.setCells (w.heap.size+1) 0 F) (.slice bdd dn.length bpd) dn from (((Od.out.kept (Kept.of_oth P9.out (fun g a b e=>by have e9:g=w.heap.size+2:=e;omega))).kept (Kept.of_oth PLL.out (fun g a b e=>by have e9:g=w.heap.size+2:=e;omega))).kept (Kept.setCs _ 0 F (.inl (by omega)))))
   have Fp:=a_ (show InT S8.heap.size S9.heap.size (wr.setCells (w.heap.size+1) 0 F) (.slice bdp pl.length bpp) pl from ((Op.out.kept (Kept.of_oth PLL.out (fun g a b e=>by have e9:g=w.heap.size+2:=e;omega))).kept (Kept.setCs _ 0 F (.inl (by omega)))))
   have Fq:=a_ (show OwnPx S9.heap.size wr.heap.size (wr.setCells (w.heap.size+1) 0 F) (.slice oa ps.length oc) ps from (Oq.out.kept (Kept.setCs _ 0 F (.inl (by omega)))))
   have FZ:=a_ (show (wr.setCells (w.heap.size+1) 0 F).heap.size=wr.heap.size from P_ _ F _ 0)
   have FY:=a_ (show w.heap.size<=S0.heap.size from by omega)
   have W1:=a_ Y1
   have W2:=a_ Y2
   have W3:=a_ Y3
   have W4:=a_ Y4
   have W5:=a_ Y5
   have W6:=a_ Y6
   have W7:=a_ Y7
   have W8:=a_ Y8
   have W9:=a_ Y9
   have WL:=a_ YL
   clear hz0 Y1 Y2 Y3 Y4 Y5 Y6 Y7 Y8 Y9 YL Oa Os Ot Ow Ox Oh Ov Og Od Op Oq HRk hFl
   go_wp2_with (first
    | (refine wpList_load_mid rfl 55 _ rfl (w.heap.size+2) 0 rfl F _ Hld.out Tryz.underlying55 rfl Hsz.out ?_)
    | (refine wpList_store_mid rfl 55 _ _ rfl (w.heap.size+1) 0 F.toArray rfl rfl Hth.out (by simpa using Hsz.out) hF1 ?_)
    | fail)
   (try rw [hS9])
   (try simp only [List.toList_toArray])
   refine dP_ (F:=F) (w.heap.size+1) (c_ HX.out) (by rfl) Hsz.out rfl ?_
   subst hF
   have fz:=FZ.out
   have fy:=FY.out
   have o1:=W1.out
   have o2:=W2.out
   have o3:=W3.out
   have o4:=W4.out
   have o5:=W5.out
   have o6:=W6.out
   have o7:=W7.out
   have o8:=W8.out
   have o9:=W9.out
   have oL:=WL.out
   refine ⟨⟨.slice bda la.length bpa,.slice bds st.length bps,.slice bdt tt.length bpt,.slice bdw hw.length bpw,.slice bdx tw.length bpx,.slice bdh th.length bph,.slice bdv vo.length bpv,.slice bdg go.length bpg,.slice bdd dn.length bpd,.slice bdp pl.length bpp,.slice oa ps.length oc⟩,rfl,⟨⟨S0.heap.size,S1.heap.size,S2.heap.size,S3.heap.size,S4.heap.size,S5.heap.size,S6.heap.size,S7.heap.size,S8.heap.size,S9.heap.size,wr.heap.size,by omega,by omega,by omega,by omega,by omega,by omega,by omega,by omega,by omega,by omega,by omega,by omega,Fa.out.wide (by omega) (by omega),Fs.out.wide (by omega) (by omega),Ft.out.wide (by omega) (by omega),Fw.out.wide (by omega) (by omega),Fx.out.wide (by omega) (by omega),Fh.out.wide (by omega) (by omega),Fv.out.wide (by omega) (by omega),Fg.out.wide (by omega) (by omega),Fd.out.wide (by omega) (by omega),Fp.out.wide (by omega) (by omega),Fq.out.wide (by omega) (by omega)⟩⟩,HB.out⟩
open Go.RowKit Go.Sort
def nfB (nm:ByteArray) (ep be:Int) (la:List Ac) (st:List Vl) (tt:List Bk) (pl:List Tx5):Bool :=
 nmB nm && (lgB be la && (decide (be=ep) && (poolB pl && ((decide (st.length=0) || setB st) && (treeB tt && !oddB tt ep)))))
theorem jG_ {l:List Bk} {e:Int} (ht:treeB l=true) (h0:0 < l.length):oddB l e=!decide (l[0].ep=e):=by
 by_cases h:l[0].ep=e
 ·rw [decide_eq_true h,Bool.not_true]
  exact fF_ (fun j hj=>by rw [((jY_ ht).2 j hj).2.1];exact h)
 ·rw [decide_eq_false h,Bool.not_false]
  exact gP_ h0 h
theorem ju_ {l:List Bk} {e:Int} (h0:l.length=0):oddB l e=false:=fF_ (fun j hj=>by omega)
def nsB (p:Nd):Bool:=inB p.rd 1 10000 && (decide (p.hr < p.rd) && (decide (p.tr < p.rd) && (inB p.vd 0 10000 && (inB p.ld 0 10000 && (qcB p.st p.hr p.hb p.hw && (tcB p.st p.tr p.tw p.th && (decide (p.vo.length<=1000) && (decide (p.go.length<=1000) && (decide (p.dn.length<=200) && decide (p.ps.length<=200))))))))))
theorem kn_ (p:Nd):nodB p=(nfB p.nm p.ep p.be p.la p.st p.tt p.pl && nsB p):=by
 unfold nodB nfB nsB epkB rdsB
 generalize nmB p.nm=a1
 generalize lgB p.be p.la=a2
 generalize decide (p.be=p.ep)=a3
 generalize (decide (p.st.length=0) || setB p.st)=a4
 generalize (treeB p.tt && !oddB p.tt p.ep)=a5
 generalize inB p.rd 1 10000=a6
 generalize inB p.vd 0 10000=a7
 generalize inB p.ld 0 10000=a8
 generalize qcB p.st p.hr p.hb p.hw=a9
 generalize decide (p.hr < p.rd)=b1
 generalize tcB p.st p.tr p.tw p.th=b2
 generalize decide (p.tr < p.rd)=b3
 generalize poolB p.pl=b4
 generalize (decide (p.vo.length<=1000) && (decide (p.go.length<=1000) && (decide (p.dn.length<=200) && decide (p.ps.length<=200))))=b5
 cases a1 <;> cases a2 <;> cases a3 <;> cases a4 <;> cases a5 <;> cases a6 <;> cases a7 <;> cases a8 <;> simp only [Bool.true_and,Bool.false_and,Bool.and_false] <;> cases a9 <;> cases b1 <;> cases b2 <;> cases b3 <;> cases b4 <;> cases b5 <;> rfl
theorem nf_mod {nm:ByteArray} {ep be:Int} {la:List Ac} {st:List Vl} {tt:List Bk} {pl:List Tx5} (h:nfB nm ep be la st tt pl=true):ModV st:=by
 unfold nfB at h
 simp only [Bool.and_eq_true] at h
 exact hd_ h.2.2.2.2.1
theorem dD_ (p : Nd) (u:Nv) (w:World) (hr:RdNd w p u) (hf:FewNd p) (hg:FitNd p) :
  Calls Tryz.prog 24 #[noV p u] w fun en w'=>en=.returned (.bool (nodB p))/\Below w.heap.size w w':=by
 have HF:=a_ (kn_ p)
 have HS2:Hid (nsB p=(inB p.rd 1 10000 && (decide (p.hr < p.rd) && (decide (p.tr < p.rd) && (inB p.vd 0 10000 && (inB p.ld 0 10000 && (qcB p.st p.hr p.hb p.hw && (tcB p.st p.tr p.tw p.th && (decide (p.vo.length<=1000) && (decide (p.go.length<=1000) && (decide (p.dn.length<=200) && decide (p.ps.length<=200)))))))))))):=a_ rfl
 have HF1:Hid (nfB p.nm p.ep p.be p.la p.st p.tt p.pl=(nmB p.nm && (lgB p.be p.la && (decide (p.be=p.ep) && (poolB p.pl && ((decide (p.st.length=0) || setB p.st) && (treeB p.tt && !oddB p.tt p.ep))))))):=a_ rfl
 have HMd:=a_ (show nfB p.nm p.ep p.be p.la p.st p.tt p.pl=true->ModV p.st from nf_mod)
 generalize nsB p=X2 at HF HS2
 generalize nfB p.nm p.ep p.be p.la p.st p.tt p.pl=X1 at HF HF1 HMd
 generalize nodB p=X at HF ⊢
 obtain ⟨nm,ep,be,la,st,tt,rd,vd,hr,hb,hw,tr,tw,th,ld,vo,go,dn,pl,ps⟩:=p
 obtain ⟨ya,ys,yt,yw,yx,yh,yv,yg,yd,yp,yq⟩:=u
 obtain ⟨hya,hys,hyt,hyw,hyx,hyh,hyv,hyg,hyd,hyp,hyq⟩:=hr
 simp only at *
 obtain ⟨ada,cpa,rfl⟩:=hya.shape
 obtain ⟨ads,cps,rfl⟩:=hys.shape
 obtain ⟨adt,cpt,rfl⟩:=hyt.shape
 obtain ⟨adw,cpw,rfl⟩:=hyw.shape
 obtain ⟨adx,cpx,rfl⟩:=hyx.shape
 obtain ⟨adh,cph,rfl⟩:=hyh.shape
 obtain ⟨adv,cpv,rfl⟩:=hyv.shape
 obtain ⟨adg,cpg,rfl⟩:=hyg.shape
 obtain ⟨add,cpd,rfl⟩:=hyd.shape
 obtain ⟨adp,cpp,rfl⟩:=hyp.shape
 obtain ⟨adq,cpq,rfl⟩:=hyq.shape
 simp only [noV]
 obtain ⟨w1,hw1⟩:∃ x,w.alloc (.cells #[.string nm,.int .i64 ep,.int .i64 be,.slice ada la.length cpa,.slice ads st.length cps,.slice adt tt.length cpt,.int .i64 rd,.int .i64 vd,.int .i64 hr,.int .i64 hb,.slice adw hw.length cpw,.int .i64 tr,.slice adx tw.length cpx,.slice adh th.length cph,.int .i64 ld,.slice adv vo.length cpv,.slice adg go.length cpg,.slice add dn.length cpd,.slice adp pl.length cpp,.slice adq ps.length cpq] 55)=x:=⟨_,rfl⟩
 have B1:Below w.heap.size w w1:=by rw [<- hw1];exact (br_ _ w).alloc (nr_ _) _
 have K1:=a_ (show Blk w1 w.heap.size 55 [.string nm,.int .i64 ep,.int .i64 be,.slice ada la.length cpa,.slice ads st.length cps,.slice adt tt.length cpt,.int .i64 rd,.int .i64 vd,.int .i64 hr,.int .i64 hb,.slice adw hw.length cpw,.int .i64 tr,.slice adx tw.length cpx,.slice adh th.length cph,.int .i64 ld,.slice adv vo.length cpv,.slice adg go.length cpg,.slice add dn.length cpd,.slice adp pl.length cpp,.slice adq ps.length cpq] from by rw [<- hw1];exact Blk.new w _ _)
 have q:=fun (d:Nat) (os:Array Obj)=>B1.trans ((below_regrown w1 d os).mono B1.size)
 have HN:=a_ (fun (d:Nat) (os:Array Obj)=>G_ (k_ nm (grow (redrawn w1 d) os) hg.znm))
 have HL:=a_ (fun (d:Nat) (os:Array Obj)=>Calls.regrown_of (cM_ be (.slice ada la.length cpa) la (grow (redrawn w1 d) os) (hya.below (q d os) (nr_ _)) hf.na (fun a ha=>⟨(hg.ga a ha).1,hf.fa a ha⟩)))
 have HP:=a_ (fun (d:Nat) (os:Array Obj)=>Calls.regrown_of (ab_ (.slice adp pl.length cpp) pl (grow (redrawn w1 d) os) (hyp.below (q d os) (nr_ _)) hf.np hg.gp))
 have HV:=a_ (fun (d:Nat) (os:Array Obj)=>Calls.regrown_of (bC_ (.slice ads st.length cps) st (grow (redrawn w1 d) os) (hys.below (q d os) (nr_ _)) hf.ns hg.gs))
 have HT:=a_ (fun (d:Nat) (os:Array Obj)=>Calls.regrown_of (eg_ (.slice adt tt.length cpt) tt (grow (redrawn w1 d) os) (hyt.below (q d os) (nr_ _)) hf.nt hf.ft (is_ hg.gt)))
 have HQ:=a_ (fun (hm:ModV st) V (hV:Below w.heap.size w V)=>fD_ (.slice ads st.length cps) (.slice adw hw.length cpw) st hr hb hw V (hys.below hV (nr_ _)) (hyw.below hV (nr_ _)) hf.ns hf.nw hg.gw hm)
 have HC:=a_ (fun (hm:ModV st) V (hV:Below w.heap.size w V)=>fY_ (.slice ads st.length cps) (.slice adx tw.length cpx) (.slice adh th.length cph) st tr tw th V (hys.below hV (nr_ _)) (hyx.below hV (nr_ _)) (hyh.below hV (nr_ _)) hf.ns hf.nx hf.nh hg.gx hm)
 have HHd:=a_ (show treeB tt=true->∀ h0:0 < tt.length,oddB tt ep=!decide (tt[0].ep=ep) from jG_)
 have HH0:=a_ (show tt.length=0->oddB tt ep=false from ju_)
 have HTc:=a_ (show ∀ h0:0 < tt.length,∃ b off,adt=some ⟨b,off,none⟩/\w1.cell? ⟨b,off+1,none⟩=some (.int .i64 tt[0].ep) from fun h0=>by
  obtain ⟨b,off,e,h1,h2⟩:=hyt.parts14 h0
  obtain ⟨bv,h3,-⟩:=h2 0 h0
  have h4:=(h3.below B1 h1).cells.2.1
  rw [Nat.zero_mul,Nat.add_zero] at h4
  exact ⟨b,off,e,h4⟩)
 have HB1:=a_ B1
 simp only [lgV] at HL
 simp only [qcV,tcV] at HQ HC
 generalize nmB nm=N0 at HF1 HN
 generalize lgB be la=L0 at HF1 HL
 generalize poolB pl=P0 at HF1 HP
 generalize setB st=V0 at HF1 HV
 generalize treeB tt=T0 at HF1 HT HHd
 generalize oddB tt ep=O0 at HF1 HHd HH0
 generalize qcB st hr hb hw=Q0 at HS2 HQ
 generalize tcB st tr tw th=C0 at HS2 HC
 clear q B1 hya hys hyt hyw hyx hyh hyv hyg hyd hyp hyq hf hg
 have k1:=K1.out
 have x0:=k1.cell 0
 have x1:=k1.cell 1
 have x2:=k1.cell 2
 have x3:=k1.cell 3
 have x4:=k1.cell 4
 have x5:=k1.cell 5
 have x18:=k1.cell 18
 simp only [gz_,gs_] at x0 x1 x2 x3 x4 x5 x18
 clear k1
 go_enter Tryz.func24,Tryz.ntmps24
 go_upto_region 1 with fail
 (try rw [hw1])
 clear hw1
 obtain ⟨M,hM⟩:∃ x,(Value.agg #[.string nm,.int .i64 ep,.int .i64 be,.slice ada la.length cpa,.slice ads st.length cps,.slice adt tt.length cpt,.int .i64 rd,.int .i64 vd,.int .i64 hr,.int .i64 hb,.slice adw hw.length cpw,.int .i64 tr,.slice adx tw.length cpx,.slice adh th.length cph,.int .i64 ld,.slice adv vo.length cpv,.slice adg go.length cpg,.slice add dn.length cpd,.slice adp pl.length cpp,.slice adq ps.length cpq])=x:=⟨_,rfl⟩
 rw [hM]
 clear hM
 go_cut [60] from 3 (fun bv wc=>bv=.bool (!X1)/\Below w1.heap.size w1 wc)
 case first =>
  have g0:=cell_regrown x0
  have g1:=cell_regrown x1
  have g2:=cell_regrown x2
  have g3:=cell_regrown x3
  have g4:=cell_regrown x4
  have g5:=cell_regrown x5
  have g18:=cell_regrown x18
  clear x0 x1 x2 x3 x4 x5 x18 HQ HC HS2 HMd HF
  cases N0
  ·rw [Bool.false_and] at HF1
   refine wp_region_quiet_below (by kernel_rfl) (by kernel_rfl) ?_
   (try dsimp only [List.append])
   repeat (go_big_quiet_step (first | (go_at_call 82;exact HN.out _ _) | (go_at_call 83;exact HL.out _ _) | (go_at_call 84;exact HP.out _ _) | (go_at_call 85;exact HV.out _ _) | (go_at_call 86;exact HT.out _ _)))
   refine wpQuiet_nil ?_
   intro _ hw'
   obtain ⟨⟨dq,osq⟩,hw''⟩:=hw'
   subst hw''
   go_wp2
   go_meet
   case rel=>exact ⟨by rw [HF1.out];rfl,below_regrown w1 dq osq⟩
  ·rw [Bool.true_and] at HF1
   cases L0
   ·rw [Bool.false_and] at HF1
    refine wp_region_quiet_below (by kernel_rfl) (by kernel_rfl) ?_
    (try dsimp only [List.append])
    repeat (go_big_quiet_step (first | (go_at_call 82;exact HN.out _ _) | (go_at_call 83;exact HL.out _ _) | (go_at_call 84;exact HP.out _ _) | (go_at_call 85;exact HV.out _ _) | (go_at_call 86;exact HT.out _ _)))
    refine wpQuiet_nil ?_
    intro _ hw'
    obtain ⟨⟨dq,osq⟩,hw''⟩:=hw'
    subst hw''
    go_wp2
    go_meet
    case rel=>exact ⟨by rw [HF1.out];rfl,below_regrown w1 dq osq⟩
   ·rw [Bool.true_and] at HF1
    by_cases h2:be=ep
    ·rw [decide_eq_true h2,Bool.true_and] at HF1
     have h2i:(be != ep)=false:=by rw [bne_eq_false_iff_eq];exact h2
     clear h2
     cases P0
     ·rw [Bool.false_and] at HF1
      refine wp_region_quiet_below (by kernel_rfl) (by kernel_rfl) ?_
      (try dsimp only [List.append])
      repeat (go_big_quiet_step (first | (go_at_call 82;exact HN.out _ _) | (go_at_call 83;exact HL.out _ _) | (go_at_call 84;exact HP.out _ _) | (go_at_call 85;exact HV.out _ _) | (go_at_call 86;exact HT.out _ _)))
      refine wpQuiet_nil ?_
      intro _ hw'
      obtain ⟨⟨dq,osq⟩,hw''⟩:=hw'
      subst hw''
      go_wp2
      go_meet
      case rel=>exact ⟨by rw [HF1.out];rfl,below_regrown w1 dq osq⟩
     ·rw [Bool.true_and] at HF1
      by_cases h4:st.length=0
      ·rw [decide_eq_true h4,Bool.true_or,Bool.true_and] at HF1
       have h4i:decide (0 < st.length)=false:=by rw [decide_eq_false_iff_not];omega
       clear h4
       cases T0
       ·rw [Bool.false_and] at HF1
        refine wp_region_quiet_below (by kernel_rfl) (by kernel_rfl) ?_
        (try dsimp only [List.append])
        repeat (go_big_quiet_step (first | (go_at_call 82;exact HN.out _ _) | (go_at_call 83;exact HL.out _ _) | (go_at_call 84;exact HP.out _ _) | (go_at_call 85;exact HV.out _ _) | (go_at_call 86;exact HT.out _ _)))
        refine wpQuiet_nil ?_
        intro _ hw'
        obtain ⟨⟨dq,osq⟩,hw''⟩:=hw'
        subst hw''
        go_wp2
        go_meet
        case rel=>exact ⟨by rw [HF1.out];rfl,below_regrown w1 dq osq⟩
       ·rw [Bool.true_and] at HF1
        by_cases h6:tt.length=0
        ·rw [HH0.out h6,Bool.not_false] at HF1
         have h6i:decide (0 < tt.length)=false:=by rw [decide_eq_false_iff_not];omega
         clear h6 HTc HHd HH0
         refine wp_region_quiet_below (by kernel_rfl) (by kernel_rfl) ?_
         (try dsimp only [List.append])
         repeat (go_big_quiet_step (first | (go_at_call 82;exact HN.out _ _) | (go_at_call 83;exact HL.out _ _) | (go_at_call 84;exact HP.out _ _) | (go_at_call 85;exact HV.out _ _) | (go_at_call 86;exact HT.out _ _)))
         refine wpQuiet_nil ?_
         intro _ hw'
         obtain ⟨⟨dq,osq⟩,hw''⟩:=hw'
         subst hw''
         go_wp2
         go_meet
         case rel=>exact ⟨by rw [HF1.out];rfl,below_regrown w1 dq osq⟩
        ·have h6p:0 < tt.length:=by omega
         obtain ⟨b,off,rfl,t0⟩:=HTc.out h6p
         have gt:=cell_regrown t0
         rw [HHd.out rfl h6p,Bool.not_not] at HF1
         have h6i:decide (0 < tt.length)=true:=by rw [decide_eq_true_iff];omega
         have h6n:(0:Int) < (tt.length:Int):=by omega
         generalize tt[0].ep=te at HF1 gt t0
         clear h6 HTc HHd HH0 t0
         by_cases h7:te=ep
         ·rw [decide_eq_true h7] at HF1
          have h7i:(te != ep)=false:=by rw [bne_eq_false_iff_eq];exact h7
          clear h7 h6p
          refine wp_region_quiet_below (by kernel_rfl) (by kernel_rfl) ?_
          (try dsimp only [List.append])
          repeat (go_big_quiet_step (first | (go_at_call 82;exact HN.out _ _) | (go_at_call 83;exact HL.out _ _) | (go_at_call 84;exact HP.out _ _) | (go_at_call 85;exact HV.out _ _) | (go_at_call 86;exact HT.out _ _)))
          refine wpQuiet_nil ?_
          intro _ hw'
          obtain ⟨⟨dq,osq⟩,hw''⟩:=hw'
          subst hw''
          go_wp2
          go_meet
          case rel=>exact ⟨by rw [HF1.out];rfl,below_regrown w1 dq osq⟩
         ·rw [decide_eq_false h7] at HF1
          have h7i:(te != ep)=true:=by rw [bne_iff_ne];exact h7
          clear h7 h6p
          refine wp_region_quiet_below (by kernel_rfl) (by kernel_rfl) ?_
          (try dsimp only [List.append])
          repeat (go_big_quiet_step (first | (go_at_call 82;exact HN.out _ _) | (go_at_call 83;exact HL.out _ _) | (go_at_call 84;exact HP.out _ _) | (go_at_call 85;exact HV.out _ _) | (go_at_call 86;exact HT.out _ _)))
          refine wpQuiet_nil ?_
          intro _ hw'
          obtain ⟨⟨dq,osq⟩,hw''⟩:=hw'
          subst hw''
          go_wp2
          go_meet
          case rel=>exact ⟨by rw [HF1.out];rfl,below_regrown w1 dq osq⟩
      ·rw [decide_eq_false h4,Bool.false_or] at HF1
       have h4i:decide (0 < st.length)=true:=by rw [decide_eq_true_iff];omega
       clear h4
       cases V0
       ·rw [Bool.false_and] at HF1
        refine wp_region_quiet_below (by kernel_rfl) (by kernel_rfl) ?_
        (try dsimp only [List.append])
        repeat (go_big_quiet_step (first | (go_at_call 82;exact HN.out _ _) | (go_at_call 83;exact HL.out _ _) | (go_at_call 84;exact HP.out _ _) | (go_at_call 85;exact HV.out _ _) | (go_at_call 86;exact HT.out _ _)))
        refine wpQuiet_nil ?_
        intro _ hw'
        obtain ⟨⟨dq,osq⟩,hw''⟩:=hw'
        subst hw''
        go_wp2
        go_meet
        case rel=>exact ⟨by rw [HF1.out];rfl,below_regrown w1 dq osq⟩
       ·rw [Bool.true_and] at HF1
        cases T0
        ·rw [Bool.false_and] at HF1
         refine wp_region_quiet_below (by kernel_rfl) (by kernel_rfl) ?_
         (try dsimp only [List.append])
         repeat (go_big_quiet_step (first | (go_at_call 82;exact HN.out _ _) | (go_at_call 83;exact HL.out _ _) | (go_at_call 84;exact HP.out _ _) | (go_at_call 85;exact HV.out _ _) | (go_at_call 86;exact HT.out _ _)))
         refine wpQuiet_nil ?_
         intro _ hw'
         obtain ⟨⟨dq,osq⟩,hw''⟩:=hw'
         subst hw''
         go_wp2
         go_meet
         case rel=>exact ⟨by rw [HF1.out];rfl,below_regrown w1 dq osq⟩
        ·rw [Bool.true_and] at HF1
         by_cases h6:tt.length=0
         ·rw [HH0.out h6,Bool.not_false] at HF1
          have h6i:decide (0 < tt.length)=false:=by rw [decide_eq_false_iff_not];omega
          clear h6 HTc HHd HH0
          refine wp_region_quiet_below (by kernel_rfl) (by kernel_rfl) ?_
          (try dsimp only [List.append])
          repeat (go_big_quiet_step (first | (go_at_call 82;exact HN.out _ _) | (go_at_call 83;exact HL.out _ _) | (go_at_call 84;exact HP.out _ _) | (go_at_call 85;exact HV.out _ _) | (go_at_call 86;exact HT.out _ _)))
          refine wpQuiet_nil ?_
          intro _ hw'
          obtain ⟨⟨dq,osq⟩,hw''⟩:=hw'
          subst hw''
          go_wp2
          go_meet
          case rel=>exact ⟨by rw [HF1.out];rfl,below_regrown w1 dq osq⟩
         ·have h6p:0 < tt.length:=by omega
          obtain ⟨b,off,rfl,t0⟩:=HTc.out h6p
          have gt:=cell_regrown t0
          rw [HHd.out rfl h6p,Bool.not_not] at HF1
          have h6i:decide (0 < tt.length)=true:=by rw [decide_eq_true_iff];omega
          have h6n:(0:Int) < (tt.length:Int):=by omega
          generalize tt[0].ep=te at HF1 gt t0
          clear h6 HTc HHd HH0 t0
          by_cases h7:te=ep
          ·rw [decide_eq_true h7] at HF1
           have h7i:(te != ep)=false:=by rw [bne_eq_false_iff_eq];exact h7
           clear h7 h6p
           refine wp_region_quiet_below (by kernel_rfl) (by kernel_rfl) ?_
           (try dsimp only [List.append])
           repeat (go_big_quiet_step (first | (go_at_call 82;exact HN.out _ _) | (go_at_call 83;exact HL.out _ _) | (go_at_call 84;exact HP.out _ _) | (go_at_call 85;exact HV.out _ _) | (go_at_call 86;exact HT.out _ _)))
           refine wpQuiet_nil ?_
           intro _ hw'
           obtain ⟨⟨dq,osq⟩,hw''⟩:=hw'
           subst hw''
           go_wp2
           go_meet
           case rel=>exact ⟨by rw [HF1.out];rfl,below_regrown w1 dq osq⟩
          ·rw [decide_eq_false h7] at HF1
           have h7i:(te != ep)=true:=by rw [bne_iff_ne];exact h7
           clear h7 h6p
           refine wp_region_quiet_below (by kernel_rfl) (by kernel_rfl) ?_
           (try dsimp only [List.append])
           repeat (go_big_quiet_step (first | (go_at_call 82;exact HN.out _ _) | (go_at_call 83;exact HL.out _ _) | (go_at_call 84;exact HP.out _ _) | (go_at_call 85;exact HV.out _ _) | (go_at_call 86;exact HT.out _ _)))
           refine wpQuiet_nil ?_
           intro _ hw'
           obtain ⟨⟨dq,osq⟩,hw''⟩:=hw'
           subst hw''
           go_wp2
           go_meet
           case rel=>exact ⟨by rw [HF1.out];rfl,below_regrown w1 dq osq⟩
    ·rw [decide_eq_false h2,Bool.false_and] at HF1
     have h2i:(be != ep)=true:=by rw [bne_iff_ne];exact h2
     clear h2
     refine wp_region_quiet_below (by kernel_rfl) (by kernel_rfl) ?_
     (try dsimp only [List.append])
     repeat (go_big_quiet_step (first | (go_at_call 82;exact HN.out _ _) | (go_at_call 83;exact HL.out _ _) | (go_at_call 84;exact HP.out _ _) | (go_at_call 85;exact HV.out _ _) | (go_at_call 86;exact HT.out _ _)))
     refine wpQuiet_nil ?_
     intro _ hw'
     obtain ⟨⟨dq,osq⟩,hw''⟩:=hw'
     subst hw''
     go_wp2
     go_meet
     case rel=>exact ⟨by rw [HF1.out];rfl,below_regrown w1 dq osq⟩
 case rest =>
  obtain ⟨rfl,hb2⟩:=hcut
  obtain ⟨w2,rfl⟩:∃ x,x=wc:=⟨_,rfl⟩
  have B2:=HB1.out.trans (hb2.mono HB1.out.size)
  have k2:=K1.out.below hb2 K1.out.lt
  clear x0 x1 x2 x3 x4 x5 x18 HN HL HP HV HT HHd HH0 HTc HF1 K1 hb2
  cases X1
  ·rw [Bool.false_and] at HF
   clear k2 HQ HC HS2 HMd
   go_wp2
   go_ret
   exact ⟨b_ HF.out.symm,B2⟩
  ·rw [Bool.true_and] at HF
   have qq:=fun (d:Nat) (os:Array Obj)=>B2.trans ((below_regrown w2 d os).mono B2.size)
   have HQ:=a_ (fun (d:Nat) (os:Array Obj)=>Calls.regrown_of (HQ.out (HMd.out rfl) _ (qq d os)))
   have HC:=a_ (fun (d:Nat) (os:Array Obj)=>Calls.regrown_of (HC.out (HMd.out rfl) _ (qq d os)))
   rw [HS2.out] at HF
   clear qq
   have y4:=k2.cell 4
   have y6:=k2.cell 6
   have y7:=k2.cell 7
   have y8:=k2.cell 8
   have y9:=k2.cell 9
   have y10:=k2.cell 10
   have y11:=k2.cell 11
   have y12:=k2.cell 12
   have y13:=k2.cell 13
   have y14:=k2.cell 14
   have y15:=k2.cell 15
   have y16:=k2.cell 16
   have y17:=k2.cell 17
   have y19:=k2.cell 19
   simp only [gz_,gs_] at y4 y6 y7 y8 y9 y10 y11 y12 y13 y14 y15 y16 y17 y19
   have g4:=cell_regrown y4
   have g6:=cell_regrown y6
   have g7:=cell_regrown y7
   have g8:=cell_regrown y8
   have g9:=cell_regrown y9
   have g10:=cell_regrown y10
   have g11:=cell_regrown y11
   have g12:=cell_regrown y12
   have g13:=cell_regrown y13
   have g14:=cell_regrown y14
   have g15:=cell_regrown y15
   have g16:=cell_regrown y16
   have g17:=cell_regrown y17
   have g19:=cell_regrown y19
   clear k2 HS2 HMd y4 y6 y7 y8 y9 y10 y11 y12 y13 y14 y15 y16 y17 y19
   have HB2:=a_ B2
   clear B2
   have HI0:=a_ (fun (d:Nat) (os:Array Obj)=>G_ (d_ rd 1 10000 (grow (redrawn w2 d) os)))
   cases h0:inB rd 1 10000
   ·rw [h0,Bool.false_and] at HF
    rw [h0] at HI0
    clear h0
    go_upto_region 3 with fail
    refine u_ ?_
    dsimp only [List.append]
    repeat (go_big_quiet_step (first | (go_at_call 87;with_reducible exact HI0.out _ _)))
    refine wpQuiet_nil ?_
    intro _ hw'
    obtain ⟨⟨dq,osq⟩,hw''⟩:=hw'
    subst hw''
    go_wp2
    go_ret
    exact ⟨b_ HF.out.symm,HB2.out.trans ((below_regrown w2 dq osq).mono HB2.out.size)⟩
   ·rw [h0, Bool.true_and] at HF
    rw [h0] at HI0
    clear h0
    by_cases h1:hr < rd
    ·rw [decide_eq_true h1,Bool.true_and] at HF
     have h1i:decide (hr < rd)=true:=decide_eq_true h1
     clear h1
     by_cases h2:tr < rd
     ·rw [decide_eq_true h2,Bool.true_and] at HF
      have h2i:decide (tr < rd)=true:=decide_eq_true h2
      clear h2
      have HI3:=a_ (fun (d:Nat) (os:Array Obj)=>G_ (d_ vd 0 10000 (grow (redrawn w2 d) os)))
      cases h3:inB vd 0 10000
      ·rw [h3,Bool.false_and] at HF
       rw [h3] at HI3
       clear h3
       go_upto_region 3 with fail
       refine u_ ?_
       dsimp only [List.append]
       repeat (go_big_quiet_step (first | (go_at_call 87;with_reducible exact HI0.out _ _) | (go_at_call 87;with_reducible exact HI3.out _ _)))
       refine wpQuiet_nil ?_
       intro _ hw'
       obtain ⟨⟨dq,osq⟩,hw''⟩:=hw'
       subst hw''
       go_wp2
       go_ret
       exact ⟨b_ HF.out.symm,HB2.out.trans ((below_regrown w2 dq osq).mono HB2.out.size)⟩
      ·rw [h3, Bool.true_and] at HF
       rw [h3] at HI3
       clear h3
       have HI4:=a_ (fun (d:Nat) (os:Array Obj)=>G_ (d_ ld 0 10000 (grow (redrawn w2 d) os)))
       cases h4:inB ld 0 10000
       ·rw [h4,Bool.false_and] at HF
        rw [h4] at HI4
        clear h4
        go_upto_region 3 with fail
        refine u_ ?_
        dsimp only [List.append]
        repeat (go_big_quiet_step (first | (go_at_call 87;with_reducible exact HI0.out _ _) | (go_at_call 87;with_reducible exact HI3.out _ _) | (go_at_call 87;with_reducible exact HI4.out _ _)))
        refine wpQuiet_nil ?_
        intro _ hw'
        obtain ⟨⟨dq,osq⟩,hw''⟩:=hw'
        subst hw''
        go_wp2
        go_ret
        exact ⟨b_ HF.out.symm,HB2.out.trans ((below_regrown w2 dq osq).mono HB2.out.size)⟩
       ·rw [h4, Bool.true_and] at HF
        rw [h4] at HI4
        clear h4
        cases Q0
        ·rw [Bool.false_and] at HF
         go_upto_region 3 with fail
         refine u_ ?_
         dsimp only [List.append]
         repeat (go_big_quiet_step (first | (go_at_call 87;with_reducible exact HI0.out _ _) | (go_at_call 87;with_reducible exact HI3.out _ _) | (go_at_call 87;with_reducible exact HI4.out _ _) | (go_at_call 88;exact HQ.out _ _)))
         refine wpQuiet_nil ?_
         intro _ hw'
         obtain ⟨⟨dq,osq⟩,hw''⟩:=hw'
         subst hw''
         go_wp2
         go_ret
         exact ⟨b_ HF.out.symm,HB2.out.trans ((below_regrown w2 dq osq).mono HB2.out.size)⟩
        ·rw [Bool.true_and] at HF
         cases C0
         ·rw [Bool.false_and] at HF
          go_upto_region 3 with fail
          refine u_ ?_
          dsimp only [List.append]
          repeat (go_big_quiet_step (first | (go_at_call 87;with_reducible exact HI0.out _ _) | (go_at_call 87;with_reducible exact HI3.out _ _) | (go_at_call 87;with_reducible exact HI4.out _ _) | (go_at_call 88;exact HQ.out _ _) | (go_at_call 89;exact HC.out _ _)))
          refine wpQuiet_nil ?_
          intro _ hw'
          obtain ⟨⟨dq,osq⟩,hw''⟩:=hw'
          subst hw''
          go_wp2
          go_ret
          exact ⟨b_ HF.out.symm,HB2.out.trans ((below_regrown w2 dq osq).mono HB2.out.size)⟩
         ·rw [Bool.true_and] at HF
          by_cases h7:vo.length<=1000
          ·rw [decide_eq_true h7,Bool.true_and] at HF
           have h7i:decide ((vo.length:Int)<=1000)=true:=by rw [decide_eq_true_iff];omega
           clear h7
           by_cases h8:go.length<=1000
           ·rw [decide_eq_true h8,Bool.true_and] at HF
            have h8i:decide ((go.length:Int)<=1000)=true:=by rw [decide_eq_true_iff];omega
            clear h8
            by_cases h9:dn.length<=200
            ·rw [decide_eq_true h9,Bool.true_and] at HF
             have h9i:decide ((dn.length:Int)<=200)=true:=by rw [decide_eq_true_iff];omega
             clear h9
             have HL9:decide ((ps.length:Int)<=200)=decide (ps.length<=200):=by rw [decide_eq_decide];omega
             rw [<- HL9] at HF
             clear HL9
             go_upto_region 3 with fail
             refine u_ ?_
             dsimp only [List.append]
             repeat (go_big_quiet_step (first | (go_at_call 87;with_reducible exact HI0.out _ _) | (go_at_call 87;with_reducible exact HI3.out _ _) | (go_at_call 87;with_reducible exact HI4.out _ _) | (go_at_call 88;exact HQ.out _ _) | (go_at_call 89;exact HC.out _ _)))
             refine wpQuiet_nil ?_
             intro _ hw'
             obtain ⟨⟨dq,osq⟩,hw''⟩:=hw'
             subst hw''
             go_wp2
             go_ret
             exact ⟨b_ HF.out.symm,HB2.out.trans ((below_regrown w2 dq osq).mono HB2.out.size)⟩
            ·rw [decide_eq_false h9,Bool.false_and] at HF
             have h9i:decide ((dn.length:Int)<=200)=false:=by rw [decide_eq_false_iff_not];omega
             clear h9
             go_upto_region 3 with fail
             refine u_ ?_
             dsimp only [List.append]
             repeat (go_big_quiet_step (first | (go_at_call 87;with_reducible exact HI0.out _ _) | (go_at_call 87;with_reducible exact HI3.out _ _) | (go_at_call 87;with_reducible exact HI4.out _ _) | (go_at_call 88;exact HQ.out _ _) | (go_at_call 89;exact HC.out _ _)))
             refine wpQuiet_nil ?_
             intro _ hw'
             obtain ⟨⟨dq,osq⟩,hw''⟩:=hw'
             subst hw''
             go_wp2
             go_ret
             exact ⟨b_ HF.out.symm,HB2.out.trans ((below_regrown w2 dq osq).mono HB2.out.size)⟩
           ·rw [decide_eq_false h8,Bool.false_and] at HF
            have h8i:decide ((go.length:Int)<=1000)=false:=by rw [decide_eq_false_iff_not];omega
            clear h8
            go_upto_region 3 with fail
            refine u_ ?_
            dsimp only [List.append]
            repeat (go_big_quiet_step (first | (go_at_call 87;with_reducible exact HI0.out _ _) | (go_at_call 87;with_reducible exact HI3.out _ _) | (go_at_call 87;with_reducible exact HI4.out _ _) | (go_at_call 88;exact HQ.out _ _) | (go_at_call 89;exact HC.out _ _)))
            refine wpQuiet_nil ?_
            intro _ hw'
            obtain ⟨⟨dq,osq⟩,hw''⟩:=hw'
            subst hw''
            go_wp2
            go_ret
            exact ⟨b_ HF.out.symm,HB2.out.trans ((below_regrown w2 dq osq).mono HB2.out.size)⟩
          ·rw [decide_eq_false h7,Bool.false_and] at HF
           have h7i:decide ((vo.length:Int)<=1000)=false:=by rw [decide_eq_false_iff_not];omega
           clear h7
           go_upto_region 3 with fail
           refine u_ ?_
           dsimp only [List.append]
           repeat (go_big_quiet_step (first | (go_at_call 87;with_reducible exact HI0.out _ _) | (go_at_call 87;with_reducible exact HI3.out _ _) | (go_at_call 87;with_reducible exact HI4.out _ _) | (go_at_call 88;exact HQ.out _ _) | (go_at_call 89;exact HC.out _ _)))
           refine wpQuiet_nil ?_
           intro _ hw'
           obtain ⟨⟨dq,osq⟩,hw''⟩:=hw'
           subst hw''
           go_wp2
           go_ret
           exact ⟨b_ HF.out.symm,HB2.out.trans ((below_regrown w2 dq osq).mono HB2.out.size)⟩
     ·rw [decide_eq_false h2,Bool.false_and] at HF
      have h2i:decide (tr < rd)=false:=decide_eq_false h2
      clear h2
      go_upto_region 3 with fail
      refine u_ ?_
      dsimp only [List.append]
      repeat (go_big_quiet_step (first | (go_at_call 87;with_reducible exact HI0.out _ _)))
      refine wpQuiet_nil ?_
      intro _ hw'
      obtain ⟨⟨dq,osq⟩,hw''⟩:=hw'
      subst hw''
      go_wp2
      go_ret
      exact ⟨b_ HF.out.symm,HB2.out.trans ((below_regrown w2 dq osq).mono HB2.out.size)⟩
    ·rw [decide_eq_false h1,Bool.false_and] at HF
     have h1i:decide (hr < rd)=false:=decide_eq_false h1
     clear h1
     go_upto_region 3 with fail
     refine u_ ?_
     dsimp only [List.append]
     repeat (go_big_quiet_step (first | (go_at_call 87;with_reducible exact HI0.out _ _)))
     refine wpQuiet_nil ?_
     intro _ hw'
     obtain ⟨⟨dq,osq⟩,hw''⟩:=hw'
     subst hw''
     go_wp2
     go_ret
     exact ⟨b_ HF.out.symm,HB2.out.trans ((below_regrown w2 dq osq).mono HB2.out.size)⟩
end Go.Proofs.YtamljhcmiphdgaaGreatDoor
