/- Submit's deed, tried. -/
import Derived.Test.YtamljhcmiphdgaaGreatDoorZvNdTry
import Derived.Test.YtamljhcmiphdgaaGreatDoorZvPlAddI
set_option maxRecDepth 20000
set_option maxHeartbeats 8000000
namespace Go.Proofs.YtamljhcmiphdgaaGreatDoor
open Go.RowKit
set_option linter.unusedVariables false
theorem hR_ (B:Nat) (cs:List Value) (v:Value) (l:List Tx5) (t:Tx5) (w:World) (h:Blk w B 91 cs) (hl:cs.length=24) (hv:cs[18]?=some v) (hr:RdT w v l) (hn:l.length<=3999999) (hall:∀ a ∈ l,a.2.1.size<=maxLen/\a.2.2.1.size<=maxLen) (ht:t.2.1.size<=maxLen/\t.2.2.1.size<=maxLen) (hok:(poS l t).2=true) :
  Calls Tryz.prog 38 #[.pointer (some ⟨B,0,none⟩),txV t] w fun e w'=>∃ v',e=.returned (.tuple #[])/\InT w.heap.size w'.heap.size w' v' (poS l t).1/\Blk w' B 91 (cs.set 18 v')/\Oth (fun g=>g=B) w w':=by
 have HA:=a_ (fun V (hV:Below w.heap.size w V)=>bF_ v l t V (hr.below hV (nr_ _)) hn hall ht)
 rw [hok] at HA
 generalize (poS l t).1=pl at HA ⊢
 clear hr hn hall ht hok
 obtain ⟨kd,fm,tn,am,nc⟩:=t
 simp only [txV] at HA ⊢
 obtain ⟨w1,hw1⟩:∃ x,w.alloc (.cells #[.int .i64 kd,.string fm,.string tn,.int .i64 am,.int .i64 nc] 59)=x:=⟨_,rfl⟩
 have b1:Below w.heap.size w w1:=by rw [<- hw1];exact (br_ _ w).alloc (nr_ _) _
 have kT:Blk w1 w.heap.size 59 [.int .i64 kd,.string fm,.string tn,.int .i64 am,.int .i64 nc]:=by rw [<- hw1];exact Blk.new w _ _
 have kB:Blk w1 B 91 cs:=h.below b1 h.lt
 have HS:Hid (∀ V,Below w1.heap.size w1 V->(V.cell? ⟨B,18,none⟩=some v/\V.cell? ⟨w.heap.size,0,none⟩=some (.int .i64 kd)/\V.cell? ⟨w.heap.size,1,none⟩=some (.string fm)/\V.cell? ⟨w.heap.size,2,none⟩=some (.string tn)/\V.cell? ⟨w.heap.size,3,none⟩=some (.int .i64 am)/\V.cell? ⟨w.heap.size,4,none⟩=some (.int .i64 nc))):=a_ (fun V hV=>⟨((kB.below hV kB.lt).cell 18).trans hv,(kT.below hV kT.lt).cell 0,(kT.below hV kT.lt).cell 1,(kT.below hV kT.lt).cell 2,(kT.below hV kT.lt).cell 3,(kT.below hV kT.lt).cell 4⟩)
 have bD:Below w1.heap.size w1 w1.drew:=(br_ _ w1).drew
 have hS1:=HS.out _ bD
 have B1:=a_ b1
 have KB:=a_ kB
 clear b1 kT kB
 go_enter Tryz.func38,Tryz.ntmps38
 go_upto_region 1 with fail
 (try rw [hw1])
 go_region_held_law (fun w'=>w'.cell? ⟨B,18,none⟩=some v/\w'.cell? ⟨w.heap.size,0,none⟩=some (.int .i64 kd)/\w'.cell? ⟨w.heap.size,1,none⟩=some (.string fm)/\w'.cell? ⟨w.heap.size,2,none⟩=some (.string tn)/\w'.cell? ⟨w.heap.size,3,none⟩=some (.int .i64 am)/\w'.cell? ⟨w.heap.size,4,none⟩=some (.int .i64 nc)) (first | with_reducible exact hS1 | with_reducible exact hS2) ((go_at_call 101;(with_reducible refine (HA.out _ (B1.out.trans (bD.mono B1.out.size))).mono ?_);rintro e w2 ⟨v',rfl,o2,hb2⟩;obtain ⟨av,cv,hsh⟩:=o2.rd.shape;subst hsh;have c2:=bD.trans (hb2.mono bD.size);have hS2:=HS.out _ c2))
 have Z2:=a_ (show w.heap.size<=w1.drew.heap.size from Nat.le_trans B1.out.size bD.size)
 have B2:=a_ (B1.out.trans (c2.mono B1.out.size))
 have K2:=a_ (KB.out.below c2 KB.out.lt)
 have O2:=a_ o2
 clear hS1 hS2 HS bD c2 hb2 o2 KB B1 hw1
 go_wp2_with fail
 refine (aK_ w2).mono ?_
 rintro e w2 ⟨rfl,rfl⟩
 have x18:=K2.out.cell 18
 rw [hv] at x18
 have f18:=K2.out.frozen 18
 have HK:=a_ (K2.out.setC 18 (.slice av pl.length cv))
 have HB:Hid (B < w.heap.size):=a_ h.lt
 have HO:=a_ (((Oth.of_below (S:=fun g=>g=B) B2.out):Oth (fun g=>g=B) w w2).set (S:=fun g=>g=B) rfl 18 (.slice av pl.length cv))
 have HI:=a_ (show InT w.heap.size (w2.setCell ⟨B,18,none⟩ (.slice av pl.length cv)).heap.size (w2.setCell ⟨B,18,none⟩ (.slice av pl.length cv)) (.slice av pl.length cv) pl from (InT.of ((O2.out.mono1 Z2.out).olderC (h.lt) 18 (.slice av pl.length cv))).wide (nr_ _) (nr_ _))
 clear O2 K2 B2 Z2 h
 go_wp2
 go_end0
 exact ⟨_,rfl,HI.out,HK.out,HO.out⟩
theorem jq_ (B:Nat) (cs:List Value) (v:Value) (l:List Tx5) (t:Tx5) (b0:Addr) (w:World) (h:Blk w B 91 cs) (hl:cs.length=24) (hv:cs[18]?=some v) (hr:RdT w v l) (hn:l.length<=3999999) (hall:∀ a ∈ l,a.2.1.size<=maxLen/\a.2.2.1.size<=maxLen) (ht:t.2.1.size<=maxLen/\t.2.2.1.size<=maxLen) (hge:Gc w b0) (hG:0 < w.heap.size) (hok:(poS l t).2=false) :
  Calls Tryz.prog 38 #[.pointer (some ⟨B,0,none⟩),txV t] w fun e w'=>e=.panicked [{ v:=errV b0,recovered:=false }]/\Below w.heap.size w w':=by
 have HA:=a_ (fun V (hV:Below w.heap.size w V)=>bF_ v l t V (hr.below hV (nr_ _)) hn hall ht)
 rw [hok] at HA
 generalize (poS l t).1=pl at HA ⊢
 clear hr hn hall ht hok
 obtain ⟨kd,fm,tn,am,nc⟩:=t
 simp only [txV] at HA ⊢
 obtain ⟨w1,hw1⟩:∃ x,w.alloc (.cells #[.int .i64 kd,.string fm,.string tn,.int .i64 am,.int .i64 nc] 59)=x:=⟨_,rfl⟩
 have b1:Below w.heap.size w w1:=by rw [<- hw1];exact (br_ _ w).alloc (nr_ _) _
 have kT:Blk w1 w.heap.size 59 [.int .i64 kd,.string fm,.string tn,.int .i64 am,.int .i64 nc]:=by rw [<- hw1];exact Blk.new w _ _
 have kB:Blk w1 B 91 cs:=h.below b1 h.lt
 have HS:Hid (∀ V,Below w1.heap.size w1 V->(V.cell? ⟨B,18,none⟩=some v/\V.cell? ⟨w.heap.size,0,none⟩=some (.int .i64 kd)/\V.cell? ⟨w.heap.size,1,none⟩=some (.string fm)/\V.cell? ⟨w.heap.size,2,none⟩=some (.string tn)/\V.cell? ⟨w.heap.size,3,none⟩=some (.int .i64 am)/\V.cell? ⟨w.heap.size,4,none⟩=some (.int .i64 nc))):=a_ (fun V hV=>⟨((kB.below hV kB.lt).cell 18).trans hv,(kT.below hV kT.lt).cell 0,(kT.below hV kT.lt).cell 1,(kT.below hV kT.lt).cell 2,(kT.below hV kT.lt).cell 3,(kT.below hV kT.lt).cell 4⟩)
 have bD:Below w1.heap.size w1 w1.drew:=(br_ _ w1).drew
 have hS1:=HS.out _ bD
 have B1:=a_ b1
 have KB:=a_ kB
 clear b1 kT kB
 go_enter Tryz.func38,Tryz.ntmps38
 go_upto_region 1 with fail
 (try rw [hw1])
 go_region_held_law (fun w'=>w'.cell? ⟨B,18,none⟩=some v/\w'.cell? ⟨w.heap.size,0,none⟩=some (.int .i64 kd)/\w'.cell? ⟨w.heap.size,1,none⟩=some (.string fm)/\w'.cell? ⟨w.heap.size,2,none⟩=some (.string tn)/\w'.cell? ⟨w.heap.size,3,none⟩=some (.int .i64 am)/\w'.cell? ⟨w.heap.size,4,none⟩=some (.int .i64 nc)) (first | with_reducible exact hS1 | with_reducible exact hS2) ((go_at_call 101;(with_reducible refine (HA.out _ (B1.out.trans (bD.mono B1.out.size))).mono ?_);rintro e w2 ⟨v',rfl,o2,hb2⟩;obtain ⟨av,cv,hsh⟩:=o2.rd.shape;subst hsh;have c2:=bD.trans (hb2.mono bD.size);have hS2:=HS.out _ c2))
 have Z2:=a_ (show w.heap.size<=w1.drew.heap.size from Nat.le_trans B1.out.size bD.size)
 have B2:=a_ (B1.out.trans (c2.mono B1.out.size))
 have K2:=a_ (KB.out.below c2 KB.out.lt)
 have O2:=a_ o2
 clear hS1 hS2 HS bD c2 hb2 o2 KB B1 hw1
 go_wp2_with fail
 refine (cq_ b0 w2 (hge.below B2.out hG)).mono ?_
 rintro e w2 ⟨rfl,rfl⟩
 go_wp2
 exact ⟨rfl,rfl,B2.out⟩
def noS (v':Value) (p:Nd) (u:Nv):List Value:=(noC p u).set 18 v' ++ [.slice none 0 0,.slice none 0 0,.slice none 0 0,.bool false]
theorem fa_ (B TB:Nat) (cs:List Value) (v:Value) (l:List Tx5) (t:Tx5) (w:World) (h:Blk w B 91 cs) (hl:cs.length=24) (hv:cs[18]?=some v) (hT:Blk w TB 59 (txC t)) (hr:RdT w v l) (hn:l.length<=3999999) (hall:∀ a ∈ l,a.2.1.size<=maxLen/\a.2.2.1.size<=maxLen) (ht:t.2.1.size<=maxLen/\t.2.2.1.size<=maxLen) (hok:(poS l t).2=true) :
  Calls Tryz.prog 37 #[.pointer (some ⟨B,0,none⟩),.pointer (some ⟨TB,0,none⟩)] w fun e w'=>∃ v',e=.returned (.tuple #[])/\InT w.heap.size w'.heap.size w' v' (poS l t).1/\Blk w' B 91 (cs.set 18 v')/\Oth (fun g=>g=B) w w':=by
 have HF:=a_ (hR_ B cs v l t w h hl hv hr hn hall ht hok)
 generalize (poS l t).1=pl at HF ⊢
 clear h hl hv hr hn hall ht hok
 obtain ⟨kd,fm,tn,am,nc⟩:=t
 simp only [txC,txV] at *
 have c0:=hT.cell 0
 have c1:=hT.cell 1
 have c2:=hT.cell 2
 have c3:=hT.cell 3
 have c4:=hT.cell 4
 simp only [gz_,gs_] at c0 c1 c2 c3 c4
 clear hT
 go_enter Tryz.func37,Tryz.ntmps37
 go_wp2_with fail
 refine HF.out.mono ?_
 rintro e w1 ⟨v',rfl,h1,h2,h3⟩
 have H1:=a_ h1
 have H2:=a_ h2
 have H3:=a_ h3
 clear h1 h2 h3
 go_wp2
 go_end0
 exact ⟨_,rfl,H1.out,H2.out,H3.out⟩
theorem gk_ (B TB:Nat) (cs:List Value) (v:Value) (l:List Tx5) (t:Tx5) (b0:Addr) (w:World) (hge:Gc w b0) (hG:0 < w.heap.size) (h:Blk w B 91 cs) (hl:cs.length=24) (hv:cs[18]?=some v) (hT:Blk w TB 59 (txC t)) (hr:RdT w v l) (hn:l.length<=3999999) (hall:∀ a ∈ l,a.2.1.size<=maxLen/\a.2.2.1.size<=maxLen) (ht:t.2.1.size<=maxLen/\t.2.2.1.size<=maxLen) (hok:(poS l t).2=false) :
  Calls Tryz.prog 37 #[.pointer (some ⟨B,0,none⟩),.pointer (some ⟨TB,0,none⟩)] w fun e w'=>e=.panicked [{ v:=errV b0,recovered:=false }]/\Below w.heap.size w w':=by
 have HF:=a_ (jq_ B cs v l t b0 w h hl hv hr hn hall ht hge hG hok)
 generalize (poS l t).1=pl at HF ⊢
 clear h hl hv hr hn hall ht hok
 obtain ⟨kd,fm,tn,am,nc⟩:=t
 simp only [txC,txV] at *
 have c0:=hT.cell 0
 have c1:=hT.cell 1
 have c2:=hT.cell 2
 have c3:=hT.cell 3
 have c4:=hT.cell 4
 simp only [gz_,gs_] at c0 c1 c2 c3 c4
 clear hT
 go_enter Tryz.func37,Tryz.ntmps37
 go_wp2_with fail
 refine HF.out.mono ?_
 rintro e w1 ⟨rfl,h1⟩
 have H1:=a_ h1
 clear h1
 go_wp2
 exact ⟨rfl,rfl,H1.out⟩
theorem dt_ (TB:Nat) (p:Nd) (u:Nv) (b0:Addr) (w:World) (hrd:RdNd w p u) (hfw:FewNd p) (hft:FitNd p) (hge:Gc w b0) (hG:0 < w.heap.size) (hok:nodB p=false) :
  Calls Tryz.prog 36 #[noV p u,.func (.func 37) #[] #[.pointer (some ⟨TB,0,none⟩)]] w fun e w'=>e=.returned (.tuple #[.agg (noT false p u).toArray,.bool false])/\Below w.heap.size w w':=by
 have HN:=a_ (fun V (hV:Below w.heap.size w V)=>al_ p u V (hrd.below hV (nr_ _)) hfw hft)
 rw [hok] at HN
 have hmf:∀ (fn:Fn) (first cap:Array Value) (w:World),(Instr.makeFunc fn first cap).run Tryz.prog w=.ok (.func fn first cap) w:=fun _ _ _ _=>rfl
 have hs:=hrd
 obtain ⟨nm,ep,be,la,st,tt,rd,vd,hr,hb,hw,tr,tw,th,ld,vo,go,dn,pl,ps⟩:=p
 obtain ⟨ya,ys,yt,yw,yx,yh,yv,yg,yd,yp,yq⟩:=u
 obtain ⟨hya,hys,hyt,hyw,hyx,hyh,hyv,hyg,hyd,hyp,hyq⟩:=hs
 simp only at *
 obtain ⟨ada,cpa,rfl⟩:=hya.shape
 obtain ⟨ads,cps,rfl⟩:=hys.shape
 obtain ⟨adt,cpt,rfl⟩:=hyt.shape
 obtain ⟨adw,cpw,rfl⟩:=hyw.shape
 obtain ⟨adx,cpx,rfl⟩:=hyx.shape
 obtain ⟨adh,cph,rfl⟩:=hyh.shape
 obtain ⟨adv,cpv,rfl⟩:=hyv.shape
 obtain ⟨adg,cpg,rfl⟩:=hyg.shape
 obtain ⟨add,cpd,rfl⟩:=hyd.shape
 obtain ⟨adp,cpp,rfl⟩:=hyp.shape
 obtain ⟨adq,cpq,rfl⟩:=hyq.shape
 have HT:=a_ (show noT false ⟨nm,ep,be,la,st,tt,rd,vd,hr,hb,hw,tr,tw,th,ld,vo,go,dn,pl,ps⟩ ⟨.slice ada la.length cpa,.slice ads st.length cps,.slice adt tt.length cpt,.slice adw hw.length cpw,.slice adx tw.length cpx,.slice adh th.length cph,.slice adv vo.length cpv,.slice adg go.length cpg,.slice add dn.length cpd,.slice adp pl.length cpp,.slice adq ps.length cpq⟩=[.string nm,.int .i64 ep,.int .i64 be,.slice ada la.length cpa,.slice ads st.length cps,.slice adt tt.length cpt,.int .i64 rd,.int .i64 vd,.int .i64 hr,.int .i64 hb,.slice adw hw.length cpw,.int .i64 tr,.slice adx tw.length cpx,.slice adh th.length cph,.int .i64 ld,.slice adv vo.length cpv,.slice adg go.length cpg,.slice add dn.length cpd,.slice adp pl.length cpp,.slice adq ps.length cpq,.slice none 0 0,.slice none 0 0,.slice none 0 0,.bool false] from rfl)
 rw [HT.out]
 clear hrd hfw hft hok HT hya hys hyt hyw hyx hyh hyv hyg hyd hyp hyq
 simp only [noV] at *
 obtain ⟨S0,hS0⟩:∃ x,((w.alloc (.cells #[.string nm,.int .i64 ep,.int .i64 be,.slice ada la.length cpa,.slice ads st.length cps,.slice adt tt.length cpt,.int .i64 rd,.int .i64 vd,.int .i64 hr,.int .i64 hb,.slice adw hw.length cpw,.int .i64 tr,.slice adx tw.length cpx,.slice adh th.length cph,.int .i64 ld,.slice adv vo.length cpv,.slice adg go.length cpg,.slice add dn.length cpd,.slice adp pl.length cpp,.slice adq ps.length cpq] 55)).alloc (.cells #[.string { data:=#[] },.int .i64 0,.int .i64 0,.slice none 0 0,.slice none 0 0,.slice none 0 0,.int .i64 0,.int .i64 0,.int .i64 0,.int .i64 0,.slice none 0 0,.int .i64 0,.slice none 0 0,.slice none 0 0,.int .i64 0,.slice none 0 0,.slice none 0 0,.slice none 0 0,.slice none 0 0,.slice none 0 0,.slice none 0 0,.slice none 0 0,.slice none 0 0,.bool false] 91)).alloc (.cells #[.bool false] 4)=x:=⟨_,rfl⟩
 have b0':Below w.heap.size w S0:=by rw [<- hS0];exact (((br_ _ w).alloc (nr_ _) _).alloc (by simp) _).alloc (by simp;omega) _
 have K0:=a_ (show Blk S0 w.heap.size 55 [.string nm,.int .i64 ep,.int .i64 be,.slice ada la.length cpa,.slice ads st.length cps,.slice adt tt.length cpt,.int .i64 rd,.int .i64 vd,.int .i64 hr,.int .i64 hb,.slice adw hw.length cpw,.int .i64 tr,.slice adx tw.length cpx,.slice adh th.length cph,.int .i64 ld,.slice adv vo.length cpv,.slice adg go.length cpg,.slice add dn.length cpd,.slice adp pl.length cpp,.slice adq ps.length cpq] from by rw [<- hS0];exact (Blk.new w _ _).below (((br_ (w.heap.size+1) _).alloc (by simp) _).alloc (by simp) _) (by omega))
 have X0:=a_ (show Blk S0 (w.heap.size+1) 91 [.string { data:=#[] },.int .i64 0,.int .i64 0,.slice none 0 0,.slice none 0 0,.slice none 0 0,.int .i64 0,.int .i64 0,.int .i64 0,.int .i64 0,.slice none 0 0,.int .i64 0,.slice none 0 0,.slice none 0 0,.int .i64 0,.slice none 0 0,.slice none 0 0,.slice none 0 0,.slice none 0 0,.slice none 0 0,.slice none 0 0,.slice none 0 0,.slice none 0 0,.bool false] from by rw [<- hS0];exact (Blk.newR _ _ [.string { data:=#[] },.int .i64 0,.int .i64 0,.slice none 0 0,.slice none 0 0,.slice none 0 0,.int .i64 0,.int .i64 0,.int .i64 0,.int .i64 0,.slice none 0 0,.int .i64 0,.slice none 0 0,.slice none 0 0,.int .i64 0,.slice none 0 0,.slice none 0 0,.slice none 0 0,.slice none 0 0,.slice none 0 0,.slice none 0 0,.slice none 0 0,.slice none 0 0,.bool false] _ (by simp)).below ((br_ (w.heap.size+2) _).alloc (by simp) _) (by omega))
 have Y0:=a_ (show Blk S0 (w.heap.size+2) 4 [.bool false] from by rw [<- hS0];exact Blk.newR _ _ [.bool false] _ (by simp))
 have B0:=a_ b0'
 have HL:=a_ (c_ K0.out)
 clear b0'
 go_enter_defers Tryz.func36,Tryz.ntmps36
 go_upto_region 2 with fail
 (try rw [hS0])
 clear hS0
 go_wp2_with (first
  | (refine wpList_load_mid rfl 55 _ rfl w.heap.size 0 rfl [.string nm,.int .i64 ep,.int .i64 be,.slice ada la.length cpa,.slice ads st.length cps,.slice adt tt.length cpt,.int .i64 rd,.int .i64 vd,.int .i64 hr,.int .i64 hb,.slice adw hw.length cpw,.int .i64 tr,.slice adx tw.length cpx,.slice adh th.length cph,.int .i64 ld,.slice adv vo.length cpv,.slice adg go.length cpg,.slice add dn.length cpd,.slice adp pl.length cpp,.slice adq ps.length cpq] _ HL.out Tryz.underlying55 rfl Tryz.infoC20 ?_)
  | fail)
 refine (HN.out S0 B0.out).mono ?_
 rintro e w2 ⟨rfl,hb2⟩
 have K2:=a_ (K0.out.below hb2 K0.out.lt)
 have X2:=a_ (X0.out.below hb2 X0.out.lt)
 have Y2:=a_ (Y0.out.below hb2 Y0.out.lt)
 have B2:=a_ (B0.out.trans (hb2.mono B0.out.size))
 clear hb2 K0 X0 Y0 B0 HL HN
 have HL:=a_ (c_ K2.out)
 go_wp2_with fail
 refine (cq_ b0 w2 (hge.below B2.out hG)).mono ?_
 rintro e w2 ⟨rfl,rfl⟩
 go_wp2
 refine leaves_cons (f:=98) (args:=#[.pointer (some ⟨w.heap.size,0,none⟩),.pointer (some ⟨w.heap.size+1,0,none⟩),.pointer (some ⟨w.heap.size+1+1,0,none⟩)]) (by simp) (by simp [go_sem]) ?_
 refine (bH_ w.heap.size (w.heap.size+1) (w.heap.size+1+1) (.string nm) (.int .i64 ep) (.int .i64 be) (.slice ada la.length cpa) (.slice ads st.length cps) (.slice adt tt.length cpt) (.int .i64 rd) (.int .i64 vd) (.int .i64 hr) (.int .i64 hb) (.slice adw hw.length cpw) (.int .i64 tr) (.slice adx tw.length cpx) (.slice adh th.length cph) (.int .i64 ld) (.slice adv vo.length cpv) (.slice adg go.length cpg) (.slice add dn.length cpd) (.slice adp pl.length cpp) (.slice adq ps.length cpq) [.string { data:=#[] },.int .i64 0,.int .i64 0,.slice none 0 0,.slice none 0 0,.slice none 0 0,.int .i64 0,.int .i64 0,.int .i64 0,.int .i64 0,.slice none 0 0,.int .i64 0,.slice none 0 0,.slice none 0 0,.int .i64 0,.slice none 0 0,.slice none 0 0,.slice none 0 0,.slice none 0 0,.slice none 0 0,.slice none 0 0,.slice none 0 0,.slice none 0 0,.bool false] false 245 (.pointer (some b0)) [] w2 K2.out rfl X2.out rfl Y2.out (by omega) (by omega)).mono ?_
 rintro e u' w'' ⟨rfl,rfl,k2,c2,o2⟩
 obtain ⟨G,hG2⟩:∃ x,([.string nm,.int .i64 ep,.int .i64 be,.slice ada la.length cpa,.slice ads st.length cps,.slice adt tt.length cpt,.int .i64 rd,.int .i64 vd,.int .i64 hr,.int .i64 hb,.slice adw hw.length cpw,.int .i64 tr,.slice adx tw.length cpx,.slice adh th.length cph,.int .i64 ld,.slice adv vo.length cpv,.slice adg go.length cpg,.slice add dn.length cpd,.slice adp pl.length cpp,.slice adq ps.length cpq,.slice none 0 0,.slice none 0 0,.slice none 0 0,.bool false]:List Value)=x:=⟨_,rfl⟩
 have hGl:G.length=24:=by rw [<- hG2];rfl
 rw [hG2] at k2
 have hl:=run_loadVar_mid (P:=Tryz.prog) w'' (w.heap.size+1) 0 91 G _ (c_ k2) Tryz.underlying91 rfl (by rw [hGl];exact Tryz.infoT24)
 have h7:Sem.run Tryz.prog (loadVar 4 ⟨w.heap.size+1+1,0,none⟩) w''=.ok (.bool false) w'':=by simp [go_sem,c2]
 have hB:=B2.out.trans (o2.below (B:=w.heap.size) (fun k e=>by rcases e with rfl | rfl <;> omega) B2.out.size)
 have hpost:Ending.returned (Value.tuple #[.agg G.toArray,.bool false])=Ending.returned (Value.tuple #[.agg #[.string nm,.int .i64 ep,.int .i64 be,.slice ada la.length cpa,.slice ads st.length cps,.slice adt tt.length cpt,.int .i64 rd,.int .i64 vd,.int .i64 hr,.int .i64 hb,.slice adw hw.length cpw,.int .i64 tr,.slice adx tw.length cpx,.slice adh th.length cph,.int .i64 ld,.slice adv vo.length cpv,.slice adg go.length cpg,.slice add dn.length cpd,.slice adp pl.length cpp,.slice adq ps.length cpq,.slice none 0 0,.slice none 0 0,.slice none 0 0,.bool false],.bool false])/\Below w.heap.size w w'':=⟨by rw [<- hG2],hB⟩
 have Hpost:=a_ hpost
 clear hpost hB k2 c2 o2 hG2 hGl K2 X2 Y2 B2 HL
 refine ⟨.tuple #[.agg G.toArray,.bool false],?_,Hpost.out⟩
 simp [results,Tryz.f36,asAddr,hl,h7]
theorem dq_ (TB:Nat) (t:Tx5) (p:Nd) (u:Nv) (b0:Addr) (w:World) (hrd:RdNd w p u) (hfw:FewNd p) (hft:FitNd p) (hge:Gc w b0) (hG:0 < w.heap.size) (hT:Blk w TB 59 (txC t)) (hn:p.pl.length<=3999999) (hall:∀ a ∈ p.pl,a.2.1.size<=maxLen/\a.2.2.1.size<=maxLen) (ht:t.2.1.size<=maxLen/\t.2.2.1.size<=maxLen) (hok:nodB p=true) (hpo:(poS p.pl t).2=true) :
  Calls Tryz.prog 36 #[noV p u,.func (.func 37) #[] #[.pointer (some ⟨TB,0,none⟩)]] w fun e w'=>∃ v',e=.returned (.tuple #[.agg (noS v' p u).toArray,.bool true])/\InT w.heap.size w'.heap.size w' v' (poS p.pl t).1/\Below w.heap.size w w':=by
 have HN:=a_ (fun V (hV:Below w.heap.size w V)=>al_ p u V (hrd.below hV (nr_ _)) hfw hft)
 rw [hok] at HN
 have hmf:∀ (fn:Fn) (first cap:Array Value) (w:World),(Instr.makeFunc fn first cap).run Tryz.prog w=.ok (.func fn first cap) w:=fun _ _ _ _=>rfl
 have hs:=hrd
 obtain ⟨nm,ep,be,la,st,tt,rd,vd,hr,hb,hw,tr,tw,th,ld,vo,go,dn,pl,ps⟩:=p
 obtain ⟨ya,ys,yt,yw,yx,yh,yv,yg,yd,yp,yq⟩:=u
 obtain ⟨hya,hys,hyt,hyw,hyx,hyh,hyv,hyg,hyd,hyp,hyq⟩:=hs
 simp only at *
 obtain ⟨ada,cpa,rfl⟩:=hya.shape
 obtain ⟨ads,cps,rfl⟩:=hys.shape
 obtain ⟨adt,cpt,rfl⟩:=hyt.shape
 obtain ⟨adw,cpw,rfl⟩:=hyw.shape
 obtain ⟨adx,cpx,rfl⟩:=hyx.shape
 obtain ⟨adh,cph,rfl⟩:=hyh.shape
 obtain ⟨adv,cpv,rfl⟩:=hyv.shape
 obtain ⟨adg,cpg,rfl⟩:=hyg.shape
 obtain ⟨add,cpd,rfl⟩:=hyd.shape
 obtain ⟨adp,cpp,rfl⟩:=hyp.shape
 obtain ⟨adq,cpq,rfl⟩:=hyq.shape
 have HP:=a_ hyp
 have HN1:=a_ hn
 have HN2:=a_ hall
 have HN3:=a_ ht
 have HN4:=a_ hpo
 have HTx:=a_ (fun V (hV:Below w.heap.size w V)=>hT.below hV hT.lt)
 clear hn hall ht hpo hT
 have HNS:=a_ (fun (v':Value)=>show [.string nm,.int .i64 ep,.int .i64 be,.slice ada la.length cpa,.slice ads st.length cps,.slice adt tt.length cpt,.int .i64 rd,.int .i64 vd,.int .i64 hr,.int .i64 hb,.slice adw hw.length cpw,.int .i64 tr,.slice adx tw.length cpx,.slice adh th.length cph,.int .i64 ld,.slice adv vo.length cpv,.slice adg go.length cpg,.slice add dn.length cpd,v',.slice adq ps.length cpq,.slice none 0 0,.slice none 0 0,.slice none 0 0,.bool false]=noS v' ⟨nm,ep,be,la,st,tt,rd,vd,hr,hb,hw,tr,tw,th,ld,vo,go,dn,pl,ps⟩ ⟨.slice ada la.length cpa,.slice ads st.length cps,.slice adt tt.length cpt,.slice adw hw.length cpw,.slice adx tw.length cpx,.slice adh th.length cph,.slice adv vo.length cpv,.slice adg go.length cpg,.slice add dn.length cpd,.slice adp pl.length cpp,.slice adq ps.length cpq⟩ from rfl)
 generalize hpq:(poS pl t).1=pq
 clear hrd hfw hft hok hya hys hyt hyw hyx hyh hyv hyg hyd hyp hyq
 simp only [noV] at *
 obtain ⟨S0,hS0⟩:∃ x,((w.alloc (.cells #[.string nm,.int .i64 ep,.int .i64 be,.slice ada la.length cpa,.slice ads st.length cps,.slice adt tt.length cpt,.int .i64 rd,.int .i64 vd,.int .i64 hr,.int .i64 hb,.slice adw hw.length cpw,.int .i64 tr,.slice adx tw.length cpx,.slice adh th.length cph,.int .i64 ld,.slice adv vo.length cpv,.slice adg go.length cpg,.slice add dn.length cpd,.slice adp pl.length cpp,.slice adq ps.length cpq] 55)).alloc (.cells #[.string { data:=#[] },.int .i64 0,.int .i64 0,.slice none 0 0,.slice none 0 0,.slice none 0 0,.int .i64 0,.int .i64 0,.int .i64 0,.int .i64 0,.slice none 0 0,.int .i64 0,.slice none 0 0,.slice none 0 0,.int .i64 0,.slice none 0 0,.slice none 0 0,.slice none 0 0,.slice none 0 0,.slice none 0 0,.slice none 0 0,.slice none 0 0,.slice none 0 0,.bool false] 91)).alloc (.cells #[.bool false] 4)=x:=⟨_,rfl⟩
 have b0':Below w.heap.size w S0:=by rw [<- hS0];exact (((br_ _ w).alloc (nr_ _) _).alloc (by simp) _).alloc (by simp;omega) _
 have K0:=a_ (show Blk S0 w.heap.size 55 [.string nm,.int .i64 ep,.int .i64 be,.slice ada la.length cpa,.slice ads st.length cps,.slice adt tt.length cpt,.int .i64 rd,.int .i64 vd,.int .i64 hr,.int .i64 hb,.slice adw hw.length cpw,.int .i64 tr,.slice adx tw.length cpx,.slice adh th.length cph,.int .i64 ld,.slice adv vo.length cpv,.slice adg go.length cpg,.slice add dn.length cpd,.slice adp pl.length cpp,.slice adq ps.length cpq] from by rw [<- hS0];exact (Blk.new w _ _).below (((br_ (w.heap.size+1) _).alloc (by simp) _).alloc (by simp) _) (by omega))
 have X0:=a_ (show Blk S0 (w.heap.size+1) 91 [.string { data:=#[] },.int .i64 0,.int .i64 0,.slice none 0 0,.slice none 0 0,.slice none 0 0,.int .i64 0,.int .i64 0,.int .i64 0,.int .i64 0,.slice none 0 0,.int .i64 0,.slice none 0 0,.slice none 0 0,.int .i64 0,.slice none 0 0,.slice none 0 0,.slice none 0 0,.slice none 0 0,.slice none 0 0,.slice none 0 0,.slice none 0 0,.slice none 0 0,.bool false] from by rw [<- hS0];exact (Blk.newR _ _ [.string { data:=#[] },.int .i64 0,.int .i64 0,.slice none 0 0,.slice none 0 0,.slice none 0 0,.int .i64 0,.int .i64 0,.int .i64 0,.int .i64 0,.slice none 0 0,.int .i64 0,.slice none 0 0,.slice none 0 0,.int .i64 0,.slice none 0 0,.slice none 0 0,.slice none 0 0,.slice none 0 0,.slice none 0 0,.slice none 0 0,.slice none 0 0,.slice none 0 0,.bool false] _ (by simp)).below ((br_ (w.heap.size+2) _).alloc (by simp) _) (by omega))
 have Y0:=a_ (show Blk S0 (w.heap.size+2) 4 [.bool false] from by rw [<- hS0];exact Blk.newR _ _ [.bool false] _ (by simp))
 have B0:=a_ b0'
 have HL:=a_ (c_ K0.out)
 clear b0'
 go_enter_defers Tryz.func36,Tryz.ntmps36
 go_upto_region 2 with fail
 (try rw [hS0])
 clear hS0
 go_wp2_with (first
  | (refine wpList_load_mid rfl 55 _ rfl w.heap.size 0 rfl [.string nm,.int .i64 ep,.int .i64 be,.slice ada la.length cpa,.slice ads st.length cps,.slice adt tt.length cpt,.int .i64 rd,.int .i64 vd,.int .i64 hr,.int .i64 hb,.slice adw hw.length cpw,.int .i64 tr,.slice adx tw.length cpx,.slice adh th.length cph,.int .i64 ld,.slice adv vo.length cpv,.slice adg go.length cpg,.slice add dn.length cpd,.slice adp pl.length cpp,.slice adq ps.length cpq] _ HL.out Tryz.underlying55 rfl Tryz.infoC20 ?_)
  | fail)
 refine (HN.out S0 B0.out).mono ?_
 rintro e w2 ⟨rfl,hb2⟩
 have K2:=a_ (K0.out.below hb2 K0.out.lt)
 have X2:=a_ (X0.out.below hb2 X0.out.lt)
 have Y2:=a_ (Y0.out.below hb2 Y0.out.lt)
 have B2:=a_ (B0.out.trans (hb2.mono B0.out.size))
 clear hb2 K0 X0 Y0 B0 HL HN
 have HL:=a_ (c_ K2.out)
 go_wp2_with fail
 refine (aK_ w2).mono ?_
 rintro e w2 ⟨rfl,rfl⟩
 obtain ⟨F,hF⟩:∃ x,([.string nm,.int .i64 ep,.int .i64 be,.slice ada la.length cpa,.slice ads st.length cps,.slice adt tt.length cpt,.int .i64 rd,.int .i64 vd,.int .i64 hr,.int .i64 hb,.slice adw hw.length cpw,.int .i64 tr,.slice adx tw.length cpx,.slice adh th.length cph,.int .i64 ld,.slice adv vo.length cpv,.slice adg go.length cpg,.slice add dn.length cpd,.slice adp pl.length cpp,.slice adq ps.length cpq,.slice none 0 0,.slice none 0 0,.slice none 0 0,.bool false]:List Value)=x:=⟨_,rfl⟩
 have hFl:F.length=24:=by rw [<- hF];rfl
 have OF:=a_ (all_oneCell_toArray (cs:=F) (List.all_eq_true.1 (by rw [<- hF];rfl)))
 have ZF:=a_ (show (Tryz.prog.info? 91).map (·.size)=some F.toArray.size from by rw [show F.toArray.size=24 from by simpa using hFl];exact Tryz.infoT24)
 have YF:=a_ (show (Tryz.prog.info? 91).map (·.size)=some F.length from by rw [hFl];exact Tryz.infoT24)
 have HF:=a_ hF
 have HTh:=a_ (show w2.there (w.heap.size+1) 0 F.toArray.size from by rw [show F.toArray.size=24 from by simpa using hFl];exact X2.out.there rfl)
 obtain ⟨w3,hw3⟩:∃ x,w2.setCells (w.heap.size+1) 0 F.toArray.toList=x:=⟨_,rfl⟩
 have X3:=a_ (show Blk w3 (w.heap.size+1) 91 F from by rw [<- hw3];exact q_ X2.out (by rw [hFl];rfl))
 have K3:=a_ (show Blk w3 w.heap.size 55 [.string nm,.int .i64 ep,.int .i64 be,.slice ada la.length cpa,.slice ads st.length cps,.slice adt tt.length cpt,.int .i64 rd,.int .i64 vd,.int .i64 hr,.int .i64 hb,.slice adw hw.length cpw,.int .i64 tr,.slice adx tw.length cpx,.slice adh th.length cph,.int .i64 ld,.slice adv vo.length cpv,.slice adg go.length cpg,.slice add dn.length cpd,.slice adp pl.length cpp,.slice adq ps.length cpq] from by rw [<- hw3];exact K2.out.sets (by omega) 0 _)
 have Y3:=a_ (show Blk w3 (w.heap.size+2) 4 [.bool false] from by rw [<- hw3];exact Y2.out.sets (by omega) 0 _)
 have B3:=a_ (show Below w.heap.size w w3 from by rw [<- hw3];exact B2.out.trans (e_ (B:=w.heap.size) (by omega) _ _ 0))
 have Hw3:=a_ hw3
 clear hF hw3 X2 Y2 B2 K2
 go_upto_region 4 with (first
  | (refine wpList_load_mid rfl 55 _ rfl w.heap.size 0 rfl [.string nm,.int .i64 ep,.int .i64 be,.slice ada la.length cpa,.slice ads st.length cps,.slice adt tt.length cpt,.int .i64 rd,.int .i64 vd,.int .i64 hr,.int .i64 hb,.slice adw hw.length cpw,.int .i64 tr,.slice adx tw.length cpx,.slice adh th.length cph,.int .i64 ld,.slice adv vo.length cpv,.slice adg go.length cpg,.slice add dn.length cpd,.slice adp pl.length cpp,.slice adq ps.length cpq] _ HL.out Tryz.underlying55 rfl Tryz.infoC20 ?_)
  | (refine wpList_store_mid rfl 91 _ _ rfl (w.heap.size+1) 0 F.toArray rfl (by rw [<- HF.out];rfl) HTh.out ZF.out OF.out ?_;rw [Hw3.out])
  | fail)
 clear HL HTh ZF OF YF Hw3 K3
 go_wp2_with fail
 refine (fa_ (w.heap.size+1) TB F _ pl t w3 X3.out hFl (by rw [<- HF.out];rfl) (HTx.out w3 B3.out) (HP.out.below B3.out (nr_ _)) HN1.out HN2.out HN3.out HN4.out).mono ?_
 rintro e w5 ⟨v',rfl,i5,k5,o5⟩
 rw [hpq] at i5
 obtain ⟨avS,cvS,hsv⟩:=i5.rd.shape
 subst hsv
 obtain ⟨G,hG⟩:∃ x,([.string nm,.int .i64 ep,.int .i64 be,.slice ada la.length cpa,.slice ads st.length cps,.slice adt tt.length cpt,.int .i64 rd,.int .i64 vd,.int .i64 hr,.int .i64 hb,.slice adw hw.length cpw,.int .i64 tr,.slice adx tw.length cpx,.slice adh th.length cph,.int .i64 ld,.slice adv vo.length cpv,.slice adg go.length cpg,.slice add dn.length cpd,.slice avS pq.length cvS,.slice adq ps.length cpq,.slice none 0 0,.slice none 0 0,.slice none 0 0,.bool false]:List Value)=x:=⟨_,rfl⟩
 have hGl:G.length=24:=by rw [<- hG];rfl
 have OG:=a_ (all_oneCell_toArray (cs:=G) (List.all_eq_true.1 (by rw [<- hG];rfl)))
 have ZG:=a_ (show (Tryz.prog.info? 91).map (·.size)=some G.toArray.size from by rw [show G.toArray.size=24 from by simpa using hGl];exact Tryz.infoT24)
 have YG:=a_ (show (Tryz.prog.info? 91).map (·.size)=some G.length from by rw [hGl];exact Tryz.infoT24)
 have HGl:=a_ hGl
 have HGe:=a_ hG
 rw [show F.set 18 (.slice avS pq.length cvS)=G from by rw [<- HF.out,<- hG];rfl] at k5
 clear hG hGl
 have y5:Blk w5 (w.heap.size+2) 4 [.bool false]:=(o5.block _ Y3.out.lt (by omega)).trans Y3.out
 have z5:Below w.heap.size w w5:=B3.out.trans (o5.below (B:=w.heap.size) (fun k e=>by subst e;omega) B3.out.size)
 have z3:w.heap.size+2 < w3.heap.size:=Y3.out.lt
 have HL:=a_ (c_ k5)
 have HTh:=a_ (show w5.there (w.heap.size+1) 0 G.toArray.size from by rw [show G.toArray.size=24 from by simpa using HGl.out];exact k5.there HGl.out)
 obtain ⟨w6,hw6⟩:∃ x,w5.setCells (w.heap.size+1) 0 G.toArray.toList=x:=⟨_,rfl⟩
 have X6:=a_ (show Blk w6 (w.heap.size+1) 91 G from by rw [<- hw6];exact q_ k5 (by simp))
 have y6:Blk w6 (w.heap.size+2) 4 [.bool false]:=by rw [<- hw6];exact y5.sets (by omega) 0 _
 have B6:=a_ (show Below w.heap.size w w6 from by rw [<- hw6];exact z5.trans (e_ (B:=w.heap.size) (by omega) _ _ 0))
 have p6:Oth (fun g=>g=w.heap.size+1\/g=w.heap.size+2) w5 w6:=by rw [<- hw6];exact Oth.of_grown (ac_ (w.heap.size+1) _ w5 0) (fun k e=>by cases e;exact .inl rfl)
 have c6:=y6.cell 0
 have f6:=y6.frozen 0
 simp only [gz_] at c6
 obtain ⟨w7,hw7⟩:∃ x,w6.setCell ⟨w.heap.size+1+1,0,none⟩ (.bool true)=x:=⟨_,rfl⟩
 have X7:=a_ (show Blk w7 (w.heap.size+1) 91 G from by rw [<- hw7];exact X6.out.otherC (w.heap.size+2) 0 _ (by omega))
 have C7:=a_ (show w7.cell? ⟨w.heap.size+1+1,0,none⟩=some (.bool true) from by rw [<- hw7];exact (y6.setC 0 (.bool true)).cell 0)
 have B7:=a_ (show Below w.heap.size w w7 from by rw [<- hw7];exact B6.out.setCell (p:=⟨w.heap.size+2,0,none⟩) (show w.heap.size<=w.heap.size+2 by omega) (.bool true))
 have p7:Oth (fun g=>g=w.heap.size+1\/g=w.heap.size+2) w5 w7:=by rw [<- hw7];exact p6.set (S:=fun g=>g=w.heap.size+1\/g=w.heap.size+2) (.inr rfl) 0 (.bool true)
 have I7:=a_ ((i5.kept (Kept.of_oth p7 (fun k h1 h2 e=>by rcases e with e | e <;> omega))).wide (show w.heap.size<=w3.heap.size by omega) p7.size)
 have Hw6:=a_ hw6
 clear k5 o5 y5 z5 hw6 y6 X3 Y3 B3 HF i5 p6 p7 z3 HP HTx HN1 HN2 HN3 HN4 hpq
 go_wp2_with (first
  | (refine wpList_load_mid rfl 91 _ rfl (w.heap.size+1) 0 rfl G _ HL.out Tryz.underlying91 rfl YG.out ?_)
  | (refine wpList_store_mid rfl 91 _ _ rfl (w.heap.size+1) 0 G.toArray rfl rfl HTh.out ZG.out OG.out ?_;rw [Hw6.out])
  | fail)
 (try rw [hw7])
 have hl:=run_loadVar_mid (P:=Tryz.prog) w7 (w.heap.size+1) 0 91 G _ (c_ X7.out) Tryz.underlying91 rfl YG.out
 have c7:=C7.out
 have h7:Sem.run Tryz.prog (loadVar 4 ⟨w.heap.size+1+1,0,none⟩) w7=.ok (.bool true) w7:=by simp [go_sem,c7]
 have hpost:∃ v',Ending.returned (Value.tuple #[.agg G.toArray,.bool true])=Ending.returned (Value.tuple #[.agg (noS v' ⟨nm,ep,be,la,st,tt,rd,vd,hr,hb,hw,tr,tw,th,ld,vo,go,dn,pl,ps⟩ ⟨.slice ada la.length cpa,.slice ads st.length cps,.slice adt tt.length cpt,.slice adw hw.length cpw,.slice adx tw.length cpx,.slice adh th.length cph,.slice adv vo.length cpv,.slice adg go.length cpg,.slice add dn.length cpd,.slice adp pl.length cpp,.slice adq ps.length cpq⟩).toArray,.bool true])/\InT w.heap.size w7.heap.size w7 v' pq/\Below w.heap.size w w7:=⟨.slice avS pq.length cvS,by rw [<- HNS.out (.slice avS pq.length cvS),HGe.out],I7.out,B7.out⟩
 have Hpost:=a_ hpost
 clear hpost HNS I7 HL HTh OG ZG YG X6 X7 C7 B6 B7 HGe Hw6 c6 f6 hw7 c7
 refine leaves_cons (f:=98) (args:=#[.pointer (some ⟨w.heap.size,0,none⟩),.pointer (some ⟨w.heap.size+1,0,none⟩),.pointer (some ⟨w.heap.size+1+1,0,none⟩)]) (by simp) (by simp [go_sem]) ?_
 refine (gM_ ⟨w.heap.size,0,none⟩ ⟨w.heap.size+1,0,none⟩ ⟨w.heap.size+1+1,0,none⟩ _).mono ?_
 rintro e u' w'' ⟨rfl,rfl,rfl⟩
 refine ⟨.tuple #[.agg G.toArray,.bool true],?_,Hpost.out⟩
 simp [results,Tryz.f36,asAddr,hl,h7]
theorem cW_ (TB:Nat) (t:Tx5) (p:Nd) (u:Nv) (b0:Addr) (w:World) (hrd:RdNd w p u) (hfw:FewNd p) (hft:FitNd p) (hge:Gc w b0) (hG:0 < w.heap.size) (hT:Blk w TB 59 (txC t)) (hn:p.pl.length<=3999999) (hall:∀ a ∈ p.pl,a.2.1.size<=maxLen/\a.2.2.1.size<=maxLen) (ht:t.2.1.size<=maxLen/\t.2.2.1.size<=maxLen) (hok:nodB p=true) (hpo:(poS p.pl t).2=false) :
  Calls Tryz.prog 36 #[noV p u,.func (.func 37) #[] #[.pointer (some ⟨TB,0,none⟩)]] w fun e w'=>e=.returned (.tuple #[.agg (noT false p u).toArray,.bool false])/\Below w.heap.size w w':=by
 have HN:=a_ (fun V (hV:Below w.heap.size w V)=>al_ p u V (hrd.below hV (nr_ _)) hfw hft)
 rw [hok] at HN
 have hmf:∀ (fn:Fn) (first cap:Array Value) (w:World),(Instr.makeFunc fn first cap).run Tryz.prog w=.ok (.func fn first cap) w:=fun _ _ _ _=>rfl
 have hs:=hrd
 obtain ⟨nm,ep,be,la,st,tt,rd,vd,hr,hb,hw,tr,tw,th,ld,vo,go,dn,pl,ps⟩:=p
 obtain ⟨ya,ys,yt,yw,yx,yh,yv,yg,yd,yp,yq⟩:=u
 obtain ⟨hya,hys,hyt,hyw,hyx,hyh,hyv,hyg,hyd,hyp,hyq⟩:=hs
 simp only at *
 obtain ⟨ada,cpa,rfl⟩:=hya.shape
 obtain ⟨ads,cps,rfl⟩:=hys.shape
 obtain ⟨adt,cpt,rfl⟩:=hyt.shape
 obtain ⟨adw,cpw,rfl⟩:=hyw.shape
 obtain ⟨adx,cpx,rfl⟩:=hyx.shape
 obtain ⟨adh,cph,rfl⟩:=hyh.shape
 obtain ⟨adv,cpv,rfl⟩:=hyv.shape
 obtain ⟨adg,cpg,rfl⟩:=hyg.shape
 obtain ⟨add,cpd,rfl⟩:=hyd.shape
 obtain ⟨adp,cpp,rfl⟩:=hyp.shape
 obtain ⟨adq,cpq,rfl⟩:=hyq.shape
 have HP:=a_ hyp
 have HN1:=a_ hn
 have HN2:=a_ hall
 have HN3:=a_ ht
 have HN4:=a_ hpo
 have HTx:=a_ (fun V (hV:Below w.heap.size w V)=>hT.below hV hT.lt)
 clear hn hall ht hpo hT
 have HT:=a_ (show noT false ⟨nm,ep,be,la,st,tt,rd,vd,hr,hb,hw,tr,tw,th,ld,vo,go,dn,pl,ps⟩ ⟨.slice ada la.length cpa,.slice ads st.length cps,.slice adt tt.length cpt,.slice adw hw.length cpw,.slice adx tw.length cpx,.slice adh th.length cph,.slice adv vo.length cpv,.slice adg go.length cpg,.slice add dn.length cpd,.slice adp pl.length cpp,.slice adq ps.length cpq⟩=[.string nm,.int .i64 ep,.int .i64 be,.slice ada la.length cpa,.slice ads st.length cps,.slice adt tt.length cpt,.int .i64 rd,.int .i64 vd,.int .i64 hr,.int .i64 hb,.slice adw hw.length cpw,.int .i64 tr,.slice adx tw.length cpx,.slice adh th.length cph,.int .i64 ld,.slice adv vo.length cpv,.slice adg go.length cpg,.slice add dn.length cpd,.slice adp pl.length cpp,.slice adq ps.length cpq,.slice none 0 0,.slice none 0 0,.slice none 0 0,.bool false] from rfl)
 rw [HT.out]
 clear hrd hfw hft hok HT hya hys hyt hyw hyx hyh hyv hyg hyd hyp hyq
 simp only [noV] at *
 obtain ⟨S0,hS0⟩:∃ x,((w.alloc (.cells #[.string nm,.int .i64 ep,.int .i64 be,.slice ada la.length cpa,.slice ads st.length cps,.slice adt tt.length cpt,.int .i64 rd,.int .i64 vd,.int .i64 hr,.int .i64 hb,.slice adw hw.length cpw,.int .i64 tr,.slice adx tw.length cpx,.slice adh th.length cph,.int .i64 ld,.slice adv vo.length cpv,.slice adg go.length cpg,.slice add dn.length cpd,.slice adp pl.length cpp,.slice adq ps.length cpq] 55)).alloc (.cells #[.string { data:=#[] },.int .i64 0,.int .i64 0,.slice none 0 0,.slice none 0 0,.slice none 0 0,.int .i64 0,.int .i64 0,.int .i64 0,.int .i64 0,.slice none 0 0,.int .i64 0,.slice none 0 0,.slice none 0 0,.int .i64 0,.slice none 0 0,.slice none 0 0,.slice none 0 0,.slice none 0 0,.slice none 0 0,.slice none 0 0,.slice none 0 0,.slice none 0 0,.bool false] 91)).alloc (.cells #[.bool false] 4)=x:=⟨_,rfl⟩
 have b0':Below w.heap.size w S0:=by rw [<- hS0];exact (((br_ _ w).alloc (nr_ _) _).alloc (by simp) _).alloc (by simp;omega) _
 have K0:=a_ (show Blk S0 w.heap.size 55 [.string nm,.int .i64 ep,.int .i64 be,.slice ada la.length cpa,.slice ads st.length cps,.slice adt tt.length cpt,.int .i64 rd,.int .i64 vd,.int .i64 hr,.int .i64 hb,.slice adw hw.length cpw,.int .i64 tr,.slice adx tw.length cpx,.slice adh th.length cph,.int .i64 ld,.slice adv vo.length cpv,.slice adg go.length cpg,.slice add dn.length cpd,.slice adp pl.length cpp,.slice adq ps.length cpq] from by rw [<- hS0];exact (Blk.new w _ _).below (((br_ (w.heap.size+1) _).alloc (by simp) _).alloc (by simp) _) (by omega))
 have X0:=a_ (show Blk S0 (w.heap.size+1) 91 [.string { data:=#[] },.int .i64 0,.int .i64 0,.slice none 0 0,.slice none 0 0,.slice none 0 0,.int .i64 0,.int .i64 0,.int .i64 0,.int .i64 0,.slice none 0 0,.int .i64 0,.slice none 0 0,.slice none 0 0,.int .i64 0,.slice none 0 0,.slice none 0 0,.slice none 0 0,.slice none 0 0,.slice none 0 0,.slice none 0 0,.slice none 0 0,.slice none 0 0,.bool false] from by rw [<- hS0];exact (Blk.newR _ _ [.string { data:=#[] },.int .i64 0,.int .i64 0,.slice none 0 0,.slice none 0 0,.slice none 0 0,.int .i64 0,.int .i64 0,.int .i64 0,.int .i64 0,.slice none 0 0,.int .i64 0,.slice none 0 0,.slice none 0 0,.int .i64 0,.slice none 0 0,.slice none 0 0,.slice none 0 0,.slice none 0 0,.slice none 0 0,.slice none 0 0,.slice none 0 0,.slice none 0 0,.bool false] _ (by simp)).below ((br_ (w.heap.size+2) _).alloc (by simp) _) (by omega))
 have Y0:=a_ (show Blk S0 (w.heap.size+2) 4 [.bool false] from by rw [<- hS0];exact Blk.newR _ _ [.bool false] _ (by simp))
 have B0:=a_ b0'
 have HL:=a_ (c_ K0.out)
 clear b0'
 go_enter_defers Tryz.func36,Tryz.ntmps36
 go_upto_region 2 with fail
 (try rw [hS0])
 clear hS0
 go_wp2_with (first
  | (refine wpList_load_mid rfl 55 _ rfl w.heap.size 0 rfl [.string nm,.int .i64 ep,.int .i64 be,.slice ada la.length cpa,.slice ads st.length cps,.slice adt tt.length cpt,.int .i64 rd,.int .i64 vd,.int .i64 hr,.int .i64 hb,.slice adw hw.length cpw,.int .i64 tr,.slice adx tw.length cpx,.slice adh th.length cph,.int .i64 ld,.slice adv vo.length cpv,.slice adg go.length cpg,.slice add dn.length cpd,.slice adp pl.length cpp,.slice adq ps.length cpq] _ HL.out Tryz.underlying55 rfl Tryz.infoC20 ?_)
  | fail)
 refine (HN.out S0 B0.out).mono ?_
 rintro e w2 ⟨rfl,hb2⟩
 have K2:=a_ (K0.out.below hb2 K0.out.lt)
 have X2:=a_ (X0.out.below hb2 X0.out.lt)
 have Y2:=a_ (Y0.out.below hb2 Y0.out.lt)
 have B2:=a_ (B0.out.trans (hb2.mono B0.out.size))
 clear hb2 K0 X0 Y0 B0 HL HN
 have HL:=a_ (c_ K2.out)
 go_wp2_with fail
 refine (aK_ w2).mono ?_
 rintro e w2 ⟨rfl,rfl⟩
 obtain ⟨F,hF⟩:∃ x,([.string nm,.int .i64 ep,.int .i64 be,.slice ada la.length cpa,.slice ads st.length cps,.slice adt tt.length cpt,.int .i64 rd,.int .i64 vd,.int .i64 hr,.int .i64 hb,.slice adw hw.length cpw,.int .i64 tr,.slice adx tw.length cpx,.slice adh th.length cph,.int .i64 ld,.slice adv vo.length cpv,.slice adg go.length cpg,.slice add dn.length cpd,.slice adp pl.length cpp,.slice adq ps.length cpq,.slice none 0 0,.slice none 0 0,.slice none 0 0,.bool false]:List Value)=x:=⟨_,rfl⟩
 have hFl:F.length=24:=by rw [<- hF];rfl
 have OF:=a_ (all_oneCell_toArray (cs:=F) (List.all_eq_true.1 (by rw [<- hF];rfl)))
 have ZF:=a_ (show (Tryz.prog.info? 91).map (·.size)=some F.toArray.size from by rw [show F.toArray.size=24 from by simpa using hFl];exact Tryz.infoT24)
 have YF:=a_ (show (Tryz.prog.info? 91).map (·.size)=some F.length from by rw [hFl];exact Tryz.infoT24)
 have HF:=a_ hF
 have HTh:=a_ (show w2.there (w.heap.size+1) 0 F.toArray.size from by rw [show F.toArray.size=24 from by simpa using hFl];exact X2.out.there rfl)
 obtain ⟨w3,hw3⟩:∃ x,w2.setCells (w.heap.size+1) 0 F.toArray.toList=x:=⟨_,rfl⟩
 have X3:=a_ (show Blk w3 (w.heap.size+1) 91 F from by rw [<- hw3];exact q_ X2.out (by rw [hFl];rfl))
 have K3:=a_ (show Blk w3 w.heap.size 55 [.string nm,.int .i64 ep,.int .i64 be,.slice ada la.length cpa,.slice ads st.length cps,.slice adt tt.length cpt,.int .i64 rd,.int .i64 vd,.int .i64 hr,.int .i64 hb,.slice adw hw.length cpw,.int .i64 tr,.slice adx tw.length cpx,.slice adh th.length cph,.int .i64 ld,.slice adv vo.length cpv,.slice adg go.length cpg,.slice add dn.length cpd,.slice adp pl.length cpp,.slice adq ps.length cpq] from by rw [<- hw3];exact K2.out.sets (by omega) 0 _)
 have Y3:=a_ (show Blk w3 (w.heap.size+2) 4 [.bool false] from by rw [<- hw3];exact Y2.out.sets (by omega) 0 _)
 have B3:=a_ (show Below w.heap.size w w3 from by rw [<- hw3];exact B2.out.trans (e_ (B:=w.heap.size) (by omega) _ _ 0))
 have Hw3:=a_ hw3
 clear hF hw3 X2 Y2 B2 K2
 go_upto_region 4 with (first
  | (refine wpList_load_mid rfl 55 _ rfl w.heap.size 0 rfl [.string nm,.int .i64 ep,.int .i64 be,.slice ada la.length cpa,.slice ads st.length cps,.slice adt tt.length cpt,.int .i64 rd,.int .i64 vd,.int .i64 hr,.int .i64 hb,.slice adw hw.length cpw,.int .i64 tr,.slice adx tw.length cpx,.slice adh th.length cph,.int .i64 ld,.slice adv vo.length cpv,.slice adg go.length cpg,.slice add dn.length cpd,.slice adp pl.length cpp,.slice adq ps.length cpq] _ HL.out Tryz.underlying55 rfl Tryz.infoC20 ?_)
  | (refine wpList_store_mid rfl 91 _ _ rfl (w.heap.size+1) 0 F.toArray rfl (by rw [<- HF.out];rfl) HTh.out ZF.out OF.out ?_;rw [Hw3.out])
  | fail)
 clear HL HTh ZF OF YF Hw3
 go_wp2_with fail
 refine (gk_ (w.heap.size+1) TB F _ pl t b0 w3 (hge.below B3.out hG) (Nat.lt_of_lt_of_le hG B3.out.size) X3.out hFl (by rw [<- HF.out];rfl) (HTx.out w3 B3.out) (HP.out.below B3.out (nr_ _)) HN1.out HN2.out HN3.out HN4.out).mono ?_
 rintro e w2 ⟨rfl,b5⟩
 have z3:w.heap.size+2 < w3.heap.size:=Y3.out.lt
 have K2:=a_ (K3.out.below b5 K3.out.lt)
 have X2:=a_ (X3.out.below b5 X3.out.lt)
 have Y2:=a_ (Y3.out.below b5 Y3.out.lt)
 have B2:=a_ (B3.out.trans (b5.mono B3.out.size))
 clear K3 X3 Y3 B3 b5 HP HTx HN1 HN2 HN3 HN4 z3
 go_wp2
 refine leaves_cons (f:=98) (args:=#[.pointer (some ⟨w.heap.size,0,none⟩),.pointer (some ⟨w.heap.size+1,0,none⟩),.pointer (some ⟨w.heap.size+1+1,0,none⟩)]) (by simp) (by simp [go_sem]) ?_
 refine (bH_ w.heap.size (w.heap.size+1) (w.heap.size+1+1) (.string nm) (.int .i64 ep) (.int .i64 be) (.slice ada la.length cpa) (.slice ads st.length cps) (.slice adt tt.length cpt) (.int .i64 rd) (.int .i64 vd) (.int .i64 hr) (.int .i64 hb) (.slice adw hw.length cpw) (.int .i64 tr) (.slice adx tw.length cpx) (.slice adh th.length cph) (.int .i64 ld) (.slice adv vo.length cpv) (.slice adg go.length cpg) (.slice add dn.length cpd) (.slice adp pl.length cpp) (.slice adq ps.length cpq) F false 245 (.pointer (some b0)) [] w2 K2.out rfl X2.out hFl Y2.out (by omega) (by omega)).mono ?_
 rintro e u' w'' ⟨rfl,rfl,k2,c2,o2⟩
 obtain ⟨G,hG2⟩:∃ x,([.string nm,.int .i64 ep,.int .i64 be,.slice ada la.length cpa,.slice ads st.length cps,.slice adt tt.length cpt,.int .i64 rd,.int .i64 vd,.int .i64 hr,.int .i64 hb,.slice adw hw.length cpw,.int .i64 tr,.slice adx tw.length cpx,.slice adh th.length cph,.int .i64 ld,.slice adv vo.length cpv,.slice adg go.length cpg,.slice add dn.length cpd,.slice adp pl.length cpp,.slice adq ps.length cpq,.slice none 0 0,.slice none 0 0,.slice none 0 0,.bool false]:List Value)=x:=⟨_,rfl⟩
 have hGl:G.length=24:=by rw [<- hG2];rfl
 rw [hG2] at k2
 have hl:=run_loadVar_mid (P:=Tryz.prog) w'' (w.heap.size+1) 0 91 G _ (c_ k2) Tryz.underlying91 rfl (by rw [hGl];exact Tryz.infoT24)
 have h7:Sem.run Tryz.prog (loadVar 4 ⟨w.heap.size+1+1,0,none⟩) w''=.ok (.bool false) w'':=by simp [go_sem,c2]
 have hB:=B2.out.trans (o2.below (B:=w.heap.size) (fun k e=>by rcases e with rfl | rfl <;> omega) B2.out.size)
 have hpost:Ending.returned (Value.tuple #[.agg G.toArray,.bool false])=Ending.returned (Value.tuple #[.agg #[.string nm,.int .i64 ep,.int .i64 be,.slice ada la.length cpa,.slice ads st.length cps,.slice adt tt.length cpt,.int .i64 rd,.int .i64 vd,.int .i64 hr,.int .i64 hb,.slice adw hw.length cpw,.int .i64 tr,.slice adx tw.length cpx,.slice adh th.length cph,.int .i64 ld,.slice adv vo.length cpv,.slice adg go.length cpg,.slice add dn.length cpd,.slice adp pl.length cpp,.slice adq ps.length cpq,.slice none 0 0,.slice none 0 0,.slice none 0 0,.bool false],.bool false])/\Below w.heap.size w w'':=⟨by rw [<- hG2],hB⟩
 have Hpost:=a_ hpost
 clear hpost hB k2 c2 o2 hG2 hGl K2 X2 Y2 B2
 refine ⟨.tuple #[.agg G.toArray,.bool false],?_,Hpost.out⟩
 simp [results,Tryz.f36,asAddr,hl,h7]
end Go.Proofs.YtamljhcmiphdgaaGreatDoor
