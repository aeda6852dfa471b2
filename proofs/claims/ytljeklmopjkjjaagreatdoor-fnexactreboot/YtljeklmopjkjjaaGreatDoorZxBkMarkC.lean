/- Numbers held against their marks. -/
import Derived.Test.YtljeklmopjkjjaaGreatDoorZxNdOkS
import Derived.Test.YtljeklmopjkjjaaGreatDoorZxNdRebI
set_option maxRecDepth 20000
set_option maxHeartbeats 8000000
namespace Go.Proofs.YtljeklmopjkjjaaGreatDoor
open Go.RowKit
set_option linter.unusedVariables false
theorem specForget_any (B:Nat) (cs:List Value) (w:World) (h:Blk w B 55 cs) (hl:cs.length=20) :
    Calls Tryz.prog 73 #[.pointer (some ⟨B,0,none⟩)] w fun e w'=>∃ a1 a2 a3:Addr,e=.returned (.tuple #[])/\Blk w' B 55 (((cs.set 15 (.slice (some a1) 0 0)).set 16 (.slice (some a2) 0 0)).set 18 (.slice (some a3) 0 0))/\Oth (fun x=>x=B) w w':=by
  have hB:=h.lt
  have k1:=h.below ((Below.refl w.heap.size w).alloc (Nat.le_refl _) (.cells #[] 159)) hB
  have c15:=k1.cell 15
  have f15:=k1.frozen 15
  rw [List.getElem?_eq_getElem (by omega)] at c15
  obtain ⟨w1,hw1⟩:∃ x,(w.setCell ⟨B,15,none⟩ (.slice (some ⟨w.heap.size,0,none⟩) 0 0)).alloc (.cells #[] 159)=x:=⟨_,rfl⟩
  have j1:Blk w1 B 55 (cs.set 15 (.slice (some ⟨w.heap.size,0,none⟩) 0 0)):=by rw [<- hw1];exact (h.setC 15 _).below ((Below.refl _ _).alloc (Nat.le_refl _) _) (h.setC 15 _).lt
  have p1:Oth (fun x=>x=B) w w1:=by rw [<- hw1];exact ((Oth.refl (fun x=>x=B) w).set (S:=fun x=>x=B) rfl 15 _).trans (Oth.of_below ((Below.refl _ _).alloc (Nat.le_refl _) _))
  have k2:=j1.below ((Below.refl w1.heap.size w1).alloc (Nat.le_refl _) (.cells #[] 161)) j1.lt
  have c16:=k2.cell 16
  have f16:=k2.frozen 16
  rw [List.getElem?_eq_getElem (by simp;omega)] at c16
  obtain ⟨w2,hw2⟩:∃ x,(w1.setCell ⟨B,16,none⟩ (.slice (some ⟨w1.heap.size,0,none⟩) 0 0)).alloc (.cells #[] 161)=x:=⟨_,rfl⟩
  have j2:Blk w2 B 55 ((cs.set 15 (.slice (some ⟨w.heap.size,0,none⟩) 0 0)).set 16 (.slice (some ⟨w1.heap.size,0,none⟩) 0 0)):=by rw [<- hw2];exact (j1.setC 16 _).below ((Below.refl _ _).alloc (Nat.le_refl _) _) (j1.setC 16 _).lt
  have p2:Oth (fun x=>x=B) w w2:=by rw [<- hw2];exact (p1.set (S:=fun x=>x=B) rfl 16 _).trans (Oth.of_below ((Below.refl _ _).alloc (Nat.le_refl _) _))
  have k3:=j2.below ((Below.refl w2.heap.size w2).alloc (Nat.le_refl _) (.cells #[] 59)) j2.lt
  have c18:=k3.cell 18
  have f18:=k3.frozen 18
  rw [List.getElem?_eq_getElem (by simp;omega)] at c18
  obtain ⟨w3,hw3⟩:∃ x,(w2.setCell ⟨B,18,none⟩ (.slice (some ⟨w2.heap.size,0,none⟩) 0 0)).alloc (.cells #[] 59)=x:=⟨_,rfl⟩
  have J3:=hide (show Blk w3 B 55 (((cs.set 15 (.slice (some ⟨w.heap.size,0,none⟩) 0 0)).set 16 (.slice (some ⟨w1.heap.size,0,none⟩) 0 0)).set 18 (.slice (some ⟨w2.heap.size,0,none⟩) 0 0)) from by rw [<- hw3];exact (j2.setC 18 _).below ((Below.refl _ _).alloc (Nat.le_refl _) _) (j2.setC 18 _).lt)
  have P3:=hide (show Oth (fun x=>x=B) w w3 from by rw [<- hw3];exact (p2.set (S:=fun x=>x=B) rfl 18 _).trans (Oth.of_below ((Below.refl _ _).alloc (Nat.le_refl _) _)))
  have hB1:=j1.lt
  have hB2:=j2.lt
  have H1:=hide hw1
  have H2:=hide hw2
  have H3:=hide hw3
  generalize cs[15]'(by omega)=x15 at c15
  generalize (cs.set 15 (Value.slice (some ⟨w.heap.size,0,none⟩) 0 0))[16]'(by simp;omega)=x16 at c16
  generalize ((cs.set 15 (Value.slice (some ⟨w.heap.size,0,none⟩) 0 0)).set 16 (.slice (some ⟨w1.heap.size,0,none⟩) 0 0))[18]'(by simp;omega)=x18 at c18
  clear h k1 j1 p1 k2 j2 p2 k3 hw1 hw2 hw3
  go_enter Tryz.func73,Tryz.ntmps73
  go_upto_region 1 with fail
  (try rw [H1.out])
  go_upto_region 2 with fail
  (try rw [H2.out])
  go_wp2
  (try rw [H3.out])
  go_end0
  exact ⟨_,_,_,rfl,J3.out,P3.out⟩
theorem res_specReboot {X:World} {a:Act} {R:Ending->World->Prop} {F:List Value} (g:Nat) (h:X.rangeAt g 0 F) (h2:a.tmps[2]?.getD undef=.pointer (some ⟨g,0,none⟩)) (hs:(Tryz.prog.info? 55).map (·.size)=some F.length) (hd:a.defers=[]) (hR:R (.returned (.agg F.toArray)) X):bodyPost Tryz.prog Tryz.f14 R .ret a X:=by
  have hl:=run_loadVar_mid (P:=Tryz.prog) X g 0 55 F _ h Tryz.underlying55 rfl hs
  refine bodyPost_ret (v:=.agg F.toArray) ?_ hd hR
  simp [results,Tryz.f14,h2,asAddr,hl]
theorem specReboot_any (p:Nd) (u:Nv) (w:World) (hrd:RdNd w p u) (hfw:FewNd p) (hft:FitNd p) (hl1:p.tt.length<=3999999) (hl2:∀ q ∈ p.ps,q.bs.length<=3999999) :
    Calls Tryz.prog 14 #[noV p u] w fun e w'=>∃ u',e=.returned (noV (rbP (nodB p) p) u')/\RdNd w' (rbP (nodB p) p) u'/\Below w.heap.size w w':=by
  have HC:=hide (fun V (hV:Below w.heap.size w V)=>specCopyNd_any p u V (hrd.below hV (Nat.le_refl _)) hfw hl1 hl2)
  have HN:=hide (fun V (hV:Below w.heap.size w V)=>specNodeOk_any p u V (hrd.below hV (Nat.le_refl _)) hfw hft)
  rw [show noV p u=.agg (noC p u).toArray from rfl] at HC HN ⊢
  have hcl:(noC p u).length=20:=rfl
  clear hrd hfw hft hl1 hl2
  generalize noC p u=P at *
  have ZP:=hide (show (Tryz.prog.info? 55).map (·.size)=some P.length from by rw [hcl];exact Tryz.infoC20)
  clear hcl
  obtain ⟨S0,hS0⟩:∃ x,(w.alloc (.cells P.toArray 55)).alloc (.cells #[.string { data:=#[] },.int .i64 0,.int .i64 0,.slice none 0 0,.slice none 0 0,.slice none 0 0,.int .i64 0,.int .i64 0,.int .i64 0,.int .i64 0,.slice none 0 0,.int .i64 0,.slice none 0 0,.slice none 0 0,.int .i64 0,.slice none 0 0,.slice none 0 0,.slice none 0 0,.slice none 0 0,.slice none 0 0] 55)=x:=⟨_,rfl⟩
  have K0:=hide (show Blk S0 w.heap.size 55 P from by rw [<- hS0];exact (Blk.new w _ _).below ((Below.refl (w.heap.size+1) _).alloc (by simp) _) (by omega))
  have R0:=hide (show Blk S0 (w.heap.size+1) 55 [.string { data:=#[] },.int .i64 0,.int .i64 0,.slice none 0 0,.slice none 0 0,.slice none 0 0,.int .i64 0,.int .i64 0,.int .i64 0,.int .i64 0,.slice none 0 0,.int .i64 0,.slice none 0 0,.slice none 0 0,.int .i64 0,.slice none 0 0,.slice none 0 0,.slice none 0 0,.slice none 0 0,.slice none 0 0] from by rw [<- hS0];exact Blk.newR _ _ [.string { data:=#[] },.int .i64 0,.int .i64 0,.slice none 0 0,.slice none 0 0,.slice none 0 0,.int .i64 0,.int .i64 0,.int .i64 0,.int .i64 0,.slice none 0 0,.int .i64 0,.slice none 0 0,.slice none 0 0,.int .i64 0,.slice none 0 0,.slice none 0 0,.slice none 0 0,.slice none 0 0,.slice none 0 0] _ (by simp))
  have b0':Below w.heap.size w S0:=by rw [<- hS0];exact ((Below.refl _ w).alloc (Nat.le_refl _) _).alloc (by simp) _
  have B0:=hide b0'
  have HL:=hide (blk_range K0.out)
  clear b0'
  go_enter Tryz.func14,Tryz.ntmps14
  go_upto_region 1 with fail
  (try rw [hS0])
  clear hS0
  go_wp2_with (first
    | (refine wpList_load_mid rfl 55 _ rfl w.heap.size 0 rfl P _ HL.out Tryz.underlying55 rfl ZP.out ?_)
    | fail)
  refine (HC.out S0 B0.out).mono ?_
  rintro e w2 ⟨u2,rfl,o2,hb2⟩
  have hO:=o2
  rw [show noV p u2=.agg (noC p u2).toArray from rfl]
  have hGl:(noC p u2).length=20:=rfl
  have OG:=hide (all_oneCell_toArray (List.all_eq_true.1 (noC_one o2.rd)))
  have hz:=R0.out.lt
  have E0:noC (rbP false p) u2=noC p u2:=rfl
  have E1:∀ v g q,noC (rbP true p) { u2 with v:=v,g:=g,p:=q }=(((noC p u2).set 15 v).set 16 g).set 18 q:=fun _ _ _=>rfl
  generalize noC p u2=G at hGl OG E0 E1 ⊢
  have HE0:=hide E0
  have HE1:=hide E1
  have ZG:=hide (show (Tryz.prog.info? 55).map (·.size)=some G.toArray.size from by rw [show G.toArray.size=20 from by simpa using hGl];exact Tryz.infoC20)
  have b2:=B0.out.trans (hb2.mono B0.out.size)
  obtain ⟨wA,hwA⟩:∃ x,w2.alloc (.cells #[.string { data:=#[] },.int .i64 0,.int .i64 0,.slice none 0 0,.slice none 0 0,.slice none 0 0,.int .i64 0,.int .i64 0,.int .i64 0,.int .i64 0,.slice none 0 0,.int .i64 0,.slice none 0 0,.slice none 0 0,.int .i64 0,.slice none 0 0,.slice none 0 0,.slice none 0 0,.slice none 0 0,.slice none 0 0] 55)=x:=⟨_,rfl⟩
  have kA:Blk wA w2.heap.size 55 [.string { data:=#[] },.int .i64 0,.int .i64 0,.slice none 0 0,.slice none 0 0,.slice none 0 0,.int .i64 0,.int .i64 0,.int .i64 0,.int .i64 0,.slice none 0 0,.int .i64 0,.slice none 0 0,.slice none 0 0,.int .i64 0,.slice none 0 0,.slice none 0 0,.slice none 0 0,.slice none 0 0,.slice none 0 0]:=by rw [<- hwA];exact Blk.new w2 _ _
  have bA:Below w2.heap.size w2 wA:=by rw [<- hwA];exact (Below.refl _ w2).alloc (Nat.le_refl _) _
  have HTh:=hide (show wA.there w2.heap.size 0 G.toArray.size from by rw [show G.toArray.size=20 from by simpa using hGl];exact kA.there rfl)
  obtain ⟨w3,hw3⟩:∃ x,wA.setCells w2.heap.size 0 G.toArray.toList=x:=⟨_,rfl⟩
  have b3:Below w2.heap.size w2 w3:=by rw [<- hw3];exact bA.trans (putC_below (B:=w2.heap.size) (Nat.le_refl _) _ _ 0)
  have G3:=hide (show Blk w3 w2.heap.size 55 G from by rw [<- hw3];exact blk_all kA (by rw [List.toList_toArray,hGl];rfl))
  have K3:=hide (K0.out.below (hb2.trans (b3.mono hb2.size)) K0.out.lt)
  have R3:=hide (R0.out.below (hb2.trans (b3.mono hb2.size)) R0.out.lt)
  have B3:=hide (b2.trans (b3.mono b2.size))
  have O3:=hide (hO.kept (Kept.of_below b3 (Nat.le_refl _)))
  have HL3:=hide (blk_range K3.out)
  have HwA:=hide hwA
  have Hw3:=hide hw3
  have HGl:=hide hGl
  have hs2:=hb2.size
  clear o2 hO hb2 b2 kA bA b3 hwA hw3 R0 B0 K0 HL HC hGl E0 E1
  go_wp2_with (first
    | (refine wpList_load_mid rfl 55 _ rfl w.heap.size 0 rfl P _ HL3.out Tryz.underlying55 rfl ZP.out ?_)
    | ((try rw [HwA.out]);refine wpList_store_mid rfl 55 _ _ rfl w2.heap.size 0 G.toArray rfl rfl HTh.out ZG.out OG.out ?_;rw [Hw3.out])
    | fail)
  refine (HN.out w3 B3.out).mono ?_
  rintro e w4 ⟨rfl,hb4⟩
  have G4:=hide (G3.out.below hb4 G3.out.lt)
  have R4:=hide (R3.out.below hb4 R3.out.lt)
  have B4:=hide (B3.out.trans (hb4.mono B3.out.size))
  have O4:=hide (O3.out.kept (Kept.of_below hb4 (Nat.le_refl _)))
  clear hb4 G3 R3 B3 O3 K3 HL3 HN HTh HwA Hw3 ZP
  cases hok:nodB p
  · have HLG:=hide (blk_range G4.out)
    have HTf:=hide (show w4.there (w.heap.size+1) 0 G.toArray.size from by rw [show G.toArray.size=20 from by simpa using HGl.out];exact R4.out.there rfl)
    have HX:=hide (show Blk (w4.setCells (w.heap.size+1) 0 G) (w.heap.size+1) 55 G from blk_all R4.out (by rw [HGl.out];rfl))
    have FO:=hide ((O4.out.kept (Kept.setCs w4 0 G (.inl (show w.heap.size+1 < S0.heap.size from hz)))).rd)
    have FB:=hide (B4.out.trans (putC_below (B:=w.heap.size) (show w.heap.size<=w.heap.size+1 by omega) G w4 0))
    clear G4 R4 B4 O4
    go_wp2_with (first
      | (refine wpList_load_mid rfl 55 _ rfl w2.heap.size 0 rfl G _ HLG.out Tryz.underlying55 rfl (by simpa using ZG.out) ?_)
      | (refine wpList_store_mid rfl 55 _ _ rfl (w.heap.size+1) 0 G.toArray rfl rfl HTf.out ZG.out OG.out ?_)
      | fail)
    (try simp only [List.toList_toArray])
    refine res_specReboot (F:=G) (w.heap.size+1) (blk_range HX.out) (by rfl) (by simpa using ZG.out) rfl ?_
    rw [hok]
    exact ⟨u2,by rw [show noV (rbP false p) u2=.agg (noC (rbP false p) u2).toArray from rfl,HE0.out],FO.out,FB.out⟩
  · go_wp2_with fail
    refine (specForget_any w2.heap.size G w4 G4.out HGl.out).mono ?_
    rintro e w5 ⟨a1,a2,a3,rfl,k5,p5⟩
    obtain ⟨H,hH⟩:∃ x,((G.set 15 (.slice (some a1) 0 0)).set 16 (.slice (some a2) 0 0)).set 18 (.slice (some a3) 0 0)=x:=⟨_,rfl⟩
    have hHl:H.length=20:=by rw [<- hH];simp [HGl.out]
    have hok5:RdNd w5 (rbP true p) { u2 with v:=.slice (some a1) 0 0,g:=.slice (some a2) 0 0,p:=.slice (some a3) 0 0 }->True:=fun _=>trivial
    have o5:=O4.out.kept (Kept.of_oth p5 (fun k h1 h2 e=>by have e9:k=w2.heap.size:=e;omega))
    have HOne:=hide (show H.all (·.oneCell')=true from by
      rw [<- hH,<- HE1.out]
      exact noC_one (w:=w5) (p:=rbP true p) (show RdNd w5 (rbP true p) _ from ⟨o5.rd.ka,o5.rd.ks,o5.rd.kt,o5.rd.kw,o5.rd.kx,o5.rd.kh,.inl ⟨_,0,rfl,rfl,fun h=>by cases h⟩,.inl ⟨_,0,rfl,rfl,fun h=>by cases h⟩,o5.rd.kd,.inl ⟨_,0,rfl,rfl,fun h=>by cases h⟩,o5.rd.kq⟩))
    rw [hH] at k5
    have r5:Blk w5 (w.heap.size+1) 55 [.string { data:=#[] },.int .i64 0,.int .i64 0,.slice none 0 0,.slice none 0 0,.slice none 0 0,.int .i64 0,.int .i64 0,.int .i64 0,.int .i64 0,.slice none 0 0,.int .i64 0,.slice none 0 0,.slice none 0 0,.int .i64 0,.slice none 0 0,.slice none 0 0,.slice none 0 0,.slice none 0 0,.slice none 0 0]:=(p5.block _ R4.out.lt (fun e=>by have e9:w.heap.size+1=w2.heap.size:=e;omega)).trans R4.out
    have b5:Below w.heap.size w w5:=B4.out.trans (p5.below (B:=w.heap.size) (fun k e=>by have e9:k=w2.heap.size:=e;omega) B4.out.size)
    have ZH:=hide (show (Tryz.prog.info? 55).map (·.size)=some H.toArray.size from by rw [show H.toArray.size=20 from by simpa using hHl];exact Tryz.infoC20)
    have HLG:=hide (blk_range k5)
    have HTf:=hide (show w5.there (w.heap.size+1) 0 H.toArray.size from by rw [show H.toArray.size=20 from by simpa using hHl];exact r5.there rfl)
    have HX:=hide (show Blk (w5.setCells (w.heap.size+1) 0 H) (w.heap.size+1) 55 H from blk_all r5 (by rw [hHl];rfl))
    have FO:=hide ((o5.kept (Kept.setCs w5 0 H (.inl (show w.heap.size+1 < S0.heap.size from hz)))).rd)
    have FB:=hide (b5.trans (putC_below (B:=w.heap.size) (show w.heap.size<=w.heap.size+1 by omega) H w5 0))
    have OH:=hide (all_oneCell_toArray (List.all_eq_true.1 HOne.out))
    have HH:=hide hH
    clear G4 R4 B4 O4 k5 p5 r5 b5 o5 hH hHl hok5 HOne
    go_wp2_with (first
      | (refine wpList_load_mid rfl 55 _ rfl w2.heap.size 0 rfl H _ HLG.out Tryz.underlying55 rfl (by simpa using ZH.out) ?_)
      | (refine wpList_store_mid rfl 55 _ _ rfl (w.heap.size+1) 0 H.toArray rfl rfl HTf.out ZH.out OH.out ?_)
      | fail)
    (try simp only [List.toList_toArray])
    refine res_specReboot (F:=H) (w.heap.size+1) (blk_range HX.out) (by rfl) (by simpa using ZH.out) rfl ?_
    rw [hok]
    refine ⟨{ u2 with v:=.slice (some a1) 0 0,g:=.slice (some a2) 0 0,p:=.slice (some a3) 0 0 },?_,?_,FB.out⟩
    · rw [show noV (rbP true p) { u2 with v:=.slice (some a1) 0 0,g:=.slice (some a2) 0 0,p:=.slice (some a3) 0 0 }=.agg (noC (rbP true p) { u2 with v:=.slice (some a1) 0 0,g:=.slice (some a2) 0 0,p:=.slice (some a3) 0 0 }).toArray from rfl,HE1.out,HH.out]
    · have f:=FO.out
      exact ⟨f.ka,f.ks,f.kt,f.kw,f.kx,f.kh,.inl ⟨_,0,rfl,rfl,fun h=>by cases h⟩,.inl ⟨_,0,rfl,rfl,fun h=>by cases h⟩,f.kd,.inl ⟨_,0,rfl,rfl,fun h=>by cases h⟩,f.kq⟩
end Go.Proofs.YtljeklmopjkjjaaGreatDoor
namespace Go.Proofs.YtljeklmopjkjjaaGreatDoor
open Go.RowKit Go.Sort
set_option linter.unusedVariables false
theorem heldIntS_any (v:Value) (k n:Nat) (w:World) (hr:RdI w v (mkI k n)) (hl:n<=10000000) (hk:k<=100000000) (hk0:0 < k) :
    Calls Tryz.prog 70 #[v,.int .i64 (k:Int)] w fun e w'=>e=.returned (.int .i64 ((k+n:Nat):Int))/\Below w.heap.size w w':=by
  have hML:=mkI_len k n
  have hMA:=mkI_at k n
  generalize hMd:mkI k n=M at hML hMA hr
  clear hMd
  rcases hr with ⟨a,cap,rfl,rfl,-⟩ | ⟨b,off,cap,h0,rfl,h1,h2,h3,h4⟩
  · simp at hML
    subst hML
    clear hMA
    go_enter Tryz.func70,Tryz.ntmps70
    go_wp2
    refine wp_loop_rounds 1 ?_
    rw [rounds_succ]
    go_wp2
    go_ret
    exact ⟨rfl,Below.refl _ _⟩
  · have HMA:=hide hMA
    have hMl:n<=M.length:=by omega
    have hMg:M.length<=n:=by omega
    have H4:=hide h4
    clear hML hMA h4
    go_enter Tryz.func70,Tryz.ntmps70
    go_wp2
    go_loopw [1,5] (fun kv iv wr=>∃ j:Nat,j<=n/\iv=.int .i64 (j:Int)/\kv=.int .i64 ((k+j:Nat):Int)/\wr=w) (fun _ iv _=>n - (intOf iv).toNat)
    case atStart=>exact ⟨0,Nat.zero_le _,rfl,rfl,rfl⟩
    case round =>
      obtain ⟨j,hj,rfl,rfl,rfl⟩:=hrel
      by_cases hlt:j < n
      · have hjM:j < M.length:=by omega
        have hc0:=H4.out j hjM
        obtain ⟨K,hK⟩:∃ K:Nat,k+j=K:=⟨_,rfl⟩
        have hK2:K<=150000000:=by omega
        rw [HMA.out j hjM,hK] at hc0
        rw [hK]
        have HK:=hide hK
        have hli:(j:Int) < (M.length:Int):=by omega
        clear hK
        go_wp2
        go_roundw
        case rel=>exact ⟨j+1,by omega,by go_num,by rw [show k+(j+1)=K+1 from by have:=HK.out;omega];go_num,by first | trivial | rfl⟩
        case measure=>simp [intOf];omega
      · have e:j=n:=by omega
        have He:=hide e
        clear e
        go_wp2
        go_ret
        exact ⟨ret_int (by rw [<- He.out]),Below.refl _ _⟩
end Go.Proofs.YtljeklmopjkjjaaGreatDoor
