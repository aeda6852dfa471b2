/- The landed code's Reboot, of any node. -/
import Derived.Test.YtljeklmopjkjjaaGreatDoorZxNdTry
set_option maxRecDepth 20000
set_option maxHeartbeats 8000000
namespace Go.Proofs.YtljeklmopjkjjaaGreatDoor
open Go.RowKit
set_option linter.unusedVariables false
def tT4:List Value:=[.slice none 0 0,.slice none 0 0,.slice none 0 0,.bool false]
def rbP (b:Bool) (p:Nd):Nd:=if b=true then { p with vo:=[],go:=[],pl:=[] } else p
def rbY (b:Bool) (u:Nv):Nv:=if b=true then { u with v:=.slice none 0 0,g:=.slice none 0 0,p:=.slice none 0 0 } else u
theorem rdR_nil (w:World):RdR w (.slice none 0 0) []:=.inl ⟨none,0,rfl,rfl,fun _=>rfl⟩
theorem rdT_nil (w:World):RdT w (.slice none 0 0) []:=.inl ⟨none,0,rfl,rfl,fun _=>rfl⟩
theorem rb_rd {w:World} {p:Nd} {u:Nv} (b:Bool) (h:RdNd w p u):RdNd w (rbP b p) (rbY b u):=by
  cases b
  · exact h
  · exact ⟨h.ka,h.ks,h.kt,h.kw,h.kx,h.kh,rdR_nil w,rdR_nil w,h.kd,rdT_nil w,h.kq⟩
theorem rb_few {p:Nd} (b:Bool) (h:FewNd p):FewNd (rbP b p):=by
  cases b
  · exact h
  · exact ⟨h.na,h.fa,h.ns,h.nt,h.ft,h.nw,h.nx,h.nh,by simp [rbP],by simp [rbP],h.nd,by simp [rbP],h.nq,h.fq⟩
theorem noT_eq (b:Bool) (p:Nd) (u:Nv):noT b p u=noC (rbP b p) (rbY b u) ++ tT4:=by cases b <;> rfl
theorem range_pre {w:World} {b o:Nat} {cs ds:List Value} (h:w.rangeAt b o (cs ++ ds)):w.rangeAt b o cs:=fun j v hv=>h j v (by rw [List.getElem?_append_left (List.getElem?_eq_some_iff.1 hv).1];exact hv)
theorem triedReboot_any (p:Nd) (u:Nv) (b0:Addr) (w:World) (hrd:RdNd w p u) (hfw:FewNd p) (hft:FitNd p) (hge:Gc w b0) (hG:0 < w.heap.size) :
    Calls Tryz.prog 39 #[noV p u,.func (.func 74) #[] #[]] w fun e w'=>e=.returned (.tuple #[.agg (noC (rbP (nodB p) p) (rbY (nodB p) u) ++ tT4).toArray,.bool (nodB p)])/\Below w.heap.size w w':=by
  rw [<- noT_eq]
  cases h:nodB p
  · exact triedReboot_no p u b0 w hrd hfw hft hge hG h
  · exact triedReboot_yes p u b0 w hrd hfw hft hge hG h
theorem res_implReboot {X:World} {a:Act} {R:Ending->World->Prop} {F:List Value} (g:Nat) (h:X.rangeAt g 0 F) (h2:a.tmps[2]?.getD undef=.pointer (some ⟨g,0,none⟩)) (hs:(Tryz.prog.info? 55).map (·.size)=some F.length) (hd:a.defers=[]) (hR:R (.returned (.agg F.toArray)) X):bodyPost Tryz.prog Tryz.f15 R .ret a X:=by
  have hl:=run_loadVar_mid (P:=Tryz.prog) X g 0 55 F _ h Tryz.underlying55 rfl hs
  refine bodyPost_ret (v:=.agg F.toArray) ?_ hd hR
  simp [results,Tryz.f15,h2,asAddr,hl]
theorem implReboot_any (p:Nd) (u:Nv) (b0:Addr) (w:World) (hrd:RdNd w p u) (hfw:FewNd p) (hft:FitNd p) (hge:Gc w b0) (hG:0 < w.heap.size) (hl1:p.tt.length<=3999999) (hl2:∀ q ∈ p.ps,q.bs.length<=3999999) :
    Calls Tryz.prog 15 #[noV p u] w fun e w'=>∃ u',e=.returned (noV (rbP (nodB p) p) u')/\OwnNd w.heap.size w'.heap.size w' (rbP (nodB p) p) u'/\Below w.heap.size w w':=by
  have HT:=hide (fun V (hV:Below w.heap.size w V)=>triedReboot_any p u b0 V (hrd.below hV (Nat.le_refl _)) hfw hft (hge.below hV hG) (Nat.lt_of_lt_of_le hG hV.size))
  have HC:=hide (fun V (hV:Below w.heap.size w V)=>implCopyNd_any (rbP (nodB p) p) (rbY (nodB p) u) V (rb_rd (nodB p) (hrd.below hV (Nat.le_refl _))) (rb_few (nodB p) hfw) (by cases nodB p <;> exact hl1) (by cases nodB p <;> exact hl2))
  have HNC:=hide (fun u'=>(show noV (rbP (nodB p) p) u'=.agg (noC (rbP (nodB p) p) u').toArray from rfl))
  rw [show noV (rbP (nodB p) p) (rbY (nodB p) u)=.agg (noC (rbP (nodB p) p) (rbY (nodB p) u)).toArray from rfl] at HC
  rw [show noV p u=.agg (noC p u).toArray from rfl] at HT ⊢
  have hCl:(noC (rbP (nodB p) p) (rbY (nodB p) u)).length=20:=rfl
  have hC1:((noC (rbP (nodB p) p) (rbY (nodB p) u)) ++ tT4).all (·.oneCell')=true:=by
    rw [List.all_append,noC_one (rb_rd (nodB p) hrd)]
    rfl
  have hcl:(noC p u).length=20:=rfl
  have ON:=hide (fun u' W a b (h:OwnNd a b W (rbP (nodB p) p) u')=>noC_one h.rd)
  clear hrd hfw hft hge hl1 hl2
  generalize nodB p=bb at *
  generalize noC (rbP bb p) (rbY bb u)=C at *
  generalize noC p u=P at *
  obtain ⟨G,hGG⟩:∃ x,C ++ tT4=x:=⟨_,rfl⟩
  have hGl:G.length=24:=by rw [<- hGG,List.length_append,hCl];rfl
  rw [hGG] at HT hC1
  have OG:=hide (all_oneCell_toArray (cs:=G) (List.all_eq_true.1 hC1))
  have ZG:=hide (show (Tryz.prog.info? 92).map (·.size)=some G.toArray.size from by rw [show G.toArray.size=24 from by simpa using hGl];exact Tryz.infoT24)
  have ZC:=hide (show (Tryz.prog.info? 55).map (·.size)=some C.length from by rw [hCl];exact Tryz.infoC20)
  have ZP:=hide (show (Tryz.prog.info? 55).map (·.size)=some P.length from by rw [hcl];exact Tryz.infoC20)
  have HGl:=hide hGl
  have HGG:=hide hGG
  clear hC1 hCl hcl hGl hGG
  obtain ⟨S0,hS0⟩:∃ x,(w.alloc (.cells P.toArray 55)).alloc (.cells #[.string { data:=#[] },.int .i64 0,.int .i64 0,.slice none 0 0,.slice none 0 0,.slice none 0 0,.int .i64 0,.int .i64 0,.int .i64 0,.int .i64 0,.slice none 0 0,.int .i64 0,.slice none 0 0,.slice none 0 0,.int .i64 0,.slice none 0 0,.slice none 0 0,.slice none 0 0,.slice none 0 0,.slice none 0 0] 55)=x:=⟨_,rfl⟩
  have K0:=hide (show Blk S0 w.heap.size 55 P from by rw [<- hS0];exact (Blk.new w _ _).below ((Below.refl (w.heap.size+1) _).alloc (by simp) _) (by omega))
  have R0:=hide (show Blk S0 (w.heap.size+1) 55 [.string { data:=#[] },.int .i64 0,.int .i64 0,.slice none 0 0,.slice none 0 0,.slice none 0 0,.int .i64 0,.int .i64 0,.int .i64 0,.int .i64 0,.slice none 0 0,.int .i64 0,.slice none 0 0,.slice none 0 0,.int .i64 0,.slice none 0 0,.slice none 0 0,.slice none 0 0,.slice none 0 0,.slice none 0 0] from by rw [<- hS0];exact Blk.newR _ _ [.string { data:=#[] },.int .i64 0,.int .i64 0,.slice none 0 0,.slice none 0 0,.slice none 0 0,.int .i64 0,.int .i64 0,.int .i64 0,.int .i64 0,.slice none 0 0,.int .i64 0,.slice none 0 0,.slice none 0 0,.int .i64 0,.slice none 0 0,.slice none 0 0,.slice none 0 0,.slice none 0 0,.slice none 0 0] _ (by simp))
  have b0':Below w.heap.size w S0:=by rw [<- hS0];exact ((Below.refl _ w).alloc (Nat.le_refl _) _).alloc (by simp) _
  have B0:=hide b0'
  have HL:=hide (blk_range K0.out)
  clear b0' K0
  go_enter Tryz.func15,Tryz.ntmps15
  go_upto_region 1 with fail
  (try rw [hS0])
  clear hS0
  go_wp2_with (first
    | (refine wpList_load_mid rfl 55 _ rfl w.heap.size 0 rfl P _ HL.out Tryz.underlying55 rfl ZP.out ?_)
    | fail)
  refine (HT.out S0 B0.out).mono ?_
  rintro e w2 ⟨rfl,hb2⟩
  have R2:=hide (R0.out.below hb2 R0.out.lt)
  have b2:=B0.out.trans (hb2.mono B0.out.size)
  obtain ⟨wA,hwA⟩:∃ x,w2.alloc (.cells #[.string { data:=#[] },.int .i64 0,.int .i64 0,.slice none 0 0,.slice none 0 0,.slice none 0 0,.int .i64 0,.int .i64 0,.int .i64 0,.int .i64 0,.slice none 0 0,.int .i64 0,.slice none 0 0,.slice none 0 0,.int .i64 0,.slice none 0 0,.slice none 0 0,.slice none 0 0,.slice none 0 0,.slice none 0 0,.slice none 0 0,.slice none 0 0,.slice none 0 0,.bool false] 92)=x:=⟨_,rfl⟩
  have kA:Blk wA w2.heap.size 92 [.string { data:=#[] },.int .i64 0,.int .i64 0,.slice none 0 0,.slice none 0 0,.slice none 0 0,.int .i64 0,.int .i64 0,.int .i64 0,.int .i64 0,.slice none 0 0,.int .i64 0,.slice none 0 0,.slice none 0 0,.int .i64 0,.slice none 0 0,.slice none 0 0,.slice none 0 0,.slice none 0 0,.slice none 0 0,.slice none 0 0,.slice none 0 0,.slice none 0 0,.bool false]:=by rw [<- hwA];exact Blk.new w2 _ _
  have bA:Below w2.heap.size w2 wA:=by rw [<- hwA];exact (Below.refl _ w2).alloc (Nat.le_refl _) _
  have HTh:=hide (show wA.there w2.heap.size 0 G.toArray.size from by rw [show G.toArray.size=24 from by simpa using HGl.out];exact kA.there rfl)
  obtain ⟨w3,hw3⟩:∃ x,wA.setCells w2.heap.size 0 G.toArray.toList=x:=⟨_,rfl⟩
  have k3:Blk w3 w2.heap.size 92 G:=by rw [<- hw3];exact blk_all kA (by rw [List.toList_toArray,HGl.out];rfl)
  have b3:Below w2.heap.size w2 w3:=by rw [<- hw3];exact bA.trans (putC_below (B:=w2.heap.size) (Nat.le_refl _) _ _ 0)
  have RG:=hide (show w3.rangeAt w2.heap.size 0 C from range_pre (by rw [HGG.out];exact blk_range k3))
  have R3:=hide (R2.out.below b3 R2.out.lt)
  have B3:=hide (b2.trans (b3.mono b2.size))
  have HwA:=hide hwA
  have Hw3:=hide hw3
  clear hb2 b2 kA bA k3 b3 hwA hw3 R0 B0 R2 HL HT
  go_wp2_with (first
    | (refine load_mid 55 _ rfl w2.heap.size 0 rfl C _ RG.out Tryz.underlying55 rfl ZC.out (by rfl) ?_)
    | ((try rw [HwA.out]);refine wpList_store_mid rfl 92 _ _ rfl w2.heap.size 0 G.toArray rfl rfl HTh.out ZG.out OG.out ?_;rw [Hw3.out])
    | fail)
  refine (HC.out w3 B3.out).mono ?_
  rintro e w4 ⟨u4,rfl,o4,hb4⟩
  rw [HNC.out u4]
  have hz3:=R3.out.lt
  have r4:=R3.out.below hb4 hz3
  have hFl:(noC (rbP bb p) u4).length=20:=rfl
  have OF:=hide (all_oneCell_toArray (List.all_eq_true.1 (ON.out u4 _ _ _ o4)))
  have HFV:=hide (HNC.out u4)
  have FO:=hide (fun F=>o4.kept (Kept.setCs w4 0 F (.inl (show w.heap.size+1 < w3.heap.size by omega))))
  have FB:=hide (fun F=>(B3.out.trans (hb4.mono B3.out.size)).trans (putC_below (B:=w.heap.size) (show w.heap.size<=w.heap.size+1 by omega) F w4 0))
  have sz4:=hb4.size
  have szw:=B3.out.size
  generalize noC (rbP bb p) u4=F at hFl OF HFV ⊢
  have HX:=hide (show Blk (w4.setCells (w.heap.size+1) 0 F) (w.heap.size+1) 55 F from blk_all r4 (by rw [hFl];rfl))
  have HTf:=hide (show w4.there (w.heap.size+1) 0 F.toArray.size from by rw [show F.toArray.size=20 from by simpa using hFl];exact r4.there rfl)
  have ZF:=hide (show (Tryz.prog.info? 55).map (·.size)=some F.length from by rw [hFl];exact Tryz.infoC20)
  have FZ:=hide (show (w4.setCells (w.heap.size+1) 0 F).heap.size=w4.heap.size from size_sets _ F _ 0)
  clear o4 hb4 r4 R3 hFl HC HNC ON RG HTh HwA Hw3
  go_wp2_with (first
    | (refine wpList_store_mid rfl 55 _ _ rfl (w.heap.size+1) 0 F.toArray rfl rfl HTf.out (by simpa using ZF.out) OF.out ?_)
    | fail)
  (try simp only [List.toList_toArray])
  refine res_implReboot (F:=F) (w.heap.size+1) (blk_range HX.out) (by rfl) ZF.out rfl ?_
  refine ⟨u4,by rw [<- HFV.out],?_,FB.out F⟩
  rw [FZ.out]
  exact (FO.out F).wide szw (Nat.le_refl _)
end Go.Proofs.YtljeklmopjkjjaaGreatDoor
