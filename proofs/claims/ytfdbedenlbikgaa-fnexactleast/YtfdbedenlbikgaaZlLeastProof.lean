/- At all worlds Least of the program answers as the model's Least, and writes into no argument: the law FnExactLeast returns true, with no condition. -/
import Derived.Test.YtfdbedenlbikgaaZlWdEq
import Derived.Test.YtfdbedenlbikgaaZlLkS
import Derived.Test.YtfdbedenlbikgaaZlLkI
import Derived.Below
set_option maxRecDepth 100000
set_option maxHeartbeats 8000000
namespace Go.Proofs.Ytfdbedenlbikgaa
open Go.ChangeShapes Go.WideShapes Go.ChangeAt Go.RowKit
open Go.ChangeMaps (open_string shut_string)
set_option linter.unusedVariables false
theorem fnExactLeast_own:ownKnob Try.prog.godebug=none:=by kernel_rfl
theorem fnExactLeast_laidOut:laidOutB Try.prog=true:=by kernel_rfl
theorem wdC_one {w:World} {p:Wd} {u:Wv} (h:RdWd w p u):(wdC p u).all (·.oneCell')=true:=by
  obtain ⟨ada,cpa,eqa⟩:=h.ka.shape
  obtain ⟨adf,cpf,eqf⟩:=h.kf.shape
  obtain ⟨adn,cpn,eqn⟩:=h.kn.shape
  obtain ⟨adb,cpb,eqb⟩:=h.kb.shape
  obtain ⟨ads,cps,eqs⟩:=h.ks.shape
  obtain ⟨adm,cpm,eqm⟩:=h.km.shape
  simp [wdC,Value.oneCell',eqa,eqf,eqn,eqb,eqs,eqm]
theorem Try.infoAWd:(Try.prog.info? 31).map (·.size)=some 7:=by kernel_rfl
theorem Try.infoBWd:(Try.prog.info? 42).map (·.size)=some 7:=by kernel_rfl
theorem fnExactLeast_walk (z0:Wd) (y0:Wv) (w:World) (w0:RdWd w z0 y0/\FitWd z0) :
    Calls Try.prog 3 #[wdV z0 y0] w fun e w'=>e=.returned (.bool true)/\Below w.heap.size w w':=by
  obtain ⟨hr,hft⟩:=w0
  obtain ⟨w1,hw1⟩:∃ x,w.alloc (.cells (wdC z0 y0).toArray 31)=x:=⟨_,rfl⟩
  have b1:Below w.heap.size w w1:=by rw [<- hw1];exact (Below.refl _ w).alloc (Nat.le_refl _) _
  have K1:=hide (show Blk w1 w.heap.size 31 (wdC z0 y0) from by rw [<- hw1];exact Blk.new w _ _)
  have Hz:=hide (szWorld_any z0 y0 1048576 w1 (hr.below b1 (Nat.le_refl _)) (by omega) hft)
  have HT:=hide (fun (hf:FewWd z0) V (hV:Below w.heap.size w V)=>toWorld_any z0 y0 V (hr.below hV (Nat.le_refl _)) hf)
  have HS:=hide (fun (hf:FewWd z0) u V (h:RdWd V z0 u)=>specLeast_any z0 u V h hf hft)
  have HI:=hide (fun (hf:FewWd z0) u V (h:RdWd V z0 u)=>implLeast_any z0 u V h hf hft)
  have HE:=hide (fun (hf:FewWd z0) u t V (h1:RdWd V z0 u) (h2:RdWd V z0 t)=>eqWorld_same z0 u t V h1 h2 hf)
  have I1:=hide (show (Try.prog.info? 31).map (·.size)=some (wdC z0 y0).length from Try.infoAWd)
  have L1:=hide (show (wdC z0 y0).length=7 from rfl)
  have B1:=hide b1
  rw [show wdV z0 y0=.agg (wdC z0 y0).toArray from rfl] at Hz HT ⊢
  generalize leB (doneA z0.ns)=X at HS HI
  clear hr hft b1
  generalize wdC z0 y0=cs at K1 Hz HT I1 L1 hw1 ⊢
  have R1:=hide (blk_range K1.out)
  go_enter Try.func3,Try.ntmps3
  go_upto_region 2 with fail
  (try rw [hw1])
  clear hw1
  go_wp2_with (first
    | (refine wpList_load_mid rfl 31 _ rfl w.heap.size 0 rfl cs _ R1.out Try.underlying31 rfl I1.out ?_)
    | fail)
  refine Hz.out.mono ?_
  rintro e w2 ⟨r,rfl,hfit,hb2⟩
  have B2:=hide (B1.out.trans (hb2.mono B1.out.size))
  have K2:=hide (K1.out.below hb2 K1.out.lt)
  have Hfit:=hide hfit
  clear hb2 hfit Hz R1
  by_cases hneg:r < 0
  · clear Hfit HT HS HI HE
    go_wp2
    go_ret
    exact ⟨rfl,B2.out⟩
  · obtain ⟨hfew,-⟩:=Hfit.out (by omega)
    have HT:=hide (HT.out hfew)
    have HS:=hide (HS.out hfew)
    have HI:=hide (HI.out hfew)
    have HE:=hide (HE.out hfew)
    have R2:=hide (blk_range K2.out)
    clear Hfit hfew
    go_wp2_with (first
      | (refine wpList_load_mid rfl 31 _ rfl w.heap.size 0 rfl cs _ R2.out Try.underlying31 rfl I1.out ?_)
      | fail)
    refine (HT.out w2 B2.out).mono ?_
    rintro e w3 ⟨u3,rfl,o3,hb3⟩
    have B3:=hide (B2.out.trans (hb3.mono B2.out.size))
    have K3:=hide (K2.out.below hb3 K2.out.lt)
    have C3:=hide (HS.out u3 w3 o3.rd)
    rw [show wdV z0 u3=.agg (wdC z0 u3).toArray from rfl] at C3 ⊢
    generalize wdC z0 u3=c3 at C3 ⊢
    clear hb3 o3 R2
    go_wp2_with fail
    refine C3.out.mono ?_
    rintro e w4 ⟨rfl,hb4⟩
    have B4:=hide (B3.out.trans (hb4.mono B3.out.size))
    have K4:=hide (K3.out.below hb4 K3.out.lt)
    have R4:=hide (blk_range K4.out)
    clear hb4 C3
    go_wp2_with (first
      | (refine wpList_load_mid rfl 31 _ rfl w.heap.size 0 rfl cs _ R4.out Try.underlying31 rfl I1.out ?_)
      | fail)
    refine (HT.out w4 B4.out).mono ?_
    rintro e w5 ⟨u5,rfl,o5,hb5⟩
    have B5:=B4.out.trans (hb5.mono B4.out.size)
    have K5:=K4.out.below hb5 K4.out.lt
    have z5:=K5.lt
    have bz:Blk (w5.alloc (.cells #[.int .i64 0,.slice none 0 0,.slice none 0 0,.slice none 0 0,.slice none 0 0,.slice none 0 0,.slice none 0 0] 42)) w5.heap.size 42 [.int .i64 0,.slice none 0 0,.slice none 0 0,.slice none 0 0,.slice none 0 0,.slice none 0 0,.slice none 0 0]:=Blk.new w5 _ _
    have H1:=hide (show (wdC z0 u5).toArray.all (·.oneCell')=true from by rw [List.all_toArray];exact wdC_one o5.rd)
    have I5:=hide (show (Try.prog.info? 42).map (·.size)=some (wdC z0 u5).length from Try.infoBWd)
    have Hth:=hide (show (w5.alloc (.cells #[.int .i64 0,.slice none 0 0,.slice none 0 0,.slice none 0 0,.slice none 0 0,.slice none 0 0,.slice none 0 0] 42)).there w5.heap.size 0 (wdC z0 u5).toArray.size from bz.there rfl)
    obtain ⟨w6,hw6⟩:∃ x,(w5.alloc (.cells #[.int .i64 0,.slice none 0 0,.slice none 0 0,.slice none 0 0,.slice none 0 0,.slice none 0 0,.slice none 0 0] 42)).setCells w5.heap.size 0 (wdC z0 u5)=x:=⟨_,rfl⟩
    have J6:=hide (show Blk w6 w5.heap.size 42 (wdC z0 u5) from by rw [<- hw6];exact blk_all bz rfl)
    have b6:Below w5.heap.size w5 w6:=by rw [<- hw6];exact ((Below.refl _ w5).alloc (Nat.le_refl _) _).trans (putC_below (Nat.le_refl _) _ _ _)
    have B6:=hide (B5.trans (b6.mono B5.size))
    have K6:=hide (K5.below b6 K5.lt)
    have N6:=hide (o5.rd.below b6 (Nat.le_refl _))
    have C6:=hide (HI.out u5 w6 N6.out)
    rw [show wdV z0 u5=.agg (wdC z0 u5).toArray from rfl] at C6 ⊢
    have HE5:=hide (fun t V (h1:RdWd V z0 u5) (h2:RdWd V z0 t)=>HE.out u5 t V h1 h2)
    rw [show wdV z0 u5=.agg (wdC z0 u5).toArray from rfl] at HE5
    generalize wdC z0 u5=c5 at C6 H1 I5 Hth hw6 J6 HE5 ⊢
    have R6:=hide (blk_range J6.out)
    have Hw6:=hide hw6
    clear o5 hb5 B5 K5 bz b6 hw6 R4 HE HS HI
    go_wp2_with (first
      | (refine wpList_load_mid rfl 42 _ rfl w5.heap.size 0 rfl c5 _ R6.out Try.underlying42 rfl I5.out ?_)
      | (refine wpList_store_mid rfl 42 _ _ rfl w5.heap.size 0 c5.toArray rfl rfl Hth.out (by simpa using I5.out) H1.out ?_;rw [Hw6.out])
      | fail)
    refine C6.out.mono ?_
    rintro e w7 ⟨rfl,hb7⟩
    have B7:=hide (B6.out.trans (hb7.mono B6.out.size))
    have N7:=hide (N6.out.below hb7 (Nat.le_refl _))
    have z7:=hb7.size
    have HSS:Hid (∀ V,Below w7.heap.size w7 V->(V.rangeAt w5.heap.size 0 c5/\V.rangeAt w.heap.size 0 cs)):=hide (fun V hV=>⟨range_below (range_below R6.out hb7 J6.out.lt) hV (by have:=J6.out.lt;omega),range_below (range_below (blk_range K6.out) hb7 K6.out.lt) hV (by have:=K6.out.lt;omega)⟩)
    have hxx:(X != X)=false:=by simp
    have bD:Below w7.heap.size w7 w7.drew:=(Below.refl _ w7).drew
    have hS0:=HSS.out _ bD
    clear hb7 C6 z7 z5
    go_wp2
    refine wp_region_held_drew (S:=fun W=>W.rangeAt w5.heap.size 0 c5/\W.rangeAt w.heap.size 0 cs) (by kernel_rfl) hS0 (fun hHeld=>?_)
    refine wpAnyH_take (i:=0) (v:=.agg c5.toArray) rfl (by kernel_rfl) (by kernel_rfl) (by kernel_rfl) (fun _ _ _ h=>h) (yieldsIf_load_mid (by rfl) 42 _ rfl w5.heap.size 0 rfl c5 _ (fun W hW=>hW.1) Try.underlying42 rfl I5.out) (by assumption) ?_
    change wpAnyH Try.prog _ _ _ _ _ _ (Act.put _ (some 22) _) _
    simp only [Act.put,List.setIfInBounds_toArray,List.set_cons_zero,List.set_cons_succ]
    refine wpAnyH_take (i:=1) (v:=.agg cs.toArray) rfl (by kernel_rfl) (by kernel_rfl) (by kernel_rfl) (fun _ _ _ h=>h) (yieldsIf_load_mid (by rfl) 31 _ rfl w.heap.size 0 rfl cs _ (fun W hW=>hW.2) Try.underlying31 rfl I1.out) (by assumption) ?_
    change wpAnyH Try.prog _ _ _ _ _ _ (Act.put _ (some 23) _) _
    simp only [Act.put,List.setIfInBounds_toArray,List.set_cons_zero,List.set_cons_succ]
    refine wpAnyH_ready (rs:=[2]) (by kernel_rfl) (by simp) ?_
    refine AllReadyH.cons rfl (fun K hK=>?_) AllReadyH.nil
    go_simp
    go_wp2_with (go_at_call 7;(with_reducible refine (HT.out _ (B7.out.trans (bD.mono B7.out.size))).mono ?_);rintro e w8 ⟨u8,rfl,o8,hb8⟩;have c8:=bD.trans (hb8.mono bD.size);have hS8:=HSS.out _ c8;have r8:=o8.rd)
    refine hK.out _ _ hS8 (fun hHeld=>?_)
    try simp only [Act.put,List.setIfInBounds_toArray,List.set_cons_zero,List.set_cons_succ]
    refine wpAnyH_ready (rs:=[3]) (by kernel_rfl) (by simp) ?_
    refine AllReadyH.cons rfl (fun K hK=>?_) AllReadyH.nil
    go_simp
    go_wp2_with (go_at_call 9;(with_reducible refine (HE5.out _ _ (N7.out.below c8 (Nat.le_refl _)) r8).mono ?_);rintro e w9 ⟨rfl,hb9⟩;have c9:=c8.trans (hb9.mono c8.size);have hS9:=HSS.out _ c9)
    refine hK.out _ _ hS9 (fun hHeld=>?_)
    try simp only [Act.put,List.setIfInBounds_toArray,List.set_cons_zero,List.set_cons_succ]
    refine wpAnyH_take (i:=4) (v:=.bool false) rfl (by kernel_rfl) (by kernel_rfl) (by kernel_rfl) (fun _ _ _ h=>h) (Or.inl ⟨by rfl,fun W hW=>by go_simp⟩) (by assumption) ?_
    change wpAnyH Try.prog _ _ _ _ _ _ (Act.put _ (some 26) _) _
    simp only [Act.put,List.setIfInBounds_toArray,List.set_cons_zero,List.set_cons_succ]
    refine wpAnyH_done (by kernel_rfl) ?_ _
    have hB9:=B7.out.trans (c9.mono B7.out.size)
    clear hS0 hS8 hS9 o8 r8 hb8 hb9 c8 c9
    go_wp2
    go_ret
    exact ⟨rfl,hB9⟩
theorem fnExactLeast_lifted (os:Os) (started:os.Started) (H:Type) (enc:TypeId × Value->H) :
    ReturnsInHanded {} Try.checked os 3 .any (Rows.fnExactLeastSpec.pre6 enc Try.prog Try.f3 Rows.fnExactLeastRow.domain false) (Rows.fnExactLeastSpec.post enc Try.prog Try.f3 false true false false):=by
  refine returnsInHanded_of_change (C:=Try.checked) fnExactLeast_own started (by kernel_rfl) Try.func3
    (ChangeSpec.witness6 (enc:=enc) (C:=Try.checked) false ⟨#[],#[.agg #[.int .i64 0,.slice none 0 0,.slice none 0 0,.slice none 0 0,.slice none 0 0,.slice none 0 0,.slice none 0 0]],[]⟩ 8 (by kernel_rfl) (by kernel_rfl) (by kernel_rfl) (by kernel_rfl)) ?_
  intro W base args ds gs before hval0 hW hcnd _
  have hval:∀ (j:Nat) t v,Try.f3.params[j]?=some t->args[j]?=some v->Value.okWide Try.prog W .any base t v:=hval0
  have hW':=hW
  obtain ⟨p,q,hA0,hV,rfl,hfz,hnd⟩:=hW
  have hA:DataW.TrodAll enc Try.prog W 0 (fun _=>true) true Try.f3.params.toList args.toList ds p:=hA0
  rw [Try.params3] at hA hval
  obtain ⟨v0,vs0,d0,ds0,p0,q0,hargs,rfl,rfl,h0,r0⟩:=trodAll_cons hA
  obtain ⟨rfl,rfl,rfl⟩:=trodAll_nil r0
  obtain rfl:args=#[v0]:=by cases args;simp_all
  obtain ⟨rfl,rfl⟩:=trodVars_none hV
  have k0:=h0
  have lt0:∀ x ∈ p0,x.block < W.heap.size:=by obtain ⟨m,hm⟩:=k0;exact DataW.trod_lt m _ _ _ hm
  obtain ⟨z0,y0,rfl,w0⟩:∃ (m:Wd) (v:Wv),v0=wdV m v/\RdWd W m v/\FitWd m:=by
    obtain ⟨cs,rfl,hsz⟩:=okWide_struct Try.underlying31 (hval 0 31 _ rfl rfl)
    obtain ⟨fuel,hf⟩:=h0
    obtain ⟨m,v,q,rest⟩:=open_Wd (by simpa [Value.cells] using hf)
    exact ⟨m,v,by cases cs;simp at q;subst q;rfl,rest⟩
  clear hA0 hval0
  refine (fnExactLeast_walk z0 y0 W w0).mono fun e W' ⟨he,bel⟩=>?_
  subst he
  exact ⟨_,rfl,_,_,_,[],_,[],hW',trodAll_mk1 (shut_bool Try.underlying4 _),(trodAll_cons_mk (Below.trod fnExactLeast_laidOut (by kernel_rfl) (of_decide_eq_true (by kernel_rfl)) k0 bel lt0) trodAll_mk0),rfl,bel.frame _,fun h=>by cases h⟩
theorem fnExactLeast_holds:Rows.FnExactLeastSaid :=
  OpenClaim.holds_of_wide 3 Try.f3 rfl rfl rfl rfl rfl rfl rfl ⟨rfl,rfl,rfl,rfl,rfl⟩ rfl rfl rfl rfl rfl (by kernel_rfl) Try.func3 (by kernel_rfl)
    (of_decide_eq_true (by kernel_rfl)) (by unfold Func.isWrapper;first | (rw [if_pos (by decide +kernel)];kernel_rfl) | (rw [if_neg (by decide +kernel)];exact ⟨rfl,rfl⟩))
    (fun os started H enc _=>fnExactLeast_lifted os started H enc)
end Go.Proofs.Ytfdbedenlbikgaa
