/- Drawn orders, one behind the other, and the next epoch, lose nothing and make nothing: the law FnConserved returns true at every code; its three variables read as the program's text lays them. -/
import Derived.Test.YtohachldbpejpaaGreatDoorTie
import Derived.Test.YtohachldbpejpaaGreatDoorCards
import Derived.Test.YtohachldbpejpaaGreatDoorZoConservedProofWalk
import Derived.ChangeSame
import Derived.ChangeVars
import Derived.JoinedOf
import Derived.ShutString
import Derived.ChangeOld
import Derived.SliceStrings
import Derived.SevenTiedAt
set_option maxRecDepth 100000
namespace Go.Proofs.YtohachldbpejpaaGreatDoor
open Go.ChangeShapes Go.WideShapes Go.ChangeAt Go.RowKit
open Go.ChangeMaps (open_string shut_string)
set_option linter.unusedVariables false
theorem fnConserved_own:ownKnob Tryz.prog.godebug=none:=by kernel_rfl
theorem fnConserved_laidOut:laidOutB Tryz.prog=true:=by kernel_rfl
theorem fnConserved_doorMet (os:Os) (args:Array Value):laidMetH Tryz.prog Rows.fnConservedRow.laid ((World.doorLaid Tryz.prog 400 os).forCall (fun _ _=>0) ⟨#[],args,[]⟩).memory :=
  laidMetH_of_parts3 (fuel:=8) (laidMet_of_run' 8 (by kernel_rfl) (by kernel_rfl)) (by kernel_rfl) (by kernel_rfl)
theorem fnConserved_gl {W:World} (h:laidMetH Tryz.prog Rows.fnConservedRow.laid W):Gl W:=by
  have h' : laidMet Tryz.prog [("loop.example/g00194/impl.shaStart", Rows.laid_loop_example_g00194_impl_shaStart), ("loop.example/g00194/impl.shaConstants", Rows.laid_loop_example_g00194_impl_shaConstants)] W ∧ handlesMet Tryz.prog [("errors.errorType", Rows.laid_errors_errorType)] W := h
  exact gl_of_reads (Lib.laidMet.reads h'.1 (.head _)) (Lib.laidMet.reads h'.1 (.tail _ (.head _)))
theorem fnConserved_gh {W:World} (h:laidMetH Tryz.prog Rows.fnConservedRow.laid W):Gh W:=by
  have h' : laidMet Tryz.prog [("loop.example/g00194/impl.shaStart", Rows.laid_loop_example_g00194_impl_shaStart), ("loop.example/g00194/impl.shaConstants", Rows.laid_loop_example_g00194_impl_shaConstants)] W ∧ handlesMet Tryz.prog [("errors.errorType", Rows.laid_errors_errorType)] W := h
  exact gh_of_handles h'.2
theorem fnConserved_lifted (os:Os) (started:os.Started) (H:Type) (enc:TypeId × Value->H) :
    ReturnsInHanded {} Tryz.checked os 3 .any (fun w args=>(Rows.fnConservedSpec.pre enc Tryz.prog Tryz.f3 [] false w args/\laidMetH Tryz.prog Rows.fnConservedRow.laid w)/\sizedMet enc Tryz.prog Tryz.f3 (OpenSpec.ofChange Rows.fnConservedSpec) false w args)
      (Rows.fnConservedSpec.post enc Tryz.prog Tryz.f3 false true false false):=by
  refine returnsInHanded_of_change_and (C:=Tryz.checked) (X:=fun w _=>laidMetH Tryz.prog Rows.fnConservedRow.laid w) (fun _ _ _ hh h=>h.of_heap hh) fnConserved_own started (by kernel_rfl) Tryz.func3
    (ChangeSpec.witness_shaped (enc:=enc) (C:=Tryz.checked) (os:=os) (X:=fun w _=>laidMetH Tryz.prog Rows.fnConservedRow.laid w) false (World.doorLaid Tryz.prog 400 os) #[.slice none 0 0] 8 rfl (World.shaped_of_RefB (by kernel_rfl) (by kernel_rfl)) (by kernel_rfl) (by kernel_rfl) (by kernel_rfl) (fnConserved_doorMet os _)) ?_
  intro W base args ds gs before hval0 hW _ _ hL _
  have hval:∀ (j:Nat) t v,Tryz.f3.params[j]?=some t->args[j]?=some v->Value.okWide Tryz.prog W .any base t v:=hval0
  have hW':=hW
  obtain ⟨p,q,hA0,hV,rfl,hfz,hnd⟩:=hW
  have hV2:=hV
  obtain ⟨_,_,_,_,_,_,_,_,_,_,_,_,rfl,_,_,_,_,_,_,_,_,_⟩:=trodVars_two hV
  have hA:DataW.TrodAll enc Tryz.prog W 0 (fun _=>true) true Tryz.f3.params.toList args.toList ds p:=hA0
  rw [Tryz.params3] at hA hval
  obtain ⟨v0,vs0,d0,ds0,p0,q0,hargs,rfl,rfl,h0,r0⟩:=trodAll_cons hA
  obtain ⟨rfl,rfl,rfl⟩:=trodAll_nil r0
  obtain rfl:args=#[v0]:=by cases args;simp_all
  obtain ⟨a0,len0,cap0,rfl⟩:=okWide_slice Tryz.underlying22 (hval 0 22 v0 rfl rfl)
  have k0:=h0
  have lt0:∀ x ∈ p0,x.block < W.heap.size:=by obtain ⟨m,hm⟩:=k0;exact DataW.trod_lt m _ _ _ hm
  obtain ⟨z0,w0⟩:∃ zs,IsRow .u8 W a0 len0 cap0 zs:=by
    obtain ⟨fuel,hf⟩:=h0
    rcases open_ints Tryz.underlying22 Tryz.underlying5 (by kernel_rfl) hf with ⟨hcs,_⟩ | ⟨x,l,c,zs,hcs,_,hl,hm,hz,_,hcell,hwz⟩
    · simp [Value.cells] at hcs
      obtain ⟨rfl,rfl,rfl⟩:=hcs
      exact ⟨[],.inl ⟨rfl,rfl,rfl,rfl⟩⟩
    · simp [Value.cells] at hcs
      obtain ⟨rfl,rfl,rfl⟩:=hcs
      exact ⟨zs,.inr ⟨_,rfl,hl,hm,by simpa using hz,hcell,hwz⟩⟩
  clear hA0 hval0
  refine (fnConserved_walk a0 len0 cap0 z0 W (fnConserved_gl hL) (fnConserved_gh hL) w0).mono fun e W' ⟨he,bel⟩=>?_
  subst he
  exact ⟨_,rfl,_,_,_,[],_,_,hW',trodAll_mk1 (shut_bool Tryz.underlying4 _),(trodAll_cons_mk (Below.trod fnConserved_laidOut (by kernel_rfl) (of_decide_eq_true (by kernel_rfl)) k0 bel lt0) trodAll_mk0),Below.trodVars fnConserved_laidOut bel (by kernel_rfl) hV2,bel.frame _,fun h=>by cases h⟩
theorem fnConserved_inPlace:(Rows.fnConservedRow.inPlace == Tryz.prog.inPlace 3)=true:=by kernel_rfl
theorem fnConserved_unfollowed:(Rows.fnConservedRow.unfollowed == Tryz.prog.unfollowed 3)=true:=by kernel_rfl
theorem fnConserved_recurses:(Rows.fnConservedRow.recurses == Tryz.prog.recurses 3)=true:=by kernel_rfl
theorem fnConserved_named:(Rows.fnConservedRow.named == Tryz.prog.varsNamed 3)=true:=by kernel_rfl
theorem fnConserved_closed:joinedFacts Tryz.prog 3 Tryz.f3 Rows.fnConservedSpec Rows.fnConservedRow=true:=by
  unfold joinedFacts
  rw [fnConserved_inPlace,fnConserved_unfollowed,fnConserved_recurses,fnConserved_named]
  kernel_rfl
theorem fnConserved_holds:Rows.FnConservedSaid :=
  OpenClaim.holds_of_wide 3 Tryz.f3 rfl rfl rfl rfl rfl rfl rfl ⟨rfl,rfl,rfl,rfl,rfl⟩ rfl rfl rfl rfl rfl (by kernel_rfl) Tryz.func3 fnConserved_closed
    (of_decide_eq_true (by kernel_rfl)) (by unfold Func.isWrapper;first | (rw [if_pos (by decide +kernel)];kernel_rfl) | (rw [if_neg (by decide +kernel)];exact ⟨rfl,rfl⟩))
    (fun os started H enc _=>fnConserved_lifted os started H enc)
theorem fnConserved_card:Rows.FnConservedCardSaid :=
  Claim7.holds_tied_plain_at .later [] [.handle,.data,.data] true Rows.fnConservedCard.stood.harness true
    fnConserved_holds (fun _ h=>by cases h) (by kernel_rfl) (fun _ h=>by cases h) fnConserved_row_tie rfl ⟨rfl,rfl⟩ (by kernel_rfl) rfl
    (fun f fn hf hfn=>by
      obtain rfl:f=3:=Option.some.inj ((show Tryz.prog.funcNamed Rows.fnConservedRow.func=some 3 by kernel_rfl).symm.trans hf) |>.symm
      obtain rfl:fn=Tryz.f3:=(Option.some.inj (Tryz.func3.symm.trans hfn)).symm
      exact ⟨by kernel_rfl,fun j t ht=>by
        rw [Tryz.params3] at ht
        have hm:t ∈ [22]:=by simpa using Array.mem_of_getElem? ht
        have hall:([22].all fun u=>!Tryz.prog.wantsStandIn u)=true:=by kernel_rfl
        exact (show Tryz.prog.wantsStandIn t=false by simpa using List.all_eq_true.1 hall t hm)⟩)
    (by kernel_rfl)
end Go.Proofs.YtohachldbpejpaaGreatDoor
