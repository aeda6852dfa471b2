/- At all ledgers, lists of blocks, numbers and lists of orders MakeBody of the program answers as the model's MakeBody, writes into no argument, and its answer owns its memory: the law FnExactMakeBody returns true; its three variables read as the program's text lays them. -/
import Derived.Test.YtohachldbpejpaaGreatDoorTie
import Derived.Test.YtohachldbpejpaaGreatDoorCards
import Derived.Test.YtohachldbpejpaaGreatDoorZmMakeBodyProofWalk
import Derived.ChangeSame
import Derived.ChangeVars
import Derived.JoinedOf
import Derived.SevenTiedAt
set_option maxRecDepth 100000
namespace Go.Proofs.YtohachldbpejpaaGreatDoor
open Go.ChangeShapes Go.WideShapes Go.ChangeAt Go.RowKit
open Go.ChangeMaps (open_string shut_string)
set_option linter.unusedVariables false
theorem fnExactMakeBody_own:ownKnob Tryz.prog.godebug=none:=by kernel_rfl
theorem fnExactMakeBody_laidOut:laidOutB Tryz.prog=true:=by kernel_rfl
theorem fnExactMakeBody_doorMet (os:Os) (args:Array Value):laidMetH Tryz.prog Rows.fnExactMakeBodyRow.laid ((World.doorLaid Tryz.prog 400 os).forCall (fun _ _=>0) ⟨#[],args,[]⟩).memory :=
  laidMetH_of_parts3 (fuel:=8) (laidMet_of_run' 8 (by kernel_rfl) (by kernel_rfl)) (by kernel_rfl) (by kernel_rfl)
theorem fnExactMakeBody_gl {W:World} (h:laidMetH Tryz.prog Rows.fnExactMakeBodyRow.laid W):Gl W:=by
  have h' : laidMet Tryz.prog [("loop.example/g00194/impl.shaStart", Rows.laid_loop_example_g00194_impl_shaStart), ("loop.example/g00194/impl.shaConstants", Rows.laid_loop_example_g00194_impl_shaConstants)] W ∧ handlesMet Tryz.prog [("errors.errorType", Rows.laid_errors_errorType)] W := h
  exact gl_of_reads (Lib.laidMet.reads h'.1 (.head _)) (Lib.laidMet.reads h'.1 (.tail _ (.head _)))
theorem fnExactMakeBody_gh {W:World} (h:laidMetH Tryz.prog Rows.fnExactMakeBodyRow.laid W):Gh W:=by
  have h' : laidMet Tryz.prog [("loop.example/g00194/impl.shaStart", Rows.laid_loop_example_g00194_impl_shaStart), ("loop.example/g00194/impl.shaConstants", Rows.laid_loop_example_g00194_impl_shaConstants)] W ∧ handlesMet Tryz.prog [("errors.errorType", Rows.laid_errors_errorType)] W := h
  exact gh_of_handles h'.2
theorem fnExactMakeBody_lifted (os:Os) (started:os.Started) (H:Type) (enc:TypeId × Value->H) :
    ReturnsInHanded {} Tryz.checked os 7 .any (fun w args=>(Rows.fnExactMakeBodySpec.pre enc Tryz.prog Tryz.f7 [] false w args/\laidMetH Tryz.prog Rows.fnExactMakeBodyRow.laid w)/\sizedMet enc Tryz.prog Tryz.f7 (OpenSpec.ofChange Rows.fnExactMakeBodySpec) false w args)
      (Rows.fnExactMakeBodySpec.post enc Tryz.prog Tryz.f7 false true false false):=by
  refine returnsInHanded_of_change_and (C:=Tryz.checked) (X:=fun w _=>laidMetH Tryz.prog Rows.fnExactMakeBodyRow.laid w) (fun _ _ _ hh h=>h.of_heap hh) fnExactMakeBody_own started (by kernel_rfl) Tryz.func7
    (ChangeSpec.witness_shaped (enc:=enc) (C:=Tryz.checked) (os:=os) (X:=fun w _=>laidMetH Tryz.prog Rows.fnExactMakeBodyRow.laid w) false (World.doorLaid Tryz.prog 400 os) #[.agg #[.int .i64 0,.slice none 0 0],.slice none 0 0,.int .i64 0,.slice none 0 0] 8 rfl (World.shaped_of_RefB (by kernel_rfl) (by kernel_rfl)) (by kernel_rfl) (by kernel_rfl) (by kernel_rfl) (fnExactMakeBody_doorMet os _)) ?_
  intro W base args ds gs before hval0 hW _ _ hL _
  have hval:∀ (j:Nat) t v,Tryz.f7.params[j]?=some t->args[j]?=some v->Value.okWide Tryz.prog W .any base t v:=hval0
  have hW':=hW
  obtain ⟨p,q,hA0,hV,rfl,hfz,hnd⟩:=hW
  have hV2:=hV
  obtain ⟨_,_,_,_,_,_,_,_,_,_,_,_,rfl,_,_,_,_,_,_,_,_,_⟩:=trodVars_two hV
  have hA:DataW.TrodAll enc Tryz.prog W 0 (fun _=>true) true Tryz.f7.params.toList args.toList ds p:=hA0
  rw [Tryz.params7] at hA hval
  obtain ⟨v0,vs0,d0,ds0,p0,q0,hargs,rfl,rfl,h0,r0⟩:=trodAll_cons hA
  obtain ⟨v1,vs1,d1,ds1,p1,q1,rfl,rfl,rfl,h1,r1⟩:=trodAll_cons r0
  obtain ⟨v2,vs2,d2,ds2,p2,q2,rfl,rfl,rfl,h2,r2⟩:=trodAll_cons r1
  obtain ⟨v3,vs3,d3,ds3,p3,q3,rfl,rfl,rfl,h3,r3⟩:=trodAll_cons r2
  obtain ⟨rfl,rfl,rfl⟩:=trodAll_nil r3
  obtain rfl:args=#[v0,v1,v2,v3]:=by cases args;simp_all
  have k0:=h0
  have lt0:∀ x ∈ p0,x.block < W.heap.size:=by obtain ⟨m,hm⟩:=k0;exact DataW.trod_lt m _ _ _ hm
  obtain ⟨a0,y0,z0,rfl,w0⟩:∃ (e:Int) (v:Value) (l:List Ac),v0=lgV e v/\RdA W v l/\l.length<=maxLen/\∀ q ∈ l,q.1.size<=maxLen/\q.2.2.2.2.length<=maxLen:=by
    obtain ⟨cs,rfl,hsz⟩:=okWide_struct Tryz.underlying64 (hval 0 64 _ rfl rfl)
    obtain ⟨fuel,hf⟩:=h0
    obtain ⟨e,v,l,q,r⟩:=open_ledger (by simpa [Value.cells] using hf)
    exact ⟨e,v,l,by cases cs;simp at q;subst q;rfl,r⟩
  have k1:=h1
  have lt1:∀ x ∈ p1,x.block < W.heap.size:=by obtain ⟨m,hm⟩:=k1;exact DataW.trod_lt m _ _ _ hm
  obtain ⟨a1,len1,cap1,rfl⟩:=okWide_slice Tryz.underlying65 (hval 1 65 v1 rfl rfl)
  obtain ⟨z1,w1⟩:∃ l:List Bk,len1=l.length/\RdKs W (.slice a1 len1 cap1) l/\l.length<=maxLen/\∀ q ∈ l,FitK q:=by
    obtain ⟨fuel,hf⟩:=h1
    exact open_blockS (by simpa [Value.cells] using hf)
  obtain ⟨a2,rfl,rfl,rfl,w2⟩:=open_int Tryz.underlying3 (hval 2 3 v2 rfl rfl) h2
  have k3:=h3
  have lt3:∀ x ∈ p3,x.block < W.heap.size:=by obtain ⟨m,hm⟩:=k3;exact DataW.trod_lt m _ _ _ hm
  obtain ⟨a3,len3,cap3,rfl⟩:=okWide_slice Tryz.underlying68 (hval 3 68 v3 rfl rfl)
  obtain ⟨z3,w3⟩:∃ l:List Tx5,len3=l.length/\RdT W (.slice a3 len3 cap3) l/\l.length<=maxLen/\∀ q ∈ l,q.2.1.size<=maxLen/\q.2.2.1.size<=maxLen:=by
    obtain ⟨fuel,hf⟩:=h3
    exact open_txS (by simpa [Value.cells] using hf)
  clear hA0 hval0
  refine (fnExactMakeBody_walk a0 y0 z0 a1 len1 cap1 z1 a2 a3 len3 cap3 z3 W (fnExactMakeBody_gl hL) (fnExactMakeBody_gh hL) w0 w1 w2 w3).mono fun e W' ⟨he,bel⟩=>?_
  subst he
  exact ⟨_,rfl,_,_,_,[],_,_,hW',trodAll_mk1 (shut_bool Tryz.underlying4 _),(trodAll_cons_mk (Below.trod fnExactMakeBody_laidOut (by kernel_rfl) (of_decide_eq_true (by kernel_rfl)) k0 bel lt0) (trodAll_cons_mk (Below.trod fnExactMakeBody_laidOut (by kernel_rfl) (of_decide_eq_true (by kernel_rfl)) k1 bel lt1) (trodAll_cons_mk (shut_int Tryz.underlying3 w2) (trodAll_cons_mk (Below.trod fnExactMakeBody_laidOut (by kernel_rfl) (of_decide_eq_true (by kernel_rfl)) k3 bel lt3) trodAll_mk0)))),Below.trodVars fnExactMakeBody_laidOut bel (by kernel_rfl) hV2,bel.frame _,fun h=>by cases h⟩
theorem fnExactMakeBody_inPlace:(Rows.fnExactMakeBodyRow.inPlace == Tryz.prog.inPlace 7)=true:=by kernel_rfl
theorem fnExactMakeBody_unfollowed:(Rows.fnExactMakeBodyRow.unfollowed == Tryz.prog.unfollowed 7)=true:=by kernel_rfl
theorem fnExactMakeBody_recurses:(Rows.fnExactMakeBodyRow.recurses == Tryz.prog.recurses 7)=true:=by kernel_rfl
theorem fnExactMakeBody_named:(Rows.fnExactMakeBodyRow.named == Tryz.prog.varsNamed 7)=true:=by kernel_rfl
theorem fnExactMakeBody_closed:joinedFacts Tryz.prog 7 Tryz.f7 Rows.fnExactMakeBodySpec Rows.fnExactMakeBodyRow=true:=by
  unfold joinedFacts
  rw [fnExactMakeBody_inPlace,fnExactMakeBody_unfollowed,fnExactMakeBody_recurses,fnExactMakeBody_named]
  kernel_rfl
theorem fnExactMakeBody_holds:Rows.FnExactMakeBodySaid :=
  OpenClaim.holds_of_wide 7 Tryz.f7 rfl rfl rfl rfl rfl rfl rfl ⟨rfl,rfl,rfl,rfl,rfl⟩ rfl rfl rfl rfl rfl (by kernel_rfl) Tryz.func7 fnExactMakeBody_closed
    (of_decide_eq_true (by kernel_rfl)) (by unfold Func.isWrapper;first | (rw [if_pos (by decide +kernel)];kernel_rfl) | (rw [if_neg (by decide +kernel)];exact ⟨rfl,rfl⟩))
    (fun os started H enc _=>fnExactMakeBody_lifted os started H enc)
theorem fnExactMakeBody_card:Rows.FnExactMakeBodyCardSaid :=
  Claim7.holds_tied_plain_at .later [] [.handle,.data,.data] true Rows.fnExactMakeBodyCard.stood.harness true
    fnExactMakeBody_holds (fun _ h=>by cases h) (by kernel_rfl) (fun _ h=>by cases h) fnExactMakeBody_row_tie rfl ⟨rfl,rfl⟩ (by kernel_rfl) rfl
    (fun f fn hf hfn=>by
      obtain rfl:f=7:=Option.some.inj ((show Tryz.prog.funcNamed Rows.fnExactMakeBodyRow.func=some 7 by kernel_rfl).symm.trans hf) |>.symm
      obtain rfl:fn=Tryz.f7:=(Option.some.inj (Tryz.func7.symm.trans hfn)).symm
      exact ⟨by kernel_rfl,fun j t ht=>by
        rw [Tryz.params7] at ht
        have hm:t ∈ [64,65,3,68]:=by simpa using Array.mem_of_getElem? ht
        have hall:([64,65,3,68].all fun u=>!Tryz.prog.wantsStandIn u)=true:=by kernel_rfl
        exact (show Tryz.prog.wantsStandIn t=false by simpa using List.all_eq_true.1 hall t hm)⟩)
    (by kernel_rfl)
end Go.Proofs.YtohachldbpejpaaGreatDoor
