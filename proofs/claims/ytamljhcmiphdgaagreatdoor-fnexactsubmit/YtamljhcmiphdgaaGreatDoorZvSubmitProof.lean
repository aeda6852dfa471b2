/- At all nodes and orders Submit of the program answers as the model's Submit, field by field, and the same bool; it writes into no argument and keeps nothing of one; its answer owns its memory: the law FnExactSubmit returns true, with no condition but that the named error reads as the program's text lays it. -/
import Derived.LaidLaws
import Derived.LaidMore
import Derived.OpenVars
import Derived.Stop.LaidErr
import Derived.Stop.Joined
import Derived.RowKitTokens
import Derived.Test.YtamljhcmiphdgaaGreatDoorTie
import Derived.Test.YtamljhcmiphdgaaGreatDoorCards
import Derived.Test.YtamljhcmiphdgaaGreatDoorZvNdEq
import Derived.Test.YtamljhcmiphdgaaGreatDoorZvNdBndS
import Derived.ChangeSame
import Derived.ChangeVars
import Derived.JoinedOf
import Derived.Below
import Derived.SevenTiedAt
set_option maxRecDepth 100000
set_option maxHeartbeats 8000000
namespace Go.Proofs.YtamljhcmiphdgaaGreatDoor
open Go.ChangeShapes Go.WideShapes Go.RowKit
set_option linter.unusedVariables false
theorem Tryz.gEb : Tryz.prog.globalNamed "loop.example/g00194/impl.errCannot" = some 0 := by kernel_rfl
theorem Tryz.gEbType:(Tryz.prog.globals[0]?).map (·.type)=some 189:=by kernel_rfl
theorem Tryz.cellsEs:Tryz.prog.cellsOf 268=1:=by kernel_rfl
theorem Tryz.cellsStr:Tryz.prog.cellsOf 9=1:=by kernel_rfl
theorem Tryz.starEs : "*" ++ "errors.errorString" = "*errors.errorString" := by decide
theorem Tryz.rowEb (u : TypeId) (h : Tryz.prog.typeName? 3 u = some "*errors.errorString") : u = 245 :=
 typeName_ptr_named (nm := "errors.errorString") (by rw [Tryz.starEs]; kernel_rfl) (by kernel_rfl) (by decide) u (by rw [Tryz.starEs]; exact h)
abbrev cannotS:ByteArray:={ data:=#[116,104,101,32,110,111,100,101,32,99,97,110,39,116,32,100,111,32,116,104,105,115] }
def sentPut (lo:Nat):Obj->Obj
 | .cells _ t frozen=>.cells #[.iface 245 (.pointer (some ⟨lo,0,none⟩))] t frozen
 | o=>o
def sentOn (w0:World) (lo:Nat):World:={ w0 with heap:=w0.heap.modify 0 (sentPut lo) }
theorem hx_ {W W' : World} {B : Nat} {cs : Array Value} (h : W.var? Tryz.prog "loop.example/g00194/impl.errCannot" = some cs) (hb : Below B W W') (hG : 0 < B) : W'.var? Tryz.prog "loop.example/g00194/impl.errCannot" = some cs := by
 unfold World.var? at h ⊢
 rw [Tryz.gEb] at h ⊢
 simp only [Option.bind_some] at h ⊢
 rw [hb.block _ hG]
 exact h
open Go.ChangeShapes Go.WideShapes Go.ChangeAt Go.RowKit
open Go.ChangeMaps (open_string shut_string)
theorem fnExactSubmit_own:ownKnob Tryz.prog.godebug=none:=by kernel_rfl
theorem fnExactSubmit_laidOut:laidOutB Tryz.prog=true:=by kernel_rfl
set_option linter.unusedSimpArgs false
theorem Tryz.infoA:(Tryz.prog.info? 38).map (·.size)=some 20:=by kernel_rfl
theorem Tryz.infoB:(Tryz.prog.info? 55).map (·.size)=some 20:=by kernel_rfl
theorem Tryz.infoX:(Tryz.prog.info? 40).map (·.size)=some 5:=by kernel_rfl
theorem bN_ (z0:Nd) (y0:Nv) (z1:Tx5) (w:World) (b0:Addr) (hge:Gc w b0) (hG:0 < w.heap.size) (w0:RdNd w z0 y0/\FitNd z0) (q1:z1.2.1.size<=maxLen/\z1.2.2.1.size<=maxLen/\(Lit.int .i64 z1.1).wf=true/\(Lit.int .i64 z1.2.2.2.1).wf=true/\(Lit.int .i64 z1.2.2.2.2).wf=true) :
  Calls Tryz.prog 3 #[noV z0 y0,txV z1] w fun e w'=>e=.returned (.bool true)/\Below w.heap.size w w':=by
 obtain ⟨hr,hft⟩:=w0
 obtain ⟨ht1,ht2,-⟩:=q1
 obtain ⟨w1,hw1⟩:∃ x,(w.alloc (.cells (noC z0 y0).toArray 38)).alloc (.cells (txC z1).toArray 40)=x:=⟨_,rfl⟩
 have s1:(w.alloc (.cells (noC z0 y0).toArray 38)).heap.size=w.heap.size+1:=by simp
 have b1:Below w.heap.size w w1:=by rw [<- hw1];exact ((br_ _ w).alloc (nr_ _) _).alloc (by rw [s1];omega) _
 have KA1:=a_ (show Blk w1 w.heap.size 38 (noC z0 y0) from by rw [<- hw1];exact (Blk.new w _ _).below ((br_ (w.heap.size+1) _).alloc (by rw [s1];exact nr_ _) _) (by omega))
 have KT1:=a_ (show Blk w1 (w.heap.size+1) 40 (txC z1) from by rw [<- hw1,<- s1];exact Blk.new _ _ _)
 have Hz:=a_ (gt_ z0 y0 1048576 w1 (hr.below b1 (nr_ _)) (by omega) hft)
 have Hx:=a_ (fun (m:Int) V (h0:0<=m) (h1:m<=100000000)=>fC_ z1 m V h0 h1 (Nat.le_trans ht1 (by unfold maxLen;omega)) (Nat.le_trans ht2 (by unfold maxLen;omega)))
 have HT:=a_ (fun (hf:FewNd z0) V (hV:Below w.heap.size w V)=>hQ_ z0 y0 V (hr.below hV (nr_ _)) hf)
 have HTx:=a_ (fun V=>fG_ z1 V)
 have HS:=a_ (fun (hf:FewNd z0) h1 h2 h3 u V (h:RdNd V z0 u)=>dW_ z0 u z1 V h hf hft h1 h2 h3 hft.gp ⟨ht1,ht2⟩)
 have HI:=a_ (fun (hf:FewNd z0) h1 h2 h3 u V (hV:Below w.heap.size w V) (h:RdNd V z0 u)=>ee_ z0 u z1 b0 V h hf hft (hge.below hV hG) (Nat.lt_of_lt_of_le hG hV.size) h1 h2 h3 hft.gp ⟨ht1,ht2⟩)
 have IA:=a_ (show (Tryz.prog.info? 38).map (·.size)=some (noC z0 y0).length from Tryz.infoA)
 have IT:=a_ (show (Tryz.prog.info? 40).map (·.size)=some (txC z1).length from Tryz.infoX)
 have B1:=a_ b1
 rw [show noV z0 y0=.agg (noC z0 y0).toArray from rfl] at Hz HT ⊢
 rw [show txV z1=.agg (txC z1).toArray from rfl] at Hx HTx HS HI ⊢
 clear hr hft b1 hge hG s1 ht1 ht2
 generalize noC z0 y0=cs at KA1 Hz HT IA hw1 ⊢
 generalize txC z1=ct at KT1 Hx HTx HS HI IT hw1 ⊢
 have RA1:=a_ (c_ KA1.out)
 have RT1:=a_ (c_ KT1.out)
 go_enter Tryz.func3,Tryz.ntmps3
 go_upto_region 2 with fail
 (try rw [hw1])
 clear hw1
 go_wp2_with (first
  | (refine wpList_load_mid rfl 38 _ rfl w.heap.size 0 rfl cs _ RA1.out Tryz.underlying38 rfl IA.out ?_)
  | (refine wpList_load_mid rfl 40 _ rfl (w.heap.size+1) 0 rfl ct _ RT1.out Tryz.underlying40 rfl IT.out ?_)
  | fail)
 refine Hz.out.mono ?_
 rintro e w2 ⟨r,rfl,hfit,hb2⟩
 have Hfit:=a_ hfit
 clear hfit Hz
 have KA2:=a_ (KA1.out.below hb2 KA1.out.lt)
 have KT2:=a_ (KT1.out.below hb2 KT1.out.lt)
 have B2:=a_ (B1.out.trans (hb2.mono B1.out.size))
 clear RA1 KA1 RT1 KT1 B1 
 have RA2:=a_ (c_ KA2.out)
 have RT2:=a_ (c_ KT2.out)
 clear hb2
 by_cases hneg:r < 0
 ·clear Hfit HT HTx HS HI Hx
  go_wp2
  go_ret
  exact ⟨rfl,B2.out⟩
 obtain ⟨⟨hfew,ha,hv,hg⟩,hsz⟩:=Hfit.out (by omega)
 obtain ⟨hn1,hn2,hl1,hl2,hl3⟩:=fn_ z0 z1 (by omega) ha hv hg
 have Hx2:=a_ (Hx.out r w2 (by omega) (by omega))
 have HT:=a_ (HT.out hfew)
 have HS:=a_ (HS.out hfew hl1 hl2 hl3)
 have HI:=a_ (HI.out hfew hl1 hl2 hl3)
 have HEx:=a_ (fun u t V (h1:RdNd V z0 u) (h2:RdNd V z0 t)=>ck_ z0 u t V h1 h2 hfew)
 have HEr:=a_ (fun u t V (h1:RdNd V (sbP z0 z1) u) (h2:RdNd V (sbP z0 z1) t)=>ck_ (sbP z0 z1) u t V h1 h2 (cX_ z1 hfew hl3))
 have HMx:=a_ (fun u lo hi V (h:OwnNd lo hi V z0 u) (h1:hi<=V.heap.size)=>bT_ z0 u 1 lo hi V h h1 hfew hn1 (by omega))
 have HMr:=a_ (fun u lo hi V (h:OwnNd lo hi V (sbP z0 z1) u) (h1:hi<=V.heap.size)=>bT_ (sbP z0 z1) u 1 lo hi V h h1 (cX_ z1 hfew hl3) hn2 (by omega))
 have HHr:=a_ (fun u V (h:RdNd V (mlNd 1 (sbP z0 z1)) u)=>fV_ (sbP z0 z1) u 1 V h (cX_ z1 hfew hl3) hn2 (by omega))
 clear Hfit hfew ha hv hg hsz hn1 hn2 hl1 hl2 hl3 Hx
 generalize sbP z0 z1=Q at HS HI HEr HMr HHr
 generalize sbO z0 z1=QB at HS HI
 generalize nlNd 1 z0=nX at HMx
 generalize nlNd 1 Q=nR at HMr HHr
 generalize mlNd 1 Q=QM at HMr HHr
 generalize szT z1 r=r2 at Hx2
 have hqq:(QB != QB)=false:=by cases QB <;> rfl
 go_wp2_with (first
  | (refine wpList_load_mid rfl 38 _ rfl w.heap.size 0 rfl cs _ RA2.out Tryz.underlying38 rfl IA.out ?_)
  | (refine wpList_load_mid rfl 40 _ rfl (w.heap.size+1) 0 rfl ct _ RT2.out Tryz.underlying40 rfl IT.out ?_)
  | fail)
 refine Hx2.out.mono ?_
 rintro e w3 ⟨rfl,hb3⟩
 have KA3:=a_ (KA2.out.below hb3 KA2.out.lt)
 have KT3:=a_ (KT2.out.below hb3 KT2.out.lt)
 have B3:=a_ (B2.out.trans (hb3.mono B2.out.size))
 clear RA2 KA2 RT2 KT2 B2 
 have RA3:=a_ (c_ KA3.out)
 have RT3:=a_ (c_ KT3.out)
 clear hb3 Hx2
 by_cases hneg2:r2 < 0
 ·clear HT HTx HS HI
  go_wp2
  go_ret
  exact ⟨rfl,B3.out⟩
 go_upto_region 8 with fail
 have HSd:=a_ (fun V (hV:Below w3.heap.size w3 V)=>(show V.rangeAt w.heap.size 0 cs/\V.rangeAt (w.heap.size+1) 0 ct from ⟨o_ RA3.out hV KA3.out.lt,o_ RT3.out hV KT3.out.lt⟩))
 have HBd:=a_ (fun V (hV:Below w3.heap.size w3 V)=>(B3.out.trans (hV.mono B3.out.size)))
 go_cut [6,7] from 16 (fun sp sb wc=>∃ (B:Nat) (u:Nv),sp=.pointer (some ⟨B,0,none⟩)/\sb=.bool QB/\Blk wc B 55 (noC Q u)/\RdNd wc Q u/\w3.heap.size<=B/\Below w3.heap.size w3 wc)
 case first =>
  have bD:Below w3.heap.size w3 w3.drew:=(br_ _ w3).drew
  have hS0:=HSd.out _ bD
  refine wp_region_held_drew (S:=fun W=>W.rangeAt w.heap.size 0 cs/\W.rangeAt (w.heap.size+1) 0 ct) (by kernel_rfl) hS0 (fun hHeld=>?_)
  refine wpAnyH_take (i:=0) (v:=.agg cs.toArray) rfl (by kernel_rfl) (by kernel_rfl) (by kernel_rfl) (fun _ _ _ h=>h) (yieldsIf_load_mid (by rfl) 38 _ rfl w.heap.size 0 rfl cs _ (fun W hW=>hW.1) Tryz.underlying38 rfl IA.out) (by assumption) ?_
  change wpAnyH Tryz.prog _ _ _ _ _ _ (Act.put _ (some 27) _) _
  simp only [Act.put,sb_,sz_,ss_]
  refine wpAnyH_take (i:=2) (v:=.agg ct.toArray) rfl (by kernel_rfl) (by kernel_rfl) (by kernel_rfl) (fun _ _ _ h=>h) (yieldsIf_load_mid (by rfl) 40 _ rfl (w.heap.size+1) 0 rfl ct _ (fun W hW=>hW.2) Tryz.underlying40 rfl IT.out) (by assumption) ?_
  change wpAnyH Tryz.prog _ _ _ _ _ _ (Act.put _ (some 29) _) _
  simp only [Act.put,sb_,sz_,ss_]
  refine wpAnyH_ready (rs:=[1,8]) (by kernel_rfl) (by simp) ?_
  refine AllReadyH.cons rfl (fun K hK=>?_) (AllReadyH.cons rfl (fun K hK=>?_) AllReadyH.nil)
  ·skip
   go_simp
   go_wp2_with (go_at_call 7;(with_reducible refine (HT.out _ (HBd.out _ bD)).mono ?_);rintro e v0 ⟨ua,rfl,oa,hb0⟩;obtain ⟨ca,hca⟩:∃ c,noC z0 ua=c:=⟨_,rfl⟩;have ea:noV z0 ua=.agg ca.toArray:=(by rw [<- hca];rfl);rw [ea];have bc0:=bD.trans (hb0.mono bD.size);have ra:=oa.rd;have hS0:=HSd.out _ bc0)
   refine hK.out _ _ hS0 (fun hHeld=>?_)
   try simp only [Act.put,sb_,sz_,ss_]
   refine wpAnyH_ready (rs:=[3,8]) (by kernel_rfl) (by simp) ?_
   refine AllReadyH.cons rfl (fun K hK=>?_) (AllReadyH.cons rfl (fun K hK=>?_) AllReadyH.nil)
   ·skip
    go_simp
    go_wp2_with (go_at_call 8;(with_reducible refine (HTx.out v0).mono ?_);rintro e v1 ⟨rfl,hb1⟩;have bc1:=bc0.trans (hb1.mono bc0.size);have hS1:=HSd.out _ bc1;have ra1:=ra.below hb1 (nr_ _))
    refine hK.out _ _ hS1 (fun hHeld=>?_)
    try simp only [Act.put,sb_,sz_,ss_]
    refine wpAnyH_ready (rs:=[4,8]) (by kernel_rfl) (by simp) ?_
    refine AllReadyH.cons rfl (fun K hK=>?_) (AllReadyH.cons rfl (fun K hK=>?_) AllReadyH.nil)
    ·skip
     go_simp
     have CF:=a_ (HS.out ua _ ra1)
     rw [ea] at CF
     go_wp2_with (go_at_call 6;(with_reducible refine CF.out.mono ?_);rintro e v2 ⟨uF,rfl,rF,hb2⟩;obtain ⟨cF,hcF⟩:∃ c,noC Q uF=c:=⟨_,rfl⟩;have eF:noV Q uF=.agg cF.toArray:=(by rw [<- hcF];rfl);rw [eF];have bc2:=bc1.trans (hb2.mono bc1.size);have zF:=hb2.size;have hS2:=HSd.out _ bc2)
     refine hK.out _ _ hS2 (fun hHeld=>?_)
     try simp only [Act.put,sb_,sz_,ss_]
     refine wpAnyH_take (i:=5) (v:=.tuple #[.agg cF.toArray,.bool QB]) rfl (by kernel_rfl) (by kernel_rfl) (by kernel_rfl) (fun _ _ _ h=>h) (Or.inl ⟨by rfl,fun W hW=>by go_simp⟩) (by assumption) ?_
     change wpAnyH Tryz.prog _ _ _ _ _ _ (Act.put _ (some 26) _) _
     simp only [Act.put,sb_,sz_,ss_]
     refine wpAnyH_take (i:=6) (v:=.agg cF.toArray) rfl (by kernel_rfl) (by kernel_rfl) (by kernel_rfl) (fun _ _ _ h=>h) (Or.inl ⟨by rfl,fun W hW=>by go_simp⟩) (by assumption) ?_
     change wpAnyH Tryz.prog _ _ _ _ _ _ (Act.put _ (some 32) _) _
     simp only [Act.put,sb_,sz_,ss_]
     refine wpAnyH_take (i:=7) (v:=.bool QB) rfl (by kernel_rfl) (by kernel_rfl) (by kernel_rfl) (fun _ _ _ h=>h) (Or.inl ⟨by rfl,fun W hW=>by go_simp⟩) (by assumption) ?_
     change wpAnyH Tryz.prog _ _ _ _ _ _ (Act.put _ (some 33) _) _
     simp only [Act.put,sb_,sz_,ss_]
     refine wpAnyH_ready (rs:=[8]) (by kernel_rfl) (by simp) ?_
     refine AllReadyH.cons rfl (fun K hK=>?_) AllReadyH.nil
     go_simp
     have nby:Blk (v2.alloc (.cells noZ_ 55)) v2.heap.size 55 noY_:=Blk.new v2 _ _
     have bay:Below w3.heap.size w3 (v2.alloc (.cells noZ_ 55)):=bc2.alloc bc2.size _
     have bly:Below v2.heap.size v2 (v2.alloc (.cells noZ_ 55)):=(br_ _ v2).alloc (nr_ _) _
     refine hK.out _ _ (HSd.out _ bay) (fun hHeld=>?_)
     try simp only [Act.put,sb_,sz_,ss_]
     have one9:cF.toArray.all (·.oneCell')=true:=by rw [List.all_toArray,<- hcF];exact F_ (rF _ (Kept.refl _ _ _))
     have inf9:(Tryz.prog.info? 55).map (·.size)=some cF.toArray.size:=by rw [List.size_toArray,<- hcF];exact Tryz.infoB
     have hlB:w3.heap.size<=v2.heap.size:=bc2.size
     have len9:(noY_:List Value).length=cF.length:=by rw [<- hcF];rfl
     have b9:Below w3.heap.size w3 ((v2.alloc (.cells noZ_ 55)).setCells (v2.heap.size) 0 cF):=bay.trans (e_ hlB _ _ _)
     have hS9:=HSd.out _ b9
     refine wpAnyH_ready (rs:=[9]) (by kernel_rfl) (by simp) ?_
     refine AllReadyH.cons rfl (fun K hK=>?_) AllReadyH.nil
     refine wp_store_mid 55 _ _ rfl (v2.heap.size) 0 cF.toArray rfl rfl (nby.there (by rw [List.size_toArray,<- hcF];rfl)) inf9 one9 ?_
     refine hK.out _ _ hS9 (fun hHeld=>?_)
     try simp only [Act.put,sb_,sz_,ss_]
     refine wpAnyH_take (i:=10) (v:=.bool QB) rfl (by kernel_rfl) (by kernel_rfl) (by kernel_rfl) (fun _ _ _ h=>h) (Or.inl ⟨by rfl,fun W hW=>by go_simp⟩) (by assumption) ?_
     change wpAnyH Tryz.prog _ _ _ _ _ _ (Act.put _ (some 7) _) _
     simp only [Act.put,sb_,sz_,ss_]
     refine wpAnyH_done (by kernel_rfl) ?_ _
     go_wp2_with fail
     go_meet
     case rel=>exact ⟨v2.heap.size,uF,rfl,rfl,by rw [hcF];exact q_ nby len9,rF _ (Kept.of_belowT (show Below v2.heap.size v2 ((v2.alloc (.cells noZ_ 55)).setCells v2.heap.size 0 cF) from bly.trans (e_ (nr_ _) _ _ _)) (nr_ _)),hlB,b9⟩
    ·skip
     go_simp
     have nb2z:Blk (v1.alloc (.cells noZ_ 55)) v1.heap.size 55 noY_:=Blk.new v1 _ _
     have ba2z:Below w3.heap.size w3 (v1.alloc (.cells noZ_ 55)):=bc1.alloc bc1.size _
     have bl2z:Below v1.heap.size v1 (v1.alloc (.cells noZ_ 55)):=(br_ _ v1).alloc (nr_ _) _
     refine hK.out _ _ (HSd.out _ ba2z) (fun hHeld=>?_)
     try simp only [Act.put,sb_,sz_,ss_]
     have raz:=ra1.below bl2z (nr_ _)
     refine wpAnyH_ready (rs:=[4]) (by kernel_rfl) (by simp) ?_
     refine AllReadyH.cons rfl (fun K hK=>?_) AllReadyH.nil
     go_simp
     have CF:=a_ (HS.out ua _ raz)
     rw [ea] at CF
     go_wp2_with (go_at_call 6;(with_reducible refine CF.out.mono ?_);rintro e v2a ⟨uF,rfl,rF,hb2a⟩;obtain ⟨cF,hcF⟩:∃ c,noC Q uF=c:=⟨_,rfl⟩;have eF:noV Q uF=.agg cF.toArray:=(by rw [<- hcF];rfl);rw [eF];have bc2a:=ba2z.trans (hb2a.mono ba2z.size);have zF:=hb2a.size;have hS2a:=HSd.out _ bc2a;have nk2a:=nb2z.below hb2a nb2z.lt)
     refine hK.out _ _ hS2a (fun hHeld=>?_)
     try simp only [Act.put,sb_,sz_,ss_]
     refine wpAnyH_take (i:=5) (v:=.tuple #[.agg cF.toArray,.bool QB]) rfl (by kernel_rfl) (by kernel_rfl) (by kernel_rfl) (fun _ _ _ h=>h) (Or.inl ⟨by rfl,fun W hW=>by go_simp⟩) (by assumption) ?_
     change wpAnyH Tryz.prog _ _ _ _ _ _ (Act.put _ (some 26) _) _
     simp only [Act.put,sb_,sz_,ss_]
     refine wpAnyH_take (i:=6) (v:=.agg cF.toArray) rfl (by kernel_rfl) (by kernel_rfl) (by kernel_rfl) (fun _ _ _ h=>h) (Or.inl ⟨by rfl,fun W hW=>by go_simp⟩) (by assumption) ?_
     change wpAnyH Tryz.prog _ _ _ _ _ _ (Act.put _ (some 32) _) _
     simp only [Act.put,sb_,sz_,ss_]
     refine wpAnyH_take (i:=7) (v:=.bool QB) rfl (by kernel_rfl) (by kernel_rfl) (by kernel_rfl) (fun _ _ _ h=>h) (Or.inl ⟨by rfl,fun W hW=>by go_simp⟩) (by assumption) ?_
     change wpAnyH Tryz.prog _ _ _ _ _ _ (Act.put _ (some 33) _) _
     simp only [Act.put,sb_,sz_,ss_]
     have one9:cF.toArray.all (·.oneCell')=true:=by rw [List.all_toArray,<- hcF];exact F_ (rF _ (Kept.refl _ _ _))
     have inf9:(Tryz.prog.info? 55).map (·.size)=some cF.toArray.size:=by rw [List.size_toArray,<- hcF];exact Tryz.infoB
     have hlB:w3.heap.size<=v1.heap.size:=bc1.size
     have len9:(noY_:List Value).length=cF.length:=by rw [<- hcF];rfl
     have b9:Below w3.heap.size w3 (v2a.setCells (v1.heap.size) 0 cF):=bc2a.trans (e_ hlB _ _ _)
     have hS9:=HSd.out _ b9
     refine wpAnyH_ready (rs:=[9]) (by kernel_rfl) (by simp) ?_
     refine AllReadyH.cons rfl (fun K hK=>?_) AllReadyH.nil
     refine wp_store_mid 55 _ _ rfl (v1.heap.size) 0 cF.toArray rfl rfl (nk2a.there (by rw [List.size_toArray,<- hcF];rfl)) inf9 one9 ?_
     refine hK.out _ _ hS9 (fun hHeld=>?_)
     try simp only [Act.put,sb_,sz_,ss_]
     refine wpAnyH_take (i:=10) (v:=.bool QB) rfl (by kernel_rfl) (by kernel_rfl) (by kernel_rfl) (fun _ _ _ h=>h) (Or.inl ⟨by rfl,fun W hW=>by go_simp⟩) (by assumption) ?_
     change wpAnyH Tryz.prog _ _ _ _ _ _ (Act.put _ (some 7) _) _
     simp only [Act.put,sb_,sz_,ss_]
     refine wpAnyH_done (by kernel_rfl) ?_ _
     have hBlo:v1.heap.size < (v1.alloc (.cells noZ_ 55)).heap.size:=nb2z.lt
     go_wp2_with fail
     go_meet
     case rel=>exact ⟨v1.heap.size,uF,rfl,rfl,by rw [hcF];exact q_ nk2a len9,rF _ (Kept.setCs v2a 0 cF (.inl hBlo)),hlB,b9⟩
   ·skip
    go_simp
    have nb1z:Blk (v0.alloc (.cells noZ_ 55)) v0.heap.size 55 noY_:=Blk.new v0 _ _
    have ba1z:Below w3.heap.size w3 (v0.alloc (.cells noZ_ 55)):=bc0.alloc bc0.size _
    have bl1z:Below v0.heap.size v0 (v0.alloc (.cells noZ_ 55)):=(br_ _ v0).alloc (nr_ _) _
    refine hK.out _ _ (HSd.out _ ba1z) (fun hHeld=>?_)
    try simp only [Act.put,sb_,sz_,ss_]
    have raz:=ra.below bl1z (nr_ _)
    refine wpAnyH_ready (rs:=[3]) (by kernel_rfl) (by simp) ?_
    refine AllReadyH.cons rfl (fun K hK=>?_) AllReadyH.nil
    go_simp
    go_wp2_with (go_at_call 8;(with_reducible refine (HTx.out (v0.alloc (.cells noZ_ 55))).mono ?_);rintro e v1a ⟨rfl,hb1a⟩;have bc1a:=ba1z.trans (hb1a.mono ba1z.size);have hS1a:=HSd.out _ bc1a;have ra1a:=raz.below hb1a (nr_ _);have nk1a:=nb1z.below hb1a nb1z.lt)
    refine hK.out _ _ hS1a (fun hHeld=>?_)
    try simp only [Act.put,sb_,sz_,ss_]
    refine wpAnyH_ready (rs:=[4]) (by kernel_rfl) (by simp) ?_
    refine AllReadyH.cons rfl (fun K hK=>?_) AllReadyH.nil
    go_simp
    have CF:=a_ (HS.out ua _ ra1a)
    rw [ea] at CF
    go_wp2_with (go_at_call 6;(with_reducible refine CF.out.mono ?_);rintro e v2a ⟨uF,rfl,rF,hb2a⟩;obtain ⟨cF,hcF⟩:∃ c,noC Q uF=c:=⟨_,rfl⟩;have eF:noV Q uF=.agg cF.toArray:=(by rw [<- hcF];rfl);rw [eF];have bc2a:=bc1a.trans (hb2a.mono bc1a.size);have zF:=hb2a.size;have hS2a:=HSd.out _ bc2a;have nk2a:=nk1a.below hb2a nk1a.lt)
    refine hK.out _ _ hS2a (fun hHeld=>?_)
    try simp only [Act.put,sb_,sz_,ss_]
    refine wpAnyH_take (i:=5) (v:=.tuple #[.agg cF.toArray,.bool QB]) rfl (by kernel_rfl) (by kernel_rfl) (by kernel_rfl) (fun _ _ _ h=>h) (Or.inl ⟨by rfl,fun W hW=>by go_simp⟩) (by assumption) ?_
    change wpAnyH Tryz.prog _ _ _ _ _ _ (Act.put _ (some 26) _) _
    simp only [Act.put,sb_,sz_,ss_]
    refine wpAnyH_take (i:=6) (v:=.agg cF.toArray) rfl (by kernel_rfl) (by kernel_rfl) (by kernel_rfl) (fun _ _ _ h=>h) (Or.inl ⟨by rfl,fun W hW=>by go_simp⟩) (by assumption) ?_
    change wpAnyH Tryz.prog _ _ _ _ _ _ (Act.put _ (some 32) _) _
    simp only [Act.put,sb_,sz_,ss_]
    refine wpAnyH_take (i:=7) (v:=.bool QB) rfl (by kernel_rfl) (by kernel_rfl) (by kernel_rfl) (fun _ _ _ h=>h) (Or.inl ⟨by rfl,fun W hW=>by go_simp⟩) (by assumption) ?_
    change wpAnyH Tryz.prog _ _ _ _ _ _ (Act.put _ (some 33) _) _
    simp only [Act.put,sb_,sz_,ss_]
    have one9:cF.toArray.all (·.oneCell')=true:=by rw [List.all_toArray,<- hcF];exact F_ (rF _ (Kept.refl _ _ _))
    have inf9:(Tryz.prog.info? 55).map (·.size)=some cF.toArray.size:=by rw [List.size_toArray,<- hcF];exact Tryz.infoB
    have hlB:w3.heap.size<=v0.heap.size:=bc0.size
    have len9:(noY_:List Value).length=cF.length:=by rw [<- hcF];rfl
    have b9:Below w3.heap.size w3 (v2a.setCells (v0.heap.size) 0 cF):=bc2a.trans (e_ hlB _ _ _)
    have hS9:=HSd.out _ b9
    refine wpAnyH_ready (rs:=[9]) (by kernel_rfl) (by simp) ?_
    refine AllReadyH.cons rfl (fun K hK=>?_) AllReadyH.nil
    refine wp_store_mid 55 _ _ rfl (v0.heap.size) 0 cF.toArray rfl rfl (nk2a.there (by rw [List.size_toArray,<- hcF];rfl)) inf9 one9 ?_
    refine hK.out _ _ hS9 (fun hHeld=>?_)
    try simp only [Act.put,sb_,sz_,ss_]
    refine wpAnyH_take (i:=10) (v:=.bool QB) rfl (by kernel_rfl) (by kernel_rfl) (by kernel_rfl) (fun _ _ _ h=>h) (Or.inl ⟨by rfl,fun W hW=>by go_simp⟩) (by assumption) ?_
    change wpAnyH Tryz.prog _ _ _ _ _ _ (Act.put _ (some 7) _) _
    simp only [Act.put,sb_,sz_,ss_]
    refine wpAnyH_done (by kernel_rfl) ?_ _
    have hBlo:v0.heap.size < v1a.heap.size:=nk1a.lt
    go_wp2_with fail
    go_meet
    case rel=>exact ⟨v0.heap.size,uF,rfl,rfl,by rw [hcF];exact q_ nk2a len9,rF _ (Kept.setCs v2a 0 cF (.inl hBlo)),hlB,b9⟩
  ·skip
   go_simp
   have nb0z:Blk (w3.alloc (.cells noZ_ 55)).drew w3.heap.size 55 noY_:=Blk.new w3 _ _
   have ba0z:Below w3.heap.size w3 (w3.alloc (.cells noZ_ 55)).drew:=((br_ _ w3).alloc (nr_ _) _).drew
   refine hK.out _ _ (HSd.out _ ba0z) (fun hHeld=>?_)
   try simp only [Act.put,sb_,sz_,ss_]
   refine wpAnyH_ready (rs:=[1]) (by kernel_rfl) (by simp) ?_
   refine AllReadyH.cons rfl (fun K hK=>?_) AllReadyH.nil
   go_simp
   go_wp2_with (go_at_call 7;(with_reducible refine (HT.out _ (HBd.out _ ba0z)).mono ?_);rintro e v0a ⟨ua,rfl,oa,hb0a⟩;obtain ⟨ca,hca⟩:∃ c,noC z0 ua=c:=⟨_,rfl⟩;have ea:noV z0 ua=.agg ca.toArray:=(by rw [<- hca];rfl);rw [ea];have bc0a:=ba0z.trans (hb0a.mono ba0z.size);have ra:=oa.rd;have hS0a:=HSd.out _ bc0a;have nk0a:=nb0z.below hb0a nb0z.lt)
   refine hK.out _ _ hS0a (fun hHeld=>?_)
   try simp only [Act.put,sb_,sz_,ss_]
   refine wpAnyH_ready (rs:=[3]) (by kernel_rfl) (by simp) ?_
   refine AllReadyH.cons rfl (fun K hK=>?_) AllReadyH.nil
   go_simp
   go_wp2_with (go_at_call 8;(with_reducible refine (HTx.out v0a).mono ?_);rintro e v1a ⟨rfl,hb1a⟩;have bc1a:=bc0a.trans (hb1a.mono bc0a.size);have hS1a:=HSd.out _ bc1a;have ra1a:=ra.below hb1a (nr_ _);have nk1a:=nk0a.below hb1a nk0a.lt)
   refine hK.out _ _ hS1a (fun hHeld=>?_)
   try simp only [Act.put,sb_,sz_,ss_]
   refine wpAnyH_ready (rs:=[4]) (by kernel_rfl) (by simp) ?_
   refine AllReadyH.cons rfl (fun K hK=>?_) AllReadyH.nil
   go_simp
   have CF:=a_ (HS.out ua _ ra1a)
   rw [ea] at CF
   go_wp2_with (go_at_call 6;(with_reducible refine CF.out.mono ?_);rintro e v2a ⟨uF,rfl,rF,hb2a⟩;obtain ⟨cF,hcF⟩:∃ c,noC Q uF=c:=⟨_,rfl⟩;have eF:noV Q uF=.agg cF.toArray:=(by rw [<- hcF];rfl);rw [eF];have bc2a:=bc1a.trans (hb2a.mono bc1a.size);have zF:=hb2a.size;have hS2a:=HSd.out _ bc2a;have nk2a:=nk1a.below hb2a nk1a.lt)
   refine hK.out _ _ hS2a (fun hHeld=>?_)
   try simp only [Act.put,sb_,sz_,ss_]
   refine wpAnyH_take (i:=5) (v:=.tuple #[.agg cF.toArray,.bool QB]) rfl (by kernel_rfl) (by kernel_rfl) (by kernel_rfl) (fun _ _ _ h=>h) (Or.inl ⟨by rfl,fun W hW=>by go_simp⟩) (by assumption) ?_
   change wpAnyH Tryz.prog _ _ _ _ _ _ (Act.put _ (some 26) _) _
   simp only [Act.put,sb_,sz_,ss_]
   refine wpAnyH_take (i:=6) (v:=.agg cF.toArray) rfl (by kernel_rfl) (by kernel_rfl) (by kernel_rfl) (fun _ _ _ h=>h) (Or.inl ⟨by rfl,fun W hW=>by go_simp⟩) (by assumption) ?_
   change wpAnyH Tryz.prog _ _ _ _ _ _ (Act.put _ (some 32) _) _
   simp only [Act.put,sb_,sz_,ss_]
   refine wpAnyH_take (i:=7) (v:=.bool QB) rfl (by kernel_rfl) (by kernel_rfl) (by kernel_rfl) (fun _ _ _ h=>h) (Or.inl ⟨by rfl,fun W hW=>by go_simp⟩) (by assumption) ?_
   change wpAnyH Tryz.prog _ _ _ _ _ _ (Act.put _ (some 33) _) _
   simp only [Act.put,sb_,sz_,ss_]
   have one9:cF.toArray.all (·.oneCell')=true:=by rw [List.all_toArray,<- hcF];exact F_ (rF _ (Kept.refl _ _ _))
   have inf9:(Tryz.prog.info? 55).map (·.size)=some cF.toArray.size:=by rw [List.size_toArray,<- hcF];exact Tryz.infoB
   have hlB:w3.heap.size<=w3.heap.size:=bD.size
   have len9:(noY_:List Value).length=cF.length:=by rw [<- hcF];rfl
   have b9:Below w3.heap.size w3 (v2a.setCells (w3.heap.size) 0 cF):=bc2a.trans (e_ hlB _ _ _)
   have hS9:=HSd.out _ b9
   refine wpAnyH_ready (rs:=[9]) (by kernel_rfl) (by simp) ?_
   refine AllReadyH.cons rfl (fun K hK=>?_) AllReadyH.nil
   refine wp_store_mid 55 _ _ rfl (w3.heap.size) 0 cF.toArray rfl rfl (nk2a.there (by rw [List.size_toArray,<- hcF];rfl)) inf9 one9 ?_
   refine hK.out _ _ hS9 (fun hHeld=>?_)
   try simp only [Act.put,sb_,sz_,ss_]
   refine wpAnyH_take (i:=10) (v:=.bool QB) rfl (by kernel_rfl) (by kernel_rfl) (by kernel_rfl) (fun _ _ _ h=>h) (Or.inl ⟨by rfl,fun W hW=>by go_simp⟩) (by assumption) ?_
   change wpAnyH Tryz.prog _ _ _ _ _ _ (Act.put _ (some 7) _) _
   simp only [Act.put,sb_,sz_,ss_]
   refine wpAnyH_done (by kernel_rfl) ?_ _
   have hBlo:w3.heap.size < v1a.heap.size:=nk1a.lt
   go_wp2_with fail
   go_meet
   case rel=>exact ⟨w3.heap.size,uF,rfl,rfl,by rw [hcF];exact q_ nk2a len9,rF _ (Kept.setCs v2a 0 cF (.inl hBlo)),hlB,b9⟩
 clear HSd HBd
 obtain ⟨w4,rfl⟩:∃ x,x=wc:=⟨_,rfl⟩
 obtain ⟨BW,uW,rfl,rfl,kk,rW,hBW,hb4⟩:=hcut
 have KA4:=a_ (KA3.out.below hb4 KA3.out.lt)
 have KT4:=a_ (KT3.out.below hb4 KT3.out.lt)
 have B4:=a_ (B3.out.trans (hb4.mono B3.out.size))
 clear RA3 KA3 RT3 KT3 B3 
 have RA4:=a_ (c_ KA4.out)
 have RT4:=a_ (c_ KT4.out)
 obtain ⟨cW,hcW⟩:∃ c,noC Q uW=c:=⟨_,rfl⟩
 have ecW:=a_ (show noV Q uW=.agg cW.toArray from by rw [<- hcW];rfl)
 rw [hcW] at kk
 have KW4:=a_ kk
 have IW:=a_ (show (Tryz.prog.info? 55).map (·.size)=some cW.length from by rw [<- hcW];exact Tryz.infoB)
 clear kk
 have RW4:=a_ (c_ KW4.out)
 have RW:=a_ rW
 have D4:=a_ (br_ w4.heap.size w4)
 clear rW hcW hb4 HS hBW
 go_wp2_with (first
  | (refine wpList_load_mid rfl 38 _ rfl w.heap.size 0 rfl cs _ RA4.out Tryz.underlying38 rfl IA.out ?_)
  | (refine wpList_load_mid rfl 40 _ rfl (w.heap.size+1) 0 rfl ct _ RT4.out Tryz.underlying40 rfl IT.out ?_)
  | (refine wpList_load_mid rfl 55 _ rfl BW 0 rfl cW _ RW4.out Tryz.underlying55 rfl IW.out ?_)
  | fail)
 refine (HT.out w4 B4.out).mono ?_
 rintro e w5 ⟨uX,rfl,oX,hb5⟩
 have S45:=a_ (And.intro KA4.out.lt (And.intro KT4.out.lt (And.intro KW4.out.lt hb5.size)))
 have D5:=a_ (D4.out.trans (hb5.mono D4.out.size))
 have DX5:=a_ oX
 have KA5:=a_ (KA4.out.below hb5 KA4.out.lt)
 have KT5:=a_ (KT4.out.below hb5 KT4.out.lt)
 have KW5:=a_ (KW4.out.below hb5 KW4.out.lt)
 have B5:=a_ (B4.out.trans (hb5.mono B4.out.size))
 clear RA4 KA4 RT4 KT4 RW4 KW4 B4 
 have RA5:=a_ (c_ KA5.out)
 have RT5:=a_ (c_ KT5.out)
 have RW5:=a_ (c_ KW5.out)
 obtain ⟨cX,hcX⟩:∃ c,noC z0 uX=c:=⟨_,rfl⟩
 have ecX:=a_ (show noV z0 uX=.agg cX.toArray from by rw [<- hcX];rfl)
 rw [ecX.out]
 clear hb5 D4
 have zz5:=B5.out.size
 have bz5:Blk (w5.alloc (.cells noZ_ 55)) w5.heap.size 55 noY_:=Blk.new w5 _ _
 have oneX:=a_ (show cX.toArray.all (·.oneCell')=true from by rw [List.all_toArray,<- hcX];exact F_ oX.rd)
 have IX:=a_ (show (Tryz.prog.info? 55).map (·.size)=some cX.length from by rw [<- hcX];exact Tryz.infoB)
 have HtX:=a_ (show (w5.alloc (.cells noZ_ 55)).there w5.heap.size 0 cX.toArray.size from bz5.there (by rw [List.size_toArray,<- hcX];rfl))
 obtain ⟨w6,hw6⟩:∃ x,(w5.alloc (.cells noZ_ 55)).setCells w5.heap.size 0 cX=x:=⟨_,rfl⟩
 have KX6:=a_ (show Blk w6 w5.heap.size 55 cX from by rw [<- hw6];exact q_ bz5 (by rw [<- hcX];rfl))
 have hb6:Below w5.heap.size w5 w6:=by rw [<- hw6];exact ((br_ _ w5).alloc (nr_ _) _).trans (e_ (nr_ _) _ _ _)
 have Hw6:=a_ hw6
 clear bz5 hw6
 have KA6:=a_ (KA5.out.below hb6 KA5.out.lt)
 have KT6:=a_ (KT5.out.below hb6 KT5.out.lt)
 have KW6:=a_ (KW5.out.below hb6 KW5.out.lt)
 have B6:=a_ (B5.out.trans (hb6.mono B5.out.size))
 have DX6:=a_ (DX5.out.kept (Kept.of_oth (Oth.of_below (S:=fun _=>False) hb6) (fun _ _ _ e=>e)))
 clear RA5 KA5 RT5 KT5 RW5 KW5 B5 DX5
 have RA6:=a_ (c_ KA6.out)
 have RT6:=a_ (c_ KT6.out)
 have RW6:=a_ (c_ KW6.out)
 have RX6:=a_ (c_ KX6.out)
 clear hb6 zz5
 have hb6:Below w5.heap.size w5 w6:=by rw [<- Hw6.out];exact ((br_ _ w5).alloc (nr_ _) _).trans (e_ (nr_ _) _ _ _)
 have D6:=a_ (D5.out.trans (hb6.mono D5.out.size))
 have S56:=a_ (And.intro hb6.size KX6.out.lt)
 clear oX hcX hb6 D5
 go_upto_region 10 with (first
  | (refine wpList_load_mid rfl 38 _ rfl w.heap.size 0 rfl cs _ RA6.out Tryz.underlying38 rfl IA.out ?_)
  | (refine wpList_load_mid rfl 40 _ rfl (w.heap.size+1) 0 rfl ct _ RT6.out Tryz.underlying40 rfl IT.out ?_)
  | (refine wpList_load_mid rfl 55 _ rfl BW 0 rfl cW _ RW6.out Tryz.underlying55 rfl IW.out ?_)
  | (refine wpList_load_mid rfl 55 _ rfl w5.heap.size 0 rfl cX _ RX6.out Tryz.underlying55 rfl IX.out ?_)
  | ((refine wpList_store_mid rfl 55 _ _ rfl w5.heap.size 0 cX.toArray rfl rfl HtX.out (by simpa using IX.out) oneX.out ?_;rw [Hw6.out]))
  | fail)
 simp only [Act.put]
 clear oneX HtX Hw6
 have HSd:=a_ (fun V (hV:Below w6.heap.size w6 V)=>(show V.rangeAt w5.heap.size 0 cX/\V.rangeAt (w.heap.size+1) 0 ct from ⟨o_ RX6.out hV KX6.out.lt,o_ RT6.out hV KT6.out.lt⟩))
 have HBd:=a_ (fun V (hV:Below w6.heap.size w6 V)=>(B6.out.trans (hV.mono B6.out.size)))
 have HFd:=a_ (fun V (hV:Below w6.heap.size w6 V)=>(show RdNd V z0 uX from DX6.out.rd.below hV (nr_ _)))
 go_cut [9,10] from 16 (fun sp sb wc=>∃ (B:Nat) (u:Nv) (lo hi:Nat),sp=.pointer (some ⟨B,0,none⟩)/\sb=.bool QB/\Blk wc B 55 (noC Q u)/\OwnNd lo hi wc Q u/\w6.heap.size<=lo/\hi<=wc.heap.size/\(B < lo\/hi<=B)/\w6.heap.size<=B/\Below w6.heap.size w6 wc)
 case first =>
  have bD:Below w6.heap.size w6 w6.drew:=(br_ _ w6).drew
  have hS0:=HSd.out _ bD
  refine wp_region_held_drew (S:=fun W=>W.rangeAt w5.heap.size 0 cX/\W.rangeAt (w.heap.size+1) 0 ct) (by kernel_rfl) hS0 (fun hHeld=>?_)
  refine wpAnyH_take (i:=0) (v:=.agg cX.toArray) rfl (by kernel_rfl) (by kernel_rfl) (by kernel_rfl) (fun _ _ _ h=>h) (yieldsIf_load_mid (by rfl) 55 _ rfl w5.heap.size 0 rfl cX _ (fun W hW=>hW.1) Tryz.underlying55 rfl IX.out) (by assumption) ?_
  change wpAnyH Tryz.prog _ _ _ _ _ _ (Act.put _ (some 37) _) _
  simp only [Act.put,sb_,sz_,ss_]
  refine wpAnyH_take (i:=1) (v:=.agg ct.toArray) rfl (by kernel_rfl) (by kernel_rfl) (by kernel_rfl) (fun _ _ _ h=>h) (yieldsIf_load_mid (by rfl) 40 _ rfl (w.heap.size+1) 0 rfl ct _ (fun W hW=>hW.2) Tryz.underlying40 rfl IT.out) (by assumption) ?_
  change wpAnyH Tryz.prog _ _ _ _ _ _ (Act.put _ (some 38) _) _
  simp only [Act.put,sb_,sz_,ss_]
  refine wpAnyH_ready (rs:=[2,7]) (by kernel_rfl) (by simp) ?_
  refine AllReadyH.cons rfl (fun K hK=>?_) (AllReadyH.cons rfl (fun K hK=>?_) AllReadyH.nil)
  ·skip
   go_simp
   go_wp2_with (go_at_call 8;(with_reducible refine (HTx.out w6.drew).mono ?_);rintro e v0 ⟨rfl,hb0⟩;have bc0:=bD.trans (hb0.mono bD.size);have hS0:=HSd.out _ bc0)
   refine hK.out _ _ hS0 (fun hHeld=>?_)
   try simp only [Act.put,sb_,sz_,ss_]
   refine wpAnyH_ready (rs:=[3,7]) (by kernel_rfl) (by simp) ?_
   refine AllReadyH.cons rfl (fun K hK=>?_) (AllReadyH.cons rfl (fun K hK=>?_) AllReadyH.nil)
   ·skip
    go_simp
    have CF:=a_ (HI.out uX _ (HBd.out _ bc0) (HFd.out _ bc0))
    rw [ecX.out] at CF
    go_wp2_with (go_at_call 9;(with_reducible refine CF.out.mono ?_);rintro e v1 ⟨uF,rfl,rF,hb1⟩;obtain ⟨cF,hcF⟩:∃ c,noC Q uF=c:=⟨_,rfl⟩;have eF:noV Q uF=.agg cF.toArray:=(by rw [<- hcF];rfl);rw [eF];have bc1:=bc0.trans (hb1.mono bc0.size);have zF:=hb1.size;have hS1:=HSd.out _ bc1)
    refine hK.out _ _ hS1 (fun hHeld=>?_)
    try simp only [Act.put,sb_,sz_,ss_]
    refine wpAnyH_take (i:=4) (v:=.tuple #[.agg cF.toArray,.bool QB]) rfl (by kernel_rfl) (by kernel_rfl) (by kernel_rfl) (fun _ _ _ h=>h) (Or.inl ⟨by rfl,fun W hW=>by go_simp⟩) (by assumption) ?_
    change wpAnyH Tryz.prog _ _ _ _ _ _ (Act.put _ (some 36) _) _
    simp only [Act.put,sb_,sz_,ss_]
    refine wpAnyH_take (i:=5) (v:=.agg cF.toArray) rfl (by kernel_rfl) (by kernel_rfl) (by kernel_rfl) (fun _ _ _ h=>h) (Or.inl ⟨by rfl,fun W hW=>by go_simp⟩) (by assumption) ?_
    change wpAnyH Tryz.prog _ _ _ _ _ _ (Act.put _ (some 41) _) _
    simp only [Act.put,sb_,sz_,ss_]
    refine wpAnyH_take (i:=6) (v:=.bool QB) rfl (by kernel_rfl) (by kernel_rfl) (by kernel_rfl) (fun _ _ _ h=>h) (Or.inl ⟨by rfl,fun W hW=>by go_simp⟩) (by assumption) ?_
    change wpAnyH Tryz.prog _ _ _ _ _ _ (Act.put _ (some 42) _) _
    simp only [Act.put,sb_,sz_,ss_]
    refine wpAnyH_ready (rs:=[7]) (by kernel_rfl) (by simp) ?_
    refine AllReadyH.cons rfl (fun K hK=>?_) AllReadyH.nil
    go_simp
    have nby:Blk (v1.alloc (.cells noZ_ 55)) v1.heap.size 55 noY_:=Blk.new v1 _ _
    have bay:Below w6.heap.size w6 (v1.alloc (.cells noZ_ 55)):=bc1.alloc bc1.size _
    have bly:Below v1.heap.size v1 (v1.alloc (.cells noZ_ 55)):=(br_ _ v1).alloc (nr_ _) _
    refine hK.out _ _ (HSd.out _ bay) (fun hHeld=>?_)
    try simp only [Act.put,sb_,sz_,ss_]
    have one9:cF.toArray.all (·.oneCell')=true:=by rw [List.all_toArray,<- hcF];exact F_ rF.rd
    have inf9:(Tryz.prog.info? 55).map (·.size)=some cF.toArray.size:=by rw [List.size_toArray,<- hcF];exact Tryz.infoB
    have hlB:w6.heap.size<=v1.heap.size:=bc1.size
    have len9:(noY_:List Value).length=cF.length:=by rw [<- hcF];rfl
    have b9:Below w6.heap.size w6 ((v1.alloc (.cells noZ_ 55)).setCells (v1.heap.size) 0 cF):=bay.trans (e_ hlB _ _ _)
    have hS9:=HSd.out _ b9
    refine wpAnyH_ready (rs:=[8]) (by kernel_rfl) (by simp) ?_
    refine AllReadyH.cons rfl (fun K hK=>?_) AllReadyH.nil
    refine wp_store_mid 55 _ _ rfl (v1.heap.size) 0 cF.toArray rfl rfl (nby.there (by rw [List.size_toArray,<- hcF];rfl)) inf9 one9 ?_
    refine hK.out _ _ hS9 (fun hHeld=>?_)
    try simp only [Act.put,sb_,sz_,ss_]
    refine wpAnyH_take (i:=9) (v:=.bool QB) rfl (by kernel_rfl) (by kernel_rfl) (by kernel_rfl) (fun _ _ _ h=>h) (Or.inl ⟨by rfl,fun W hW=>by go_simp⟩) (by assumption) ?_
    change wpAnyH Tryz.prog _ _ _ _ _ _ (Act.put _ (some 10) _) _
    simp only [Act.put,sb_,sz_,ss_]
    refine wpAnyH_done (by kernel_rfl) ?_ _
    have hlo9:w6.heap.size<=v0.heap.size:=bc0.size
    have hhi9:v1.heap.size<=((v1.alloc (.cells noZ_ 55)).setCells (v1.heap.size) 0 cF).heap.size:=(bly.trans (e_ (nr_ _) _ _ _)).size
    go_wp2_with fail
    go_meet
    case rel=>exact ⟨v1.heap.size,uF,v0.heap.size,v1.heap.size,rfl,rfl,by rw [hcF];exact q_ nby len9,rF.kept (Kept.of_belowT (show Below v1.heap.size v1 ((v1.alloc (.cells noZ_ 55)).setCells v1.heap.size 0 cF) from bly.trans (e_ (nr_ _) _ _ _)) (nr_ _)),hlo9,hhi9,.inr (nr_ _),hlB,b9⟩
   ·skip
    go_simp
    have nb1z:Blk (v0.alloc (.cells noZ_ 55)) v0.heap.size 55 noY_:=Blk.new v0 _ _
    have ba1z:Below w6.heap.size w6 (v0.alloc (.cells noZ_ 55)):=bc0.alloc bc0.size _
    have bl1z:Below v0.heap.size v0 (v0.alloc (.cells noZ_ 55)):=(br_ _ v0).alloc (nr_ _) _
    refine hK.out _ _ (HSd.out _ ba1z) (fun hHeld=>?_)
    try simp only [Act.put,sb_,sz_,ss_]
    refine wpAnyH_ready (rs:=[3]) (by kernel_rfl) (by simp) ?_
    refine AllReadyH.cons rfl (fun K hK=>?_) AllReadyH.nil
    go_simp
    have CF:=a_ (HI.out uX _ (HBd.out _ ba1z) (HFd.out _ ba1z))
    rw [ecX.out] at CF
    go_wp2_with (go_at_call 9;(with_reducible refine CF.out.mono ?_);rintro e v1a ⟨uF,rfl,rF,hb1a⟩;obtain ⟨cF,hcF⟩:∃ c,noC Q uF=c:=⟨_,rfl⟩;have eF:noV Q uF=.agg cF.toArray:=(by rw [<- hcF];rfl);rw [eF];have bc1a:=ba1z.trans (hb1a.mono ba1z.size);have zF:=hb1a.size;have hS1a:=HSd.out _ bc1a;have nk1a:=nb1z.below hb1a nb1z.lt)
    refine hK.out _ _ hS1a (fun hHeld=>?_)
    try simp only [Act.put,sb_,sz_,ss_]
    refine wpAnyH_take (i:=4) (v:=.tuple #[.agg cF.toArray,.bool QB]) rfl (by kernel_rfl) (by kernel_rfl) (by kernel_rfl) (fun _ _ _ h=>h) (Or.inl ⟨by rfl,fun W hW=>by go_simp⟩) (by assumption) ?_
    change wpAnyH Tryz.prog _ _ _ _ _ _ (Act.put _ (some 36) _) _
    simp only [Act.put,sb_,sz_,ss_]
    refine wpAnyH_take (i:=5) (v:=.agg cF.toArray) rfl (by kernel_rfl) (by kernel_rfl) (by kernel_rfl) (fun _ _ _ h=>h) (Or.inl ⟨by rfl,fun W hW=>by go_simp⟩) (by assumption) ?_
    change wpAnyH Tryz.prog _ _ _ _ _ _ (Act.put _ (some 41) _) _
    simp only [Act.put,sb_,sz_,ss_]
    refine wpAnyH_take (i:=6) (v:=.bool QB) rfl (by kernel_rfl) (by kernel_rfl) (by kernel_rfl) (fun _ _ _ h=>h) (Or.inl ⟨by rfl,fun W hW=>by go_simp⟩) (by assumption) ?_
    change wpAnyH Tryz.prog _ _ _ _ _ _ (Act.put _ (some 42) _) _
    simp only [Act.put,sb_,sz_,ss_]
    have one9:cF.toArray.all (·.oneCell')=true:=by rw [List.all_toArray,<- hcF];exact F_ rF.rd
    have inf9:(Tryz.prog.info? 55).map (·.size)=some cF.toArray.size:=by rw [List.size_toArray,<- hcF];exact Tryz.infoB
    have hlB:w6.heap.size<=v0.heap.size:=bc0.size
    have len9:(noY_:List Value).length=cF.length:=by rw [<- hcF];rfl
    have b9:Below w6.heap.size w6 (v1a.setCells (v0.heap.size) 0 cF):=bc1a.trans (e_ hlB _ _ _)
    have hS9:=HSd.out _ b9
    refine wpAnyH_ready (rs:=[8]) (by kernel_rfl) (by simp) ?_
    refine AllReadyH.cons rfl (fun K hK=>?_) AllReadyH.nil
    refine wp_store_mid 55 _ _ rfl (v0.heap.size) 0 cF.toArray rfl rfl (nk1a.there (by rw [List.size_toArray,<- hcF];rfl)) inf9 one9 ?_
    refine hK.out _ _ hS9 (fun hHeld=>?_)
    try simp only [Act.put,sb_,sz_,ss_]
    refine wpAnyH_take (i:=9) (v:=.bool QB) rfl (by kernel_rfl) (by kernel_rfl) (by kernel_rfl) (fun _ _ _ h=>h) (Or.inl ⟨by rfl,fun W hW=>by go_simp⟩) (by assumption) ?_
    change wpAnyH Tryz.prog _ _ _ _ _ _ (Act.put _ (some 10) _) _
    simp only [Act.put,sb_,sz_,ss_]
    refine wpAnyH_done (by kernel_rfl) ?_ _
    have hBlo:v0.heap.size < (v0.alloc (.cells noZ_ 55)).heap.size:=nb1z.lt
    have hlo9:w6.heap.size<=(v0.alloc (.cells noZ_ 55)).heap.size:=ba1z.size
    have hhi9:v1a.heap.size<=(v1a.setCells (v0.heap.size) 0 cF).heap.size:=(e_ (B:=0) (Nat.zero_le _) _ _ _).size
    go_wp2_with fail
    go_meet
    case rel=>exact ⟨v0.heap.size,uF,(v0.alloc (.cells noZ_ 55)).heap.size,v1a.heap.size,rfl,rfl,by rw [hcF];exact q_ nk1a len9,rF.kept (Kept.setCs v1a 0 cF (.inl hBlo)),hlo9,hhi9,.inl hBlo,hlB,b9⟩
  ·skip
   go_simp
   have nb0z:Blk (w6.alloc (.cells noZ_ 55)).drew w6.heap.size 55 noY_:=Blk.new w6 _ _
   have ba0z:Below w6.heap.size w6 (w6.alloc (.cells noZ_ 55)).drew:=((br_ _ w6).alloc (nr_ _) _).drew
   refine hK.out _ _ (HSd.out _ ba0z) (fun hHeld=>?_)
   try simp only [Act.put,sb_,sz_,ss_]
   refine wpAnyH_ready (rs:=[2]) (by kernel_rfl) (by simp) ?_
   refine AllReadyH.cons rfl (fun K hK=>?_) AllReadyH.nil
   go_simp
   go_wp2_with (go_at_call 8;(with_reducible refine (HTx.out (w6.alloc (.cells noZ_ 55)).drew).mono ?_);rintro e v0a ⟨rfl,hb0a⟩;have bc0a:=ba0z.trans (hb0a.mono ba0z.size);have hS0a:=HSd.out _ bc0a;have nk0a:=nb0z.below hb0a nb0z.lt)
   refine hK.out _ _ hS0a (fun hHeld=>?_)
   try simp only [Act.put,sb_,sz_,ss_]
   refine wpAnyH_ready (rs:=[3]) (by kernel_rfl) (by simp) ?_
   refine AllReadyH.cons rfl (fun K hK=>?_) AllReadyH.nil
   go_simp
   have CF:=a_ (HI.out uX _ (HBd.out _ bc0a) (HFd.out _ bc0a))
   rw [ecX.out] at CF
   go_wp2_with (go_at_call 9;(with_reducible refine CF.out.mono ?_);rintro e v1a ⟨uF,rfl,rF,hb1a⟩;obtain ⟨cF,hcF⟩:∃ c,noC Q uF=c:=⟨_,rfl⟩;have eF:noV Q uF=.agg cF.toArray:=(by rw [<- hcF];rfl);rw [eF];have bc1a:=bc0a.trans (hb1a.mono bc0a.size);have zF:=hb1a.size;have hS1a:=HSd.out _ bc1a;have nk1a:=nk0a.below hb1a nk0a.lt)
   refine hK.out _ _ hS1a (fun hHeld=>?_)
   try simp only [Act.put,sb_,sz_,ss_]
   refine wpAnyH_take (i:=4) (v:=.tuple #[.agg cF.toArray,.bool QB]) rfl (by kernel_rfl) (by kernel_rfl) (by kernel_rfl) (fun _ _ _ h=>h) (Or.inl ⟨by rfl,fun W hW=>by go_simp⟩) (by assumption) ?_
   change wpAnyH Tryz.prog _ _ _ _ _ _ (Act.put _ (some 36) _) _
   simp only [Act.put,sb_,sz_,ss_]
   refine wpAnyH_take (i:=5) (v:=.agg cF.toArray) rfl (by kernel_rfl) (by kernel_rfl) (by kernel_rfl) (fun _ _ _ h=>h) (Or.inl ⟨by rfl,fun W hW=>by go_simp⟩) (by assumption) ?_
   change wpAnyH Tryz.prog _ _ _ _ _ _ (Act.put _ (some 41) _) _
   simp only [Act.put,sb_,sz_,ss_]
   refine wpAnyH_take (i:=6) (v:=.bool QB) rfl (by kernel_rfl) (by kernel_rfl) (by kernel_rfl) (fun _ _ _ h=>h) (Or.inl ⟨by rfl,fun W hW=>by go_simp⟩) (by assumption) ?_
   change wpAnyH Tryz.prog _ _ _ _ _ _ (Act.put _ (some 42) _) _
   simp only [Act.put,sb_,sz_,ss_]
   have one9:cF.toArray.all (·.oneCell')=true:=by rw [List.all_toArray,<- hcF];exact F_ rF.rd
   have inf9:(Tryz.prog.info? 55).map (·.size)=some cF.toArray.size:=by rw [List.size_toArray,<- hcF];exact Tryz.infoB
   have hlB:w6.heap.size<=w6.heap.size:=bD.size
   have len9:(noY_:List Value).length=cF.length:=by rw [<- hcF];rfl
   have b9:Below w6.heap.size w6 (v1a.setCells (w6.heap.size) 0 cF):=bc1a.trans (e_ hlB _ _ _)
   have hS9:=HSd.out _ b9
   refine wpAnyH_ready (rs:=[8]) (by kernel_rfl) (by simp) ?_
   refine AllReadyH.cons rfl (fun K hK=>?_) AllReadyH.nil
   refine wp_store_mid 55 _ _ rfl (w6.heap.size) 0 cF.toArray rfl rfl (nk1a.there (by rw [List.size_toArray,<- hcF];rfl)) inf9 one9 ?_
   refine hK.out _ _ hS9 (fun hHeld=>?_)
   try simp only [Act.put,sb_,sz_,ss_]
   refine wpAnyH_take (i:=9) (v:=.bool QB) rfl (by kernel_rfl) (by kernel_rfl) (by kernel_rfl) (fun _ _ _ h=>h) (Or.inl ⟨by rfl,fun W hW=>by go_simp⟩) (by assumption) ?_
   change wpAnyH Tryz.prog _ _ _ _ _ _ (Act.put _ (some 10) _) _
   simp only [Act.put,sb_,sz_,ss_]
   refine wpAnyH_done (by kernel_rfl) ?_ _
   have hBlo:w6.heap.size < v0a.heap.size:=nk0a.lt
   have hlo9:w6.heap.size<=v0a.heap.size:=bc0a.size
   have hhi9:v1a.heap.size<=(v1a.setCells (w6.heap.size) 0 cF).heap.size:=(e_ (B:=0) (Nat.zero_le _) _ _ _).size
   go_wp2_with fail
   go_meet
   case rel=>exact ⟨w6.heap.size,uF,v0a.heap.size,v1a.heap.size,rfl,rfl,by rw [hcF];exact q_ nk1a len9,rF.kept (Kept.setCs v1a 0 cF (.inl hBlo)),hlo9,hhi9,.inl hBlo,hlB,b9⟩
 clear HSd HBd HFd
 obtain ⟨w7,rfl⟩:∃ x,x=wc:=⟨_,rfl⟩
 obtain ⟨BG,uG,loG,hiG,rfl,rfl,kk,oG,hloG,hhiG,hBoG,hBG,hb7⟩:=hcut
 have KA7:=a_ (KA6.out.below hb7 KA6.out.lt)
 have KT7:=a_ (KT6.out.below hb7 KT6.out.lt)
 have KW7:=a_ (KW6.out.below hb7 KW6.out.lt)
 have KX7:=a_ (KX6.out.below hb7 KX6.out.lt)
 have B7:=a_ (B6.out.trans (hb7.mono B6.out.size))
 have DX7:=a_ (DX6.out.kept (Kept.of_oth (Oth.of_below (S:=fun _=>False) hb7) (fun _ _ _ e=>e)))
 clear RA6 KA6 RT6 KT6 RW6 KW6 RX6 KX6 B6 DX6
 have RA7:=a_ (c_ KA7.out)
 have RT7:=a_ (c_ KT7.out)
 have RW7:=a_ (c_ KW7.out)
 have RX7:=a_ (c_ KX7.out)
 obtain ⟨cG,hcG⟩:∃ c,noC Q uG=c:=⟨_,rfl⟩
 have ecG:=a_ (show noV Q uG=.agg cG.toArray from by rw [<- hcG];rfl)
 rw [hcG] at kk
 have KG7:=a_ kk
 have IG:=a_ (show (Tryz.prog.info? 55).map (·.size)=some cG.length from by rw [<- hcG];exact Tryz.infoB)
 clear kk
 have RG7:=a_ (c_ KG7.out)
 have D7:=a_ (D6.out.trans (hb7.mono D6.out.size))
 have DG7:=a_ oG
 have S67:=a_ (And.intro hloG (And.intro hhiG (And.intro hBoG (And.intro hBG KG7.out.lt))))
 have C8:=a_ (HEr.out uG uW w7 oG.rd (RW.out.below D7.out (nr_ _)))
 rw [ecG.out,ecW.out] at C8
 clear hcG hb7 D6 oG hloG hhiG hBoG hBG
 go_wp2_with (first
  | (refine wpList_load_mid rfl 38 _ rfl w.heap.size 0 rfl cs _ RA7.out Tryz.underlying38 rfl IA.out ?_)
  | (refine wpList_load_mid rfl 40 _ rfl (w.heap.size+1) 0 rfl ct _ RT7.out Tryz.underlying40 rfl IT.out ?_)
  | (refine wpList_load_mid rfl 55 _ rfl BW 0 rfl cW _ RW7.out Tryz.underlying55 rfl IW.out ?_)
  | (refine wpList_load_mid rfl 55 _ rfl w5.heap.size 0 rfl cX _ RX7.out Tryz.underlying55 rfl IX.out ?_)
  | (refine wpList_load_mid rfl 55 _ rfl BG 0 rfl cG _ RG7.out Tryz.underlying55 rfl IG.out ?_)
  | fail)
 refine C8.out.mono ?_
 rintro e w8 ⟨rfl,hb8⟩
 have Y8:=a_ hb8.size
 have D8:=a_ (D7.out.trans (hb8.mono D7.out.size))
 have KA8:=a_ (KA7.out.below hb8 KA7.out.lt)
 have KT8:=a_ (KT7.out.below hb8 KT7.out.lt)
 have KW8:=a_ (KW7.out.below hb8 KW7.out.lt)
 have KX8:=a_ (KX7.out.below hb8 KX7.out.lt)
 have KG8:=a_ (KG7.out.below hb8 KG7.out.lt)
 have B8:=a_ (B7.out.trans (hb8.mono B7.out.size))
 have DX8:=a_ (DX7.out.kept (Kept.of_oth (Oth.of_below (S:=fun _=>False) hb8) (fun _ _ _ e=>e)))
 have DG8:=a_ (DG7.out.kept (Kept.of_oth (Oth.of_below (S:=fun _=>False) hb8) (fun _ _ _ e=>e)))
 clear RA7 KA7 RT7 KT7 RW7 KW7 RX7 KX7 RG7 KG7 B7 DX7 DG7
 have RA8:=a_ (c_ KA8.out)
 have RT8:=a_ (c_ KT8.out)
 have RW8:=a_ (c_ KW8.out)
 have RX8:=a_ (c_ KX8.out)
 have RG8:=a_ (c_ KG8.out)
 clear hb8 D7 C8
 have z8:=KX8.out.lt
 have HSS:Hid (∀ V,Below w8.heap.size w8 V->(V.rangeAt w5.heap.size 0 cX/\V.rangeAt w.heap.size 0 cs)):=a_ (fun V hV=>⟨o_ RX8.out hV z8,o_ RA8.out hV KA8.out.lt⟩)
 have bD:Below w8.heap.size w8 w8.drew:=(br_ _ w8).drew
 have hS0:=HSS.out _ bD
 have HEX:=a_ (fun t V (h1:RdNd V z0 uX) (h2:RdNd V z0 t)=>HEx.out uX t V h1 h2)
 rw [ecX.out] at HEX
 clear z8
 go_wp2
 refine wp_region_held_drew (S:=fun W=>W.rangeAt w5.heap.size 0 cX/\W.rangeAt w.heap.size 0 cs) (by kernel_rfl) hS0 (fun hHeld=>?_)
 refine wpAnyH_take (i:=0) (v:=.agg cX.toArray) rfl (by kernel_rfl) (by kernel_rfl) (by kernel_rfl) (fun _ _ _ h=>h) (yieldsIf_load_mid (by rfl) 55 _ rfl w5.heap.size 0 rfl cX _ (fun W hW=>hW.1) Tryz.underlying55 rfl IX.out) (by assumption) ?_
 change wpAnyH Tryz.prog _ _ _ _ _ _ (Act.put _ (some 52) _) _
 simp only [Act.put,sb_,sz_,ss_]
 refine wpAnyH_take (i:=1) (v:=.agg cs.toArray) rfl (by kernel_rfl) (by kernel_rfl) (by kernel_rfl) (fun _ _ _ h=>h) (yieldsIf_load_mid (by rfl) 38 _ rfl w.heap.size 0 rfl cs _ (fun W hW=>hW.2) Tryz.underlying38 rfl IA.out) (by assumption) ?_
 change wpAnyH Tryz.prog _ _ _ _ _ _ (Act.put _ (some 53) _) _
 simp only [Act.put,sb_,sz_,ss_]
 refine wpAnyH_ready (rs:=[2]) (by kernel_rfl) (by simp) ?_
 refine AllReadyH.cons rfl (fun K hK=>?_) AllReadyH.nil
 go_simp
 go_wp2_with (go_at_call 7;(with_reducible refine (HT.out _ (B8.out.trans (bD.mono B8.out.size))).mono ?_);rintro e w9 ⟨u9,rfl,o9,hb9⟩;have c9:=bD.trans (hb9.mono bD.size);have hS9:=HSS.out _ c9;have r9:=o9.rd)
 refine hK.out _ _ hS9 (fun hHeld=>?_)
 try simp only [Act.put,sb_,sz_,ss_]
 refine wpAnyH_ready (rs:=[3]) (by kernel_rfl) (by simp) ?_
 refine AllReadyH.cons rfl (fun K hK=>?_) AllReadyH.nil
 go_simp
 go_wp2_with (go_at_call 10;(with_reducible refine (HEX.out _ _ (DX8.out.rd.below c9 (nr_ _)) r9).mono ?_);rintro e w10 ⟨rfl,hb10⟩;have c10:=c9.trans (hb10.mono c9.size);have hS10:=HSS.out _ c10)
 refine hK.out _ _ hS10 (fun hHeld=>?_)
 try simp only [Act.put,sb_,sz_,ss_]
 refine wpAnyH_take (i:=4) (v:=.bool false) rfl (by kernel_rfl) (by kernel_rfl) (by kernel_rfl) (fun _ _ _ h=>h) (Or.inl ⟨by rfl,fun W hW=>by go_simp⟩) (by assumption) ?_
 change wpAnyH Tryz.prog _ _ _ _ _ _ (Act.put _ (some 56) _) _
 simp only [Act.put,sb_,sz_,ss_]
 refine wpAnyH_done (by kernel_rfl) ?_ _
 have D10:=a_ (D8.out.trans (c10.mono D8.out.size))
 have Y10:=a_ (Nat.le_trans Y8.out c10.size)
 clear hS0 hS9 hS10 o9 r9 hb9 hb10 c9 HSS HEX bD
 have KA10:=a_ (KA8.out.below c10 KA8.out.lt)
 have KT10:=a_ (KT8.out.below c10 KT8.out.lt)
 have KW10:=a_ (KW8.out.below c10 KW8.out.lt)
 have KX10:=a_ (KX8.out.below c10 KX8.out.lt)
 have KG10:=a_ (KG8.out.below c10 KG8.out.lt)
 have B10:=a_ (B8.out.trans (c10.mono B8.out.size))
 have DX10:=a_ (DX8.out.kept (Kept.of_oth (Oth.of_below (S:=fun _=>False) c10) (fun _ _ _ e=>e)))
 have DG10:=a_ (DG8.out.kept (Kept.of_oth (Oth.of_below (S:=fun _=>False) c10) (fun _ _ _ e=>e)))
 clear RA8 KA8 RT8 KT8 RW8 KW8 RX8 KX8 RG8 KG8 B8 DX8 DG8
 have RA10:=a_ (c_ KA10.out)
 have RT10:=a_ (c_ KT10.out)
 have RW10:=a_ (c_ KW10.out)
 have RX10:=a_ (c_ KX10.out)
 have RG10:=a_ (c_ KG10.out)
 clear c10 D8
 have C11:=a_ (HMx.out uX w4.heap.size w5.heap.size w10 DX10.out (Nat.le_of_lt KX10.out.lt))
 rw [ecX.out] at C11
 clear DX10 HMx
 go_wp2_with (first
  | (refine wpList_load_mid rfl 38 _ rfl w.heap.size 0 rfl cs _ RA10.out Tryz.underlying38 rfl IA.out ?_)
  | (refine wpList_load_mid rfl 40 _ rfl (w.heap.size+1) 0 rfl ct _ RT10.out Tryz.underlying40 rfl IT.out ?_)
  | (refine wpList_load_mid rfl 55 _ rfl BW 0 rfl cW _ RW10.out Tryz.underlying55 rfl IW.out ?_)
  | (refine wpList_load_mid rfl 55 _ rfl w5.heap.size 0 rfl cX _ RX10.out Tryz.underlying55 rfl IX.out ?_)
  | (refine wpList_load_mid rfl 55 _ rfl BG 0 rfl cG _ RG10.out Tryz.underlying55 rfl IG.out ?_)
  | fail)
 refine C11.out.mono ?_
 rintro e w11 ⟨rfl,-,hO⟩
 have KA11:=a_ (KA10.out.othM hO (by obtain ⟨s1,s2,s3,s4⟩:=S45.out;obtain ⟨s5,s6⟩:=S56.out;obtain ⟨s7,s8,s9,s10,s11⟩:=S67.out;omega))
 have KT11:=a_ (KT10.out.othM hO (by obtain ⟨s1,s2,s3,s4⟩:=S45.out;obtain ⟨s5,s6⟩:=S56.out;obtain ⟨s7,s8,s9,s10,s11⟩:=S67.out;omega))
 have KW11:=a_ (KW10.out.othM hO (by obtain ⟨s1,s2,s3,s4⟩:=S45.out;obtain ⟨s5,s6⟩:=S56.out;obtain ⟨s7,s8,s9,s10,s11⟩:=S67.out;omega))
 have KX11:=a_ (KX10.out.othM hO (by obtain ⟨s1,s2,s3,s4⟩:=S45.out;obtain ⟨s5,s6⟩:=S56.out;obtain ⟨s7,s8,s9,s10,s11⟩:=S67.out;omega))
 have KG11:=a_ (KG10.out.othM hO (by obtain ⟨s1,s2,s3,s4⟩:=S45.out;obtain ⟨s5,s6⟩:=S56.out;obtain ⟨s7,s8,s9,s10,s11⟩:=S67.out;omega))
 have hm11:Below w4.heap.size w10 w11:=hO.below (fun k hk=>by obtain ⟨s1,s2,s3,s4⟩:=S45.out;obtain ⟨s5,s6⟩:=S56.out;obtain ⟨s7,s8,s9,s10,s11⟩:=S67.out;omega) D10.out.size
 have B11:=a_ (B10.out.trans (hm11.mono (by obtain ⟨s1,s2,s3,s4⟩:=S45.out;obtain ⟨s5,s6⟩:=S56.out;obtain ⟨s7,s8,s9,s10,s11⟩:=S67.out;omega)))
 have D11:=a_ (D10.out.trans hm11)
 have DG11:=a_ (DG10.out.kept (Kept.of_oth hO (fun k h1 h2=>by obtain ⟨s1,s2,s3,s4⟩:=S45.out;obtain ⟨s5,s6⟩:=S56.out;obtain ⟨s7,s8,s9,s10,s11⟩:=S67.out;omega)))
 clear RA10 KA10 RT10 KT10 RW10 KW10 RX10 KX10 RG10 KG10 B10 D10 hm11 DG10
 have RA11:=a_ (c_ KA11.out)
 have RT11:=a_ (c_ KT11.out)
 have RW11:=a_ (c_ KW11.out)
 have RX11:=a_ (c_ KX11.out)
 have RG11:=a_ (c_ KG11.out)
 have Y11:=a_ (Nat.le_trans Y10.out hO.size)
 clear hO C11 Y8 Y10
 have C12:=a_ (HEr.out uG uW w11 DG11.out.rd (RW.out.below D11.out (nr_ _)))
 rw [ecG.out,ecW.out] at C12
 have hnX:¬ ((nX:Int) < 0):=by omega
 go_wp2_with (first
  | (refine wpList_load_mid rfl 38 _ rfl w.heap.size 0 rfl cs _ RA11.out Tryz.underlying38 rfl IA.out ?_)
  | (refine wpList_load_mid rfl 40 _ rfl (w.heap.size+1) 0 rfl ct _ RT11.out Tryz.underlying40 rfl IT.out ?_)
  | (refine wpList_load_mid rfl 55 _ rfl BW 0 rfl cW _ RW11.out Tryz.underlying55 rfl IW.out ?_)
  | (refine wpList_load_mid rfl 55 _ rfl w5.heap.size 0 rfl cX _ RX11.out Tryz.underlying55 rfl IX.out ?_)
  | (refine wpList_load_mid rfl 55 _ rfl BG 0 rfl cG _ RG11.out Tryz.underlying55 rfl IG.out ?_)
  | (refine aC_ (by kernel_rfl) 55 _ rfl BW 0 rfl cW _ RW11.out Tryz.underlying55 rfl IW.out ?_)
  | (refine aC_ (by kernel_rfl) 55 _ rfl BG 0 rfl cG _ RG11.out Tryz.underlying55 rfl IG.out ?_)
  | fail)
 refine C12.out.mono ?_
 rintro e w12 ⟨rfl,hb12⟩
 have S7c:=a_ (Nat.le_trans Y11.out hb12.size)
 have D12:=a_ (D11.out.trans (hb12.mono D11.out.size))
 clear Y11
 have KA12:=a_ (KA11.out.below hb12 KA11.out.lt)
 have KT12:=a_ (KT11.out.below hb12 KT11.out.lt)
 have KW12:=a_ (KW11.out.below hb12 KW11.out.lt)
 have KX12:=a_ (KX11.out.below hb12 KX11.out.lt)
 have KG12:=a_ (KG11.out.below hb12 KG11.out.lt)
 have B12:=a_ (B11.out.trans (hb12.mono B11.out.size))
 have DG12:=a_ (DG11.out.kept (Kept.of_oth (Oth.of_below (S:=fun _=>False) hb12) (fun _ _ _ e=>e)))
 clear RA11 KA11 RT11 KT11 RW11 KW11 RX11 KX11 RG11 KG11 B11 DG11
 have RA12:=a_ (c_ KA12.out)
 have RT12:=a_ (c_ KT12.out)
 have RW12:=a_ (c_ KW12.out)
 have RX12:=a_ (c_ KX12.out)
 have RG12:=a_ (c_ KG12.out)
 clear hb12 D11 C12
 have C13:=a_ (HMr.out uG loG hiG w12 DG12.out (by obtain ⟨s7,s8,s9,s10,s11⟩:=S67.out;exact Nat.le_trans s8 S7c.out))
 rw [ecG.out] at C13
 clear DG12 HMr
 go_wp2_with (first
  | (refine wpList_load_mid rfl 38 _ rfl w.heap.size 0 rfl cs _ RA12.out Tryz.underlying38 rfl IA.out ?_)
  | (refine wpList_load_mid rfl 40 _ rfl (w.heap.size+1) 0 rfl ct _ RT12.out Tryz.underlying40 rfl IT.out ?_)
  | (refine wpList_load_mid rfl 55 _ rfl BW 0 rfl cW _ RW12.out Tryz.underlying55 rfl IW.out ?_)
  | (refine wpList_load_mid rfl 55 _ rfl w5.heap.size 0 rfl cX _ RX12.out Tryz.underlying55 rfl IX.out ?_)
  | (refine wpList_load_mid rfl 55 _ rfl BG 0 rfl cG _ RG12.out Tryz.underlying55 rfl IG.out ?_)
  | fail)
 refine C13.out.mono ?_
 rintro e w13 ⟨rfl,oM,hO⟩
 have KA13:=a_ (KA12.out.othM hO (by obtain ⟨s1,s2,s3,s4⟩:=S45.out;obtain ⟨s5,s6⟩:=S56.out;obtain ⟨s7,s8,s9,s10,s11⟩:=S67.out;omega))
 have KT13:=a_ (KT12.out.othM hO (by obtain ⟨s1,s2,s3,s4⟩:=S45.out;obtain ⟨s5,s6⟩:=S56.out;obtain ⟨s7,s8,s9,s10,s11⟩:=S67.out;omega))
 have KW13:=a_ (KW12.out.othM hO (by obtain ⟨s1,s2,s3,s4⟩:=S45.out;obtain ⟨s5,s6⟩:=S56.out;obtain ⟨s7,s8,s9,s10,s11⟩:=S67.out;omega))
 have KX13:=a_ (KX12.out.othM hO (by obtain ⟨s1,s2,s3,s4⟩:=S45.out;obtain ⟨s5,s6⟩:=S56.out;obtain ⟨s7,s8,s9,s10,s11⟩:=S67.out;omega))
 have KG13:=a_ (KG12.out.othM hO (by obtain ⟨s1,s2,s3,s4⟩:=S45.out;obtain ⟨s5,s6⟩:=S56.out;obtain ⟨s7,s8,s9,s10,s11⟩:=S67.out;omega))
 have hm13:Below w4.heap.size w12 w13:=hO.below (fun k hk=>by obtain ⟨s1,s2,s3,s4⟩:=S45.out;obtain ⟨s5,s6⟩:=S56.out;obtain ⟨s7,s8,s9,s10,s11⟩:=S67.out;omega) D12.out.size
 have B13:=a_ (B12.out.trans (hm13.mono (by obtain ⟨s1,s2,s3,s4⟩:=S45.out;obtain ⟨s5,s6⟩:=S56.out;obtain ⟨s7,s8,s9,s10,s11⟩:=S67.out;omega)))
 have D13:=a_ (D12.out.trans hm13)
 clear RA12 KA12 RT12 KT12 RW12 KW12 RX12 KX12 RG12 KG12 B12 D12 hm13 
 have RA13:=a_ (c_ KA13.out)
 have RT13:=a_ (c_ KT13.out)
 have RW13:=a_ (c_ KW13.out)
 have RX13:=a_ (c_ KX13.out)
 have RG13:=a_ (c_ KG13.out)
 have DM13:=a_ oM.rd
 clear hO C13 oM
 have hnR:¬ ((nR:Int) < 0):=by omega
 have C14:=a_ (HHr.out uG w13 DM13.out)
 rw [ecG.out] at C14
 go_wp2_with (first
  | (refine wpList_load_mid rfl 38 _ rfl w.heap.size 0 rfl cs _ RA13.out Tryz.underlying38 rfl IA.out ?_)
  | (refine wpList_load_mid rfl 40 _ rfl (w.heap.size+1) 0 rfl ct _ RT13.out Tryz.underlying40 rfl IT.out ?_)
  | (refine wpList_load_mid rfl 55 _ rfl BW 0 rfl cW _ RW13.out Tryz.underlying55 rfl IW.out ?_)
  | (refine wpList_load_mid rfl 55 _ rfl w5.heap.size 0 rfl cX _ RX13.out Tryz.underlying55 rfl IX.out ?_)
  | (refine wpList_load_mid rfl 55 _ rfl BG 0 rfl cG _ RG13.out Tryz.underlying55 rfl IG.out ?_)
  | fail)
 refine C14.out.mono ?_
 rintro e w14 ⟨rfl,hb14⟩
 have D14:=a_ (D13.out.trans (hb14.mono D13.out.size))
 have KA14:=a_ (KA13.out.below hb14 KA13.out.lt)
 have KT14:=a_ (KT13.out.below hb14 KT13.out.lt)
 have KW14:=a_ (KW13.out.below hb14 KW13.out.lt)
 have KX14:=a_ (KX13.out.below hb14 KX13.out.lt)
 have KG14:=a_ (KG13.out.below hb14 KG13.out.lt)
 have B14:=a_ (B13.out.trans (hb14.mono B13.out.size))
 have DM14:=a_ (DM13.out.below hb14 (nr_ _))
 clear RA13 KA13 RT13 KT13 RW13 KW13 RX13 KX13 RG13 KG13 B13 DM13
 have RA14:=a_ (c_ KA14.out)
 have RT14:=a_ (c_ KT14.out)
 have RW14:=a_ (c_ KW14.out)
 have RX14:=a_ (c_ KX14.out)
 have RG14:=a_ (c_ KG14.out)
 clear hb14 D13 C14
 go_upto_region 27 with fail
 have HSd:=a_ (fun V (hV:Below w14.heap.size w14 V)=>(show V.rangeAt w.heap.size 0 cs/\V.rangeAt (w.heap.size+1) 0 ct from ⟨o_ RA14.out hV KA14.out.lt,o_ RT14.out hV KT14.out.lt⟩))
 have HBd:=a_ (fun V (hV:Below w14.heap.size w14 V)=>(B14.out.trans (hV.mono B14.out.size)))
 go_cut [14,15] from 16 (fun sp sb wc=>∃ (B:Nat) (u:Nv) (lo hi:Nat),sp=.pointer (some ⟨B,0,none⟩)/\sb=.bool QB/\Blk wc B 55 (noC Q u)/\OwnNd lo hi wc Q u/\w14.heap.size<=lo/\hi<=wc.heap.size/\(B < lo\/hi<=B)/\w14.heap.size<=B/\Below w14.heap.size w14 wc)
 case first =>
  have bD:Below w14.heap.size w14 w14.drew:=(br_ _ w14).drew
  have hS0:=HSd.out _ bD
  refine wp_region_held_drew (S:=fun W=>W.rangeAt w.heap.size 0 cs/\W.rangeAt (w.heap.size+1) 0 ct) (by kernel_rfl) hS0 (fun hHeld=>?_)
  refine wpAnyH_take (i:=0) (v:=.agg cs.toArray) rfl (by kernel_rfl) (by kernel_rfl) (by kernel_rfl) (fun _ _ _ h=>h) (yieldsIf_load_mid (by rfl) 38 _ rfl w.heap.size 0 rfl cs _ (fun W hW=>hW.1) Tryz.underlying38 rfl IA.out) (by assumption) ?_
  change wpAnyH Tryz.prog _ _ _ _ _ _ (Act.put _ (some 85) _) _
  simp only [Act.put,sb_,sz_,ss_]
  refine wpAnyH_take (i:=2) (v:=.agg ct.toArray) rfl (by kernel_rfl) (by kernel_rfl) (by kernel_rfl) (fun _ _ _ h=>h) (yieldsIf_load_mid (by rfl) 40 _ rfl (w.heap.size+1) 0 rfl ct _ (fun W hW=>hW.2) Tryz.underlying40 rfl IT.out) (by assumption) ?_
  change wpAnyH Tryz.prog _ _ _ _ _ _ (Act.put _ (some 87) _) _
  simp only [Act.put,sb_,sz_,ss_]
  refine wpAnyH_ready (rs:=[1,8]) (by kernel_rfl) (by simp) ?_
  refine AllReadyH.cons rfl (fun K hK=>?_) (AllReadyH.cons rfl (fun K hK=>?_) AllReadyH.nil)
  ·skip
   go_simp
   go_wp2_with (go_at_call 7;(with_reducible refine (HT.out _ (HBd.out _ bD)).mono ?_);rintro e v0 ⟨ua,rfl,oa,hb0⟩;obtain ⟨ca,hca⟩:∃ c,noC z0 ua=c:=⟨_,rfl⟩;have ea:noV z0 ua=.agg ca.toArray:=(by rw [<- hca];rfl);rw [ea];have bc0:=bD.trans (hb0.mono bD.size);have ra:=oa.rd;have hS0:=HSd.out _ bc0)
   refine hK.out _ _ hS0 (fun hHeld=>?_)
   try simp only [Act.put,sb_,sz_,ss_]
   refine wpAnyH_ready (rs:=[3,8]) (by kernel_rfl) (by simp) ?_
   refine AllReadyH.cons rfl (fun K hK=>?_) (AllReadyH.cons rfl (fun K hK=>?_) AllReadyH.nil)
   ·skip
    go_simp
    go_wp2_with (go_at_call 8;(with_reducible refine (HTx.out v0).mono ?_);rintro e v1 ⟨rfl,hb1⟩;have bc1:=bc0.trans (hb1.mono bc0.size);have hS1:=HSd.out _ bc1;have ra1:=ra.below hb1 (nr_ _))
    refine hK.out _ _ hS1 (fun hHeld=>?_)
    try simp only [Act.put,sb_,sz_,ss_]
    refine wpAnyH_ready (rs:=[4,8]) (by kernel_rfl) (by simp) ?_
    refine AllReadyH.cons rfl (fun K hK=>?_) (AllReadyH.cons rfl (fun K hK=>?_) AllReadyH.nil)
    ·skip
     go_simp
     have CF:=a_ (HI.out ua _ (HBd.out _ bc1) ra1)
     rw [ea] at CF
     go_wp2_with (go_at_call 9;(with_reducible refine CF.out.mono ?_);rintro e v2 ⟨uF,rfl,rF,hb2⟩;obtain ⟨cF,hcF⟩:∃ c,noC Q uF=c:=⟨_,rfl⟩;have eF:noV Q uF=.agg cF.toArray:=(by rw [<- hcF];rfl);rw [eF];have bc2:=bc1.trans (hb2.mono bc1.size);have zF:=hb2.size;have hS2:=HSd.out _ bc2)
     refine hK.out _ _ hS2 (fun hHeld=>?_)
     try simp only [Act.put,sb_,sz_,ss_]
     refine wpAnyH_take (i:=5) (v:=.tuple #[.agg cF.toArray,.bool QB]) rfl (by kernel_rfl) (by kernel_rfl) (by kernel_rfl) (fun _ _ _ h=>h) (Or.inl ⟨by rfl,fun W hW=>by go_simp⟩) (by assumption) ?_
     change wpAnyH Tryz.prog _ _ _ _ _ _ (Act.put _ (some 84) _) _
     simp only [Act.put,sb_,sz_,ss_]
     refine wpAnyH_take (i:=6) (v:=.agg cF.toArray) rfl (by kernel_rfl) (by kernel_rfl) (by kernel_rfl) (fun _ _ _ h=>h) (Or.inl ⟨by rfl,fun W hW=>by go_simp⟩) (by assumption) ?_
     change wpAnyH Tryz.prog _ _ _ _ _ _ (Act.put _ (some 90) _) _
     simp only [Act.put,sb_,sz_,ss_]
     refine wpAnyH_take (i:=7) (v:=.bool QB) rfl (by kernel_rfl) (by kernel_rfl) (by kernel_rfl) (fun _ _ _ h=>h) (Or.inl ⟨by rfl,fun W hW=>by go_simp⟩) (by assumption) ?_
     change wpAnyH Tryz.prog _ _ _ _ _ _ (Act.put _ (some 91) _) _
     simp only [Act.put,sb_,sz_,ss_]
     refine wpAnyH_ready (rs:=[8]) (by kernel_rfl) (by simp) ?_
     refine AllReadyH.cons rfl (fun K hK=>?_) AllReadyH.nil
     go_simp
     have nby:Blk (v2.alloc (.cells noZ_ 55)) v2.heap.size 55 noY_:=Blk.new v2 _ _
     have bay:Below w14.heap.size w14 (v2.alloc (.cells noZ_ 55)):=bc2.alloc bc2.size _
     have bly:Below v2.heap.size v2 (v2.alloc (.cells noZ_ 55)):=(br_ _ v2).alloc (nr_ _) _
     refine hK.out _ _ (HSd.out _ bay) (fun hHeld=>?_)
     try simp only [Act.put,sb_,sz_,ss_]
     have one9:cF.toArray.all (·.oneCell')=true:=by rw [List.all_toArray,<- hcF];exact F_ rF.rd
     have inf9:(Tryz.prog.info? 55).map (·.size)=some cF.toArray.size:=by rw [List.size_toArray,<- hcF];exact Tryz.infoB
     have hlB:w14.heap.size<=v2.heap.size:=bc2.size
     have len9:(noY_:List Value).length=cF.length:=by rw [<- hcF];rfl
     have b9:Below w14.heap.size w14 ((v2.alloc (.cells noZ_ 55)).setCells (v2.heap.size) 0 cF):=bay.trans (e_ hlB _ _ _)
     have hS9:=HSd.out _ b9
     refine wpAnyH_ready (rs:=[9]) (by kernel_rfl) (by simp) ?_
     refine AllReadyH.cons rfl (fun K hK=>?_) AllReadyH.nil
     refine wp_store_mid 55 _ _ rfl (v2.heap.size) 0 cF.toArray rfl rfl (nby.there (by rw [List.size_toArray,<- hcF];rfl)) inf9 one9 ?_
     refine hK.out _ _ hS9 (fun hHeld=>?_)
     try simp only [Act.put,sb_,sz_,ss_]
     refine wpAnyH_take (i:=10) (v:=.bool QB) rfl (by kernel_rfl) (by kernel_rfl) (by kernel_rfl) (fun _ _ _ h=>h) (Or.inl ⟨by rfl,fun W hW=>by go_simp⟩) (by assumption) ?_
     change wpAnyH Tryz.prog _ _ _ _ _ _ (Act.put _ (some 15) _) _
     simp only [Act.put,sb_,sz_,ss_]
     refine wpAnyH_done (by kernel_rfl) ?_ _
     have hlo9:w14.heap.size<=v1.heap.size:=bc1.size
     have hhi9:v2.heap.size<=((v2.alloc (.cells noZ_ 55)).setCells (v2.heap.size) 0 cF).heap.size:=(bly.trans (e_ (nr_ _) _ _ _)).size
     go_wp2_with fail
     go_meet
     case rel=>exact ⟨v2.heap.size,uF,v1.heap.size,v2.heap.size,rfl,rfl,by rw [hcF];exact q_ nby len9,rF.kept (Kept.of_belowT (show Below v2.heap.size v2 ((v2.alloc (.cells noZ_ 55)).setCells v2.heap.size 0 cF) from bly.trans (e_ (nr_ _) _ _ _)) (nr_ _)),hlo9,hhi9,.inr (nr_ _),hlB,b9⟩
    ·skip
     go_simp
     have nb2z:Blk (v1.alloc (.cells noZ_ 55)) v1.heap.size 55 noY_:=Blk.new v1 _ _
     have ba2z:Below w14.heap.size w14 (v1.alloc (.cells noZ_ 55)):=bc1.alloc bc1.size _
     have bl2z:Below v1.heap.size v1 (v1.alloc (.cells noZ_ 55)):=(br_ _ v1).alloc (nr_ _) _
     refine hK.out _ _ (HSd.out _ ba2z) (fun hHeld=>?_)
     try simp only [Act.put,sb_,sz_,ss_]
     have raz:=ra1.below bl2z (nr_ _)
     refine wpAnyH_ready (rs:=[4]) (by kernel_rfl) (by simp) ?_
     refine AllReadyH.cons rfl (fun K hK=>?_) AllReadyH.nil
     go_simp
     have CF:=a_ (HI.out ua _ (HBd.out _ ba2z) raz)
     rw [ea] at CF
     go_wp2_with (go_at_call 9;(with_reducible refine CF.out.mono ?_);rintro e v2a ⟨uF,rfl,rF,hb2a⟩;obtain ⟨cF,hcF⟩:∃ c,noC Q uF=c:=⟨_,rfl⟩;have eF:noV Q uF=.agg cF.toArray:=(by rw [<- hcF];rfl);rw [eF];have bc2a:=ba2z.trans (hb2a.mono ba2z.size);have zF:=hb2a.size;have hS2a:=HSd.out _ bc2a;have nk2a:=nb2z.below hb2a nb2z.lt)
     refine hK.out _ _ hS2a (fun hHeld=>?_)
     try simp only [Act.put,sb_,sz_,ss_]
     refine wpAnyH_take (i:=5) (v:=.tuple #[.agg cF.toArray,.bool QB]) rfl (by kernel_rfl) (by kernel_rfl) (by kernel_rfl) (fun _ _ _ h=>h) (Or.inl ⟨by rfl,fun W hW=>by go_simp⟩) (by assumption) ?_
     change wpAnyH Tryz.prog _ _ _ _ _ _ (Act.put _ (some 84) _) _
     simp only [Act.put,sb_,sz_,ss_]
     refine wpAnyH_take (i:=6) (v:=.agg cF.toArray) rfl (by kernel_rfl) (by kernel_rfl) (by kernel_rfl) (fun _ _ _ h=>h) (Or.inl ⟨by rfl,fun W hW=>by go_simp⟩) (by assumption) ?_
     change wpAnyH Tryz.prog _ _ _ _ _ _ (Act.put _ (some 90) _) _
     simp only [Act.put,sb_,sz_,ss_]
     refine wpAnyH_take (i:=7) (v:=.bool QB) rfl (by kernel_rfl) (by kernel_rfl) (by kernel_rfl) (fun _ _ _ h=>h) (Or.inl ⟨by rfl,fun W hW=>by go_simp⟩) (by assumption) ?_
     change wpAnyH Tryz.prog _ _ _ _ _ _ (Act.put _ (some 91) _) _
     simp only [Act.put,sb_,sz_,ss_]
     have one9:cF.toArray.all (·.oneCell')=true:=by rw [List.all_toArray,<- hcF];exact F_ rF.rd
     have inf9:(Tryz.prog.info? 55).map (·.size)=some cF.toArray.size:=by rw [List.size_toArray,<- hcF];exact Tryz.infoB
     have hlB:w14.heap.size<=v1.heap.size:=bc1.size
     have len9:(noY_:List Value).length=cF.length:=by rw [<- hcF];rfl
     have b9:Below w14.heap.size w14 (v2a.setCells (v1.heap.size) 0 cF):=bc2a.trans (e_ hlB _ _ _)
     have hS9:=HSd.out _ b9
     refine wpAnyH_ready (rs:=[9]) (by kernel_rfl) (by simp) ?_
     refine AllReadyH.cons rfl (fun K hK=>?_) AllReadyH.nil
     refine wp_store_mid 55 _ _ rfl (v1.heap.size) 0 cF.toArray rfl rfl (nk2a.there (by rw [List.size_toArray,<- hcF];rfl)) inf9 one9 ?_
     refine hK.out _ _ hS9 (fun hHeld=>?_)
     try simp only [Act.put,sb_,sz_,ss_]
     refine wpAnyH_take (i:=10) (v:=.bool QB) rfl (by kernel_rfl) (by kernel_rfl) (by kernel_rfl) (fun _ _ _ h=>h) (Or.inl ⟨by rfl,fun W hW=>by go_simp⟩) (by assumption) ?_
     change wpAnyH Tryz.prog _ _ _ _ _ _ (Act.put _ (some 15) _) _
     simp only [Act.put,sb_,sz_,ss_]
     refine wpAnyH_done (by kernel_rfl) ?_ _
     have hBlo:v1.heap.size < (v1.alloc (.cells noZ_ 55)).heap.size:=nb2z.lt
     have hlo9:w14.heap.size<=(v1.alloc (.cells noZ_ 55)).heap.size:=ba2z.size
     have hhi9:v2a.heap.size<=(v2a.setCells (v1.heap.size) 0 cF).heap.size:=(e_ (B:=0) (Nat.zero_le _) _ _ _).size
     go_wp2_with fail
     go_meet
     case rel=>exact ⟨v1.heap.size,uF,(v1.alloc (.cells noZ_ 55)).heap.size,v2a.heap.size,rfl,rfl,by rw [hcF];exact q_ nk2a len9,rF.kept (Kept.setCs v2a 0 cF (.inl hBlo)),hlo9,hhi9,.inl hBlo,hlB,b9⟩
   ·skip
    go_simp
    have nb1z:Blk (v0.alloc (.cells noZ_ 55)) v0.heap.size 55 noY_:=Blk.new v0 _ _
    have ba1z:Below w14.heap.size w14 (v0.alloc (.cells noZ_ 55)):=bc0.alloc bc0.size _
    have bl1z:Below v0.heap.size v0 (v0.alloc (.cells noZ_ 55)):=(br_ _ v0).alloc (nr_ _) _
    refine hK.out _ _ (HSd.out _ ba1z) (fun hHeld=>?_)
    try simp only [Act.put,sb_,sz_,ss_]
    have raz:=ra.below bl1z (nr_ _)
    refine wpAnyH_ready (rs:=[3]) (by kernel_rfl) (by simp) ?_
    refine AllReadyH.cons rfl (fun K hK=>?_) AllReadyH.nil
    go_simp
    go_wp2_with (go_at_call 8;(with_reducible refine (HTx.out (v0.alloc (.cells noZ_ 55))).mono ?_);rintro e v1a ⟨rfl,hb1a⟩;have bc1a:=ba1z.trans (hb1a.mono ba1z.size);have hS1a:=HSd.out _ bc1a;have ra1a:=raz.below hb1a (nr_ _);have nk1a:=nb1z.below hb1a nb1z.lt)
    refine hK.out _ _ hS1a (fun hHeld=>?_)
    try simp only [Act.put,sb_,sz_,ss_]
    refine wpAnyH_ready (rs:=[4]) (by kernel_rfl) (by simp) ?_
    refine AllReadyH.cons rfl (fun K hK=>?_) AllReadyH.nil
    go_simp
    have CF:=a_ (HI.out ua _ (HBd.out _ bc1a) ra1a)
    rw [ea] at CF
    go_wp2_with (go_at_call 9;(with_reducible refine CF.out.mono ?_);rintro e v2a ⟨uF,rfl,rF,hb2a⟩;obtain ⟨cF,hcF⟩:∃ c,noC Q uF=c:=⟨_,rfl⟩;have eF:noV Q uF=.agg cF.toArray:=(by rw [<- hcF];rfl);rw [eF];have bc2a:=bc1a.trans (hb2a.mono bc1a.size);have zF:=hb2a.size;have hS2a:=HSd.out _ bc2a;have nk2a:=nk1a.below hb2a nk1a.lt)
    refine hK.out _ _ hS2a (fun hHeld=>?_)
    try simp only [Act.put,sb_,sz_,ss_]
    refine wpAnyH_take (i:=5) (v:=.tuple #[.agg cF.toArray,.bool QB]) rfl (by kernel_rfl) (by kernel_rfl) (by kernel_rfl) (fun _ _ _ h=>h) (Or.inl ⟨by rfl,fun W hW=>by go_simp⟩) (by assumption) ?_
    change wpAnyH Tryz.prog _ _ _ _ _ _ (Act.put _ (some 84) _) _
    simp only [Act.put,sb_,sz_,ss_]
    refine wpAnyH_take (i:=6) (v:=.agg cF.toArray) rfl (by kernel_rfl) (by kernel_rfl) (by kernel_rfl) (fun _ _ _ h=>h) (Or.inl ⟨by rfl,fun W hW=>by go_simp⟩) (by assumption) ?_
    change wpAnyH Tryz.prog _ _ _ _ _ _ (Act.put _ (some 90) _) _
    simp only [Act.put,sb_,sz_,ss_]
    refine wpAnyH_take (i:=7) (v:=.bool QB) rfl (by kernel_rfl) (by kernel_rfl) (by kernel_rfl) (fun _ _ _ h=>h) (Or.inl ⟨by rfl,fun W hW=>by go_simp⟩) (by assumption) ?_
    change wpAnyH Tryz.prog _ _ _ _ _ _ (Act.put _ (some 91) _) _
    simp only [Act.put,sb_,sz_,ss_]
    have one9:cF.toArray.all (·.oneCell')=true:=by rw [List.all_toArray,<- hcF];exact F_ rF.rd
    have inf9:(Tryz.prog.info? 55).map (·.size)=some cF.toArray.size:=by rw [List.size_toArray,<- hcF];exact Tryz.infoB
    have hlB:w14.heap.size<=v0.heap.size:=bc0.size
    have len9:(noY_:List Value).length=cF.length:=by rw [<- hcF];rfl
    have b9:Below w14.heap.size w14 (v2a.setCells (v0.heap.size) 0 cF):=bc2a.trans (e_ hlB _ _ _)
    have hS9:=HSd.out _ b9
    refine wpAnyH_ready (rs:=[9]) (by kernel_rfl) (by simp) ?_
    refine AllReadyH.cons rfl (fun K hK=>?_) AllReadyH.nil
    refine wp_store_mid 55 _ _ rfl (v0.heap.size) 0 cF.toArray rfl rfl (nk2a.there (by rw [List.size_toArray,<- hcF];rfl)) inf9 one9 ?_
    refine hK.out _ _ hS9 (fun hHeld=>?_)
    try simp only [Act.put,sb_,sz_,ss_]
    refine wpAnyH_take (i:=10) (v:=.bool QB) rfl (by kernel_rfl) (by kernel_rfl) (by kernel_rfl) (fun _ _ _ h=>h) (Or.inl ⟨by rfl,fun W hW=>by go_simp⟩) (by assumption) ?_
    change wpAnyH Tryz.prog _ _ _ _ _ _ (Act.put _ (some 15) _) _
    simp only [Act.put,sb_,sz_,ss_]
    refine wpAnyH_done (by kernel_rfl) ?_ _
    have hBlo:v0.heap.size < v1a.heap.size:=nk1a.lt
    have hlo9:w14.heap.size<=v1a.heap.size:=bc1a.size
    have hhi9:v2a.heap.size<=(v2a.setCells (v0.heap.size) 0 cF).heap.size:=(e_ (B:=0) (Nat.zero_le _) _ _ _).size
    go_wp2_with fail
    go_meet
    case rel=>exact ⟨v0.heap.size,uF,v1a.heap.size,v2a.heap.size,rfl,rfl,by rw [hcF];exact q_ nk2a len9,rF.kept (Kept.setCs v2a 0 cF (.inl hBlo)),hlo9,hhi9,.inl hBlo,hlB,b9⟩
  ·skip
   go_simp
   have nb0z:Blk (w14.alloc (.cells noZ_ 55)).drew w14.heap.size 55 noY_:=Blk.new w14 _ _
   have ba0z:Below w14.heap.size w14 (w14.alloc (.cells noZ_ 55)).drew:=((br_ _ w14).alloc (nr_ _) _).drew
   refine hK.out _ _ (HSd.out _ ba0z) (fun hHeld=>?_)
   try simp only [Act.put,sb_,sz_,ss_]
   refine wpAnyH_ready (rs:=[1]) (by kernel_rfl) (by simp) ?_
   refine AllReadyH.cons rfl (fun K hK=>?_) AllReadyH.nil
   go_simp
   go_wp2_with (go_at_call 7;(with_reducible refine (HT.out _ (HBd.out _ ba0z)).mono ?_);rintro e v0a ⟨ua,rfl,oa,hb0a⟩;obtain ⟨ca,hca⟩:∃ c,noC z0 ua=c:=⟨_,rfl⟩;have ea:noV z0 ua=.agg ca.toArray:=(by rw [<- hca];rfl);rw [ea];have bc0a:=ba0z.trans (hb0a.mono ba0z.size);have ra:=oa.rd;have hS0a:=HSd.out _ bc0a;have nk0a:=nb0z.below hb0a nb0z.lt)
   refine hK.out _ _ hS0a (fun hHeld=>?_)
   try simp only [Act.put,sb_,sz_,ss_]
   refine wpAnyH_ready (rs:=[3]) (by kernel_rfl) (by simp) ?_
   refine AllReadyH.cons rfl (fun K hK=>?_) AllReadyH.nil
   go_simp
   go_wp2_with (go_at_call 8;(with_reducible refine (HTx.out v0a).mono ?_);rintro e v1a ⟨rfl,hb1a⟩;have bc1a:=bc0a.trans (hb1a.mono bc0a.size);have hS1a:=HSd.out _ bc1a;have ra1a:=ra.below hb1a (nr_ _);have nk1a:=nk0a.below hb1a nk0a.lt)
   refine hK.out _ _ hS1a (fun hHeld=>?_)
   try simp only [Act.put,sb_,sz_,ss_]
   refine wpAnyH_ready (rs:=[4]) (by kernel_rfl) (by simp) ?_
   refine AllReadyH.cons rfl (fun K hK=>?_) AllReadyH.nil
   go_simp
   have CF:=a_ (HI.out ua _ (HBd.out _ bc1a) ra1a)
   rw [ea] at CF
   go_wp2_with (go_at_call 9;(with_reducible refine CF.out.mono ?_);rintro e v2a ⟨uF,rfl,rF,hb2a⟩;obtain ⟨cF,hcF⟩:∃ c,noC Q uF=c:=⟨_,rfl⟩;have eF:noV Q uF=.agg cF.toArray:=(by rw [<- hcF];rfl);rw [eF];have bc2a:=bc1a.trans (hb2a.mono bc1a.size);have zF:=hb2a.size;have hS2a:=HSd.out _ bc2a;have nk2a:=nk1a.below hb2a nk1a.lt)
   refine hK.out _ _ hS2a (fun hHeld=>?_)
   try simp only [Act.put,sb_,sz_,ss_]
   refine wpAnyH_take (i:=5) (v:=.tuple #[.agg cF.toArray,.bool QB]) rfl (by kernel_rfl) (by kernel_rfl) (by kernel_rfl) (fun _ _ _ h=>h) (Or.inl ⟨by rfl,fun W hW=>by go_simp⟩) (by assumption) ?_
   change wpAnyH Tryz.prog _ _ _ _ _ _ (Act.put _ (some 84) _) _
   simp only [Act.put,sb_,sz_,ss_]
   refine wpAnyH_take (i:=6) (v:=.agg cF.toArray) rfl (by kernel_rfl) (by kernel_rfl) (by kernel_rfl) (fun _ _ _ h=>h) (Or.inl ⟨by rfl,fun W hW=>by go_simp⟩) (by assumption) ?_
   change wpAnyH Tryz.prog _ _ _ _ _ _ (Act.put _ (some 90) _) _
   simp only [Act.put,sb_,sz_,ss_]
   refine wpAnyH_take (i:=7) (v:=.bool QB) rfl (by kernel_rfl) (by kernel_rfl) (by kernel_rfl) (fun _ _ _ h=>h) (Or.inl ⟨by rfl,fun W hW=>by go_simp⟩) (by assumption) ?_
   change wpAnyH Tryz.prog _ _ _ _ _ _ (Act.put _ (some 91) _) _
   simp only [Act.put,sb_,sz_,ss_]
   have one9:cF.toArray.all (·.oneCell')=true:=by rw [List.all_toArray,<- hcF];exact F_ rF.rd
   have inf9:(Tryz.prog.info? 55).map (·.size)=some cF.toArray.size:=by rw [List.size_toArray,<- hcF];exact Tryz.infoB
   have hlB:w14.heap.size<=w14.heap.size:=bD.size
   have len9:(noY_:List Value).length=cF.length:=by rw [<- hcF];rfl
   have b9:Below w14.heap.size w14 (v2a.setCells (w14.heap.size) 0 cF):=bc2a.trans (e_ hlB _ _ _)
   have hS9:=HSd.out _ b9
   refine wpAnyH_ready (rs:=[9]) (by kernel_rfl) (by simp) ?_
   refine AllReadyH.cons rfl (fun K hK=>?_) AllReadyH.nil
   refine wp_store_mid 55 _ _ rfl (w14.heap.size) 0 cF.toArray rfl rfl (nk2a.there (by rw [List.size_toArray,<- hcF];rfl)) inf9 one9 ?_
   refine hK.out _ _ hS9 (fun hHeld=>?_)
   try simp only [Act.put,sb_,sz_,ss_]
   refine wpAnyH_take (i:=10) (v:=.bool QB) rfl (by kernel_rfl) (by kernel_rfl) (by kernel_rfl) (fun _ _ _ h=>h) (Or.inl ⟨by rfl,fun W hW=>by go_simp⟩) (by assumption) ?_
   change wpAnyH Tryz.prog _ _ _ _ _ _ (Act.put _ (some 15) _) _
   simp only [Act.put,sb_,sz_,ss_]
   refine wpAnyH_done (by kernel_rfl) ?_ _
   have hBlo:w14.heap.size < v1a.heap.size:=nk1a.lt
   have hlo9:w14.heap.size<=v1a.heap.size:=bc1a.size
   have hhi9:v2a.heap.size<=(v2a.setCells (w14.heap.size) 0 cF).heap.size:=(e_ (B:=0) (Nat.zero_le _) _ _ _).size
   go_wp2_with fail
   go_meet
   case rel=>exact ⟨w14.heap.size,uF,v1a.heap.size,v2a.heap.size,rfl,rfl,by rw [hcF];exact q_ nk2a len9,rF.kept (Kept.setCs v2a 0 cF (.inl hBlo)),hlo9,hhi9,.inl hBlo,hlB,b9⟩
 clear HSd HBd
 obtain ⟨w15,rfl⟩:∃ x,x=wc:=⟨_,rfl⟩
 obtain ⟨BH,uH,loH,hiH,rfl,rfl,kk,oH,hloH,hhiH,hBoH,hBH,hb15⟩:=hcut
 have KA15:=a_ (KA14.out.below hb15 KA14.out.lt)
 have KT15:=a_ (KT14.out.below hb15 KT14.out.lt)
 have KW15:=a_ (KW14.out.below hb15 KW14.out.lt)
 have KX15:=a_ (KX14.out.below hb15 KX14.out.lt)
 have KG15:=a_ (KG14.out.below hb15 KG14.out.lt)
 have B15:=a_ (B14.out.trans (hb15.mono B14.out.size))
 have DM15:=a_ (DM14.out.below hb15 (nr_ _))
 clear RA14 KA14 RT14 KT14 RW14 KW14 RX14 KX14 RG14 KG14 B14 DM14
 have RA15:=a_ (c_ KA15.out)
 have RT15:=a_ (c_ KT15.out)
 have RW15:=a_ (c_ KW15.out)
 have RX15:=a_ (c_ KX15.out)
 have RG15:=a_ (c_ KG15.out)
 obtain ⟨cH,hcH⟩:∃ c,noC Q uH=c:=⟨_,rfl⟩
 have ecH:=a_ (show noV Q uH=.agg cH.toArray from by rw [<- hcH];rfl)
 rw [hcH] at kk
 have KH15:=a_ kk
 have IH:=a_ (show (Tryz.prog.info? 55).map (·.size)=some cH.length from by rw [<- hcH];exact Tryz.infoB)
 clear kk
 have RH15:=a_ (c_ KH15.out)
 have D15:=a_ (D14.out.trans (hb15.mono D14.out.size))
 have C16:=a_ (HEr.out uH uW w15 oH.rd (RW.out.below D15.out (nr_ _)))
 rw [ecH.out,ecW.out] at C16
 clear oH hcH hb15 D14 hloH hhiH hBoH hBH
 go_wp2_with (first
  | (refine wpList_load_mid rfl 38 _ rfl w.heap.size 0 rfl cs _ RA15.out Tryz.underlying38 rfl IA.out ?_)
  | (refine wpList_load_mid rfl 40 _ rfl (w.heap.size+1) 0 rfl ct _ RT15.out Tryz.underlying40 rfl IT.out ?_)
  | (refine wpList_load_mid rfl 55 _ rfl BW 0 rfl cW _ RW15.out Tryz.underlying55 rfl IW.out ?_)
  | (refine wpList_load_mid rfl 55 _ rfl w5.heap.size 0 rfl cX _ RX15.out Tryz.underlying55 rfl IX.out ?_)
  | (refine wpList_load_mid rfl 55 _ rfl BG 0 rfl cG _ RG15.out Tryz.underlying55 rfl IG.out ?_)
  | (refine wpList_load_mid rfl 55 _ rfl BH 0 rfl cH _ RH15.out Tryz.underlying55 rfl IH.out ?_)
  | fail)
 refine C16.out.mono ?_
 rintro e w16 ⟨rfl,hb16⟩
 have KA16:=a_ (KA15.out.below hb16 KA15.out.lt)
 have KT16:=a_ (KT15.out.below hb16 KT15.out.lt)
 have KW16:=a_ (KW15.out.below hb16 KW15.out.lt)
 have KX16:=a_ (KX15.out.below hb16 KX15.out.lt)
 have KG16:=a_ (KG15.out.below hb16 KG15.out.lt)
 have KH16:=a_ (KH15.out.below hb16 KH15.out.lt)
 have B16:=a_ (B15.out.trans (hb16.mono B15.out.size))
 have DM16:=a_ (DM15.out.below hb16 (nr_ _))
 clear RA15 KA15 RT15 KT15 RW15 KW15 RX15 KX15 RG15 KG15 RH15 KH15 B15 DM15
 have RA16:=a_ (c_ KA16.out)
 have RT16:=a_ (c_ KT16.out)
 have RW16:=a_ (c_ KW16.out)
 have RX16:=a_ (c_ KX16.out)
 have RG16:=a_ (c_ KG16.out)
 have RH16:=a_ (c_ KH16.out)
 clear hb16 D15 C16
 have C17:=a_ (HHr.out uG w16 DM16.out)
 rw [ecG.out] at C17
 go_wp2_with (first
  | (refine wpList_load_mid rfl 38 _ rfl w.heap.size 0 rfl cs _ RA16.out Tryz.underlying38 rfl IA.out ?_)
  | (refine wpList_load_mid rfl 40 _ rfl (w.heap.size+1) 0 rfl ct _ RT16.out Tryz.underlying40 rfl IT.out ?_)
  | (refine wpList_load_mid rfl 55 _ rfl BW 0 rfl cW _ RW16.out Tryz.underlying55 rfl IW.out ?_)
  | (refine wpList_load_mid rfl 55 _ rfl w5.heap.size 0 rfl cX _ RX16.out Tryz.underlying55 rfl IX.out ?_)
  | (refine wpList_load_mid rfl 55 _ rfl BG 0 rfl cG _ RG16.out Tryz.underlying55 rfl IG.out ?_)
  | (refine wpList_load_mid rfl 55 _ rfl BH 0 rfl cH _ RH16.out Tryz.underlying55 rfl IH.out ?_)
  | fail)
 refine C17.out.mono ?_
 rintro e w17 ⟨rfl,hb17⟩
 have B17:=a_ (B16.out.trans (hb17.mono B16.out.size))
 clear hb17
 go_wp2
 go_ret
 exact ⟨rfl,B17.out⟩
theorem cj_ (os:Os) (args:Array Value):laidMetH Tryz.prog Rows.fnExactSubmitRow.laid ((sentOn (World.holding Tryz.prog os ⟨#[.cells #[.string cannotS] 268],#[],[]⟩) (World.holding Tryz.prog default ⟨#[],#[],[]⟩).heap.size).forCall (fun _ _=>0) ⟨#[],args,[]⟩).memory:=by
 rw [MakeChecks.laidMetH_plain _ _ _ (by kernel_rfl)]
 exact laidMet_of_run (ps:=[.cell 0 0,.cell (World.holding Tryz.prog default ⟨#[],#[],[]⟩).heap.size 0]) 8 (by kernel_rfl) (by kernel_rfl) (by kernel_rfl)
theorem ay_ {H : Type} (enc : TypeId × Value → H) {W : World} {x0 : Value} (h0 : W.var? Tryz.prog "loop.example/g00194/impl.errCannot" = some #[x0]) (i0 : IsIface x0) (sp : Nat → Bool) :
  DataW.TrodVars enc Tryz.prog W sp ["loop.example/g00194/impl.errCannot"] [tok enc x0] [.cell 0 0] :=
 ⟨0,189,#[x0],1,[],[],Tryz.gEb,Tryz.gEbType,h0,trod_held Tryz.underlying189 i0 0,rfl,rfl⟩
theorem bv_ (os:Os) (started:os.Started) (H:Type) (enc:TypeId × Value->H) :
  ReturnsInHanded {} Tryz.checked os 3 .any (fun w args=>(Rows.fnExactSubmitSpec.pre enc Tryz.prog Tryz.f3 [] false w args/\laidMetH Tryz.prog Rows.fnExactSubmitRow.laid w)/\sizedMet enc Tryz.prog Tryz.f3 (OpenSpec.ofChange Rows.fnExactSubmitSpec) false w args)
   (Rows.fnExactSubmitSpec.post enc Tryz.prog Tryz.f3 false true false false):=by
 refine returnsInHanded_of_change_and (C:=Tryz.checked) (X:=fun w _=>laidMetH Tryz.prog Rows.fnExactSubmitRow.laid w) (fun _ _ _ hh h=>h.of_heap hh) fnExactSubmit_own started (by kernel_rfl) Tryz.func3
  (ChangeSpec.witness_at (enc:=enc) (C:=Tryz.checked) (os:=os) (X:=fun w _=>laidMetH Tryz.prog Rows.fnExactSubmitRow.laid w) false (sentOn (World.holding Tryz.prog os ⟨#[.cells #[.string cannotS] 268],#[],[]⟩) (World.holding Tryz.prog default ⟨#[],#[],[]⟩).heap.size) #[.agg #[.string ByteArray.empty,.int .i64 0,.int .i64 0,.slice none 0 0,.slice none 0 0,.slice none 0 0,.int .i64 0,.int .i64 0,.int .i64 0,.int .i64 0,.slice none 0 0,.int .i64 0,.slice none 0 0,.slice none 0 0,.int .i64 0,.slice none 0 0,.slice none 0 0,.slice none 0 0,.slice none 0 0,.slice none 0 0],.agg #[.int .i64 0,.string ByteArray.empty,.string ByteArray.empty,.int .i64 0,.int .i64 0]] 8 rfl (by kernel_rfl) (by kernel_rfl) (by kernel_rfl) (by kernel_rfl) (by kernel_rfl) (cj_ os _)) ?_
 intro W base args ds gs before hval0 hW _ _ hL0 _
 have hL:laidMet Tryz.prog Rows.fnExactSubmitRow.laid W:=by rw [MakeChecks.laidMetH_plain _ _ _ (by kernel_rfl)] at hL0;exact hL0
 have hval:∀ (j:Nat) t v,Tryz.f3.params[j]?=some t->args[j]?=some v->Value.okWide Tryz.prog W .any base t v:=hval0
 have hW':=hW
 obtain ⟨p,q,hA0,hV0,rfl,hfz,hnd⟩:=hW
 have hV : DataW.TrodVars enc Tryz.prog W (fun _ => true) ["loop.example/g00194/impl.errCannot"] gs q := hV0
 obtain ⟨b0,s0,hv0,hc0,hs0,hz0⟩:=laid_sentinel hL Tryz.gEb Tryz.gEbType Tryz.underlying189 Tryz.rowEb Tryz.underlying245 Tryz.underlying268 rfl rfl Tryz.underlying9 Tryz.cellsEs Tryz.cellsStr
 obtain ⟨rfl,rfl⟩:=hV.unique (ay_ enc hv0 trivial _)
 have hge:Gc W b0:=by unfold Gc errV;simpa using World.var?_cell Tryz.gEb hv0 0
 have hG:0 < W.heap.size:=by
  rcases Nat.lt_or_ge 0 W.heap.size with h | h
  ·exact h
  ·unfold Gc at hge;simp [World.cell?,Array.getElem?_eq_none h] at hge
 have hA:DataW.TrodAll enc Tryz.prog W 0 (fun _=>true) true Tryz.f3.params.toList args.toList ds p:=hA0
 rw [Tryz.params3] at hA hval
 obtain ⟨v0,vs0,d0,ds0,p0,q0,hargs,rfl,rfl,h0,r0⟩:=trodAll_cons hA
 obtain ⟨v1,vs1,d1,ds1,p1,q1,rfl,rfl,rfl,h1,r1⟩:=trodAll_cons r0
 obtain ⟨rfl,rfl,rfl⟩:=trodAll_nil r1
 obtain rfl:args=#[v0,v1]:=by cases args;simp_all
 have k0:=h0
 have lt0:∀ x ∈ p0,x.block < W.heap.size:=by obtain ⟨m,hm⟩:=k0;exact DataW.trod_lt m _ _ _ hm
 obtain ⟨z0,y0,rfl,w0⟩:∃ (m:Nd) (v:Nv),v0=noV m v/\RdNd W m v/\FitNd m:=by
  obtain ⟨cs,rfl,hsz⟩:=okWide_struct Tryz.underlying38 (hval 0 38 _ rfl rfl)
  obtain ⟨fuel,hf⟩:=h0
  obtain ⟨m,v,q,rest⟩:=ki_ (by simpa [Value.cells] using hf)
  exact ⟨m,v,by cases cs;simp at q;subst q;rfl,rest⟩
 have k1:=h1
 have lt1:∀ x ∈ p1,x.block < W.heap.size:=by obtain ⟨m,hm⟩:=k1;exact DataW.trod_lt m _ _ _ hm
 obtain ⟨z1,rfl,w1⟩:∃ t:Tx5,v1=txV t/\t.2.1.size<=maxLen/\t.2.2.1.size<=maxLen/\(Lit.int .i64 t.1).wf=true/\(Lit.int .i64 t.2.2.2.1).wf=true/\(Lit.int .i64 t.2.2.2.2).wf=true:=by
  obtain ⟨cs,rfl,hsz⟩:=okWide_struct Tryz.underlying40 (hval 1 40 _ rfl rfl)
  obtain ⟨fuel,hf⟩:=h1
  obtain ⟨t,e,r⟩:=ed_ (by simpa [Value.cells] using hf)
  exact ⟨t,by cases cs;simp at e;subst e;rfl,r⟩
 clear hA0 hval0
 refine (bN_ z0 y0 z1 W b0 hge hG w0 w1).mono fun e W' ⟨he,bel⟩=>?_
 subst he
 exact ⟨_,rfl,_,_,_,[],_,[.cell 0 0],hW',trodAll_mk1 (shut_bool Tryz.underlying4 _),(trodAll_cons_mk (Below.trod fnExactSubmit_laidOut (by kernel_rfl) (of_decide_eq_true (by kernel_rfl)) k0 bel lt0) (trodAll_cons_mk (Below.trod fnExactSubmit_laidOut (by kernel_rfl) (of_decide_eq_true (by kernel_rfl)) k1 bel lt1) trodAll_mk0)),ay_ enc (hx_ hv0 bel hG) trivial _,bel.frame _,fun h=>by cases h⟩
theorem fnExactSubmit_holds:Rows.FnExactSubmitSaid :=
 OpenClaim.holds_of_wide 3 Tryz.f3 rfl rfl rfl rfl rfl rfl rfl ⟨rfl,rfl,rfl,rfl,rfl⟩ rfl rfl rfl rfl rfl (by kernel_rfl) Tryz.func3 (by kernel_rfl)
  (of_decide_eq_true (by kernel_rfl)) (by unfold Func.isWrapper;first | (rw [if_pos (by decide +kernel)];kernel_rfl) | (rw [if_neg (by decide +kernel)];exact ⟨rfl,rfl⟩))
  (fun os started H enc _=>bv_ os started H enc)
theorem fnExactSubmit_card:Rows.FnExactSubmitCardSaid :=
 Claim7.holds_tied_plain_at .later [] [.sentinel] true Rows.fnExactSubmitCard.stood.harness false
  fnExactSubmit_holds (fun _ h=>by cases h) (by kernel_rfl) (fun _ h=>by cases h) fnExactSubmit_row_tie rfl ⟨rfl,rfl⟩ (by kernel_rfl) rfl
  (fun f fn hf hfn=>by
   obtain rfl:f=3:=Option.some.inj ((show Tryz.prog.funcNamed Rows.fnExactSubmitRow.func=some 3 by kernel_rfl).symm.trans hf) |>.symm
   obtain rfl:fn=Tryz.f3:=(Option.some.inj (Tryz.func3.symm.trans hfn)).symm
   exact ⟨by kernel_rfl,fun j t ht=>by
    rw [Tryz.params3] at ht
    have hm:t ∈ [38,40]:=by simpa using Array.mem_of_getElem? ht
    have hall:([38,40].all fun u=>!Tryz.prog.wantsStandIn u)=true:=by kernel_rfl
    exact (show Tryz.prog.wantsStandIn t=false by simpa using List.all_eq_true.1 hall t hm)⟩)
  (by kernel_rfl)
end Go.Proofs.YtamljhcmiphdgaaGreatDoor
