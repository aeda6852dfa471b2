/- The walk of the law FnLedgers. -/
import Derived.LaidMore
import Derived.OpenVars
import Derived.Lib.LaidU8
import Derived.Stop.Joined
import Derived.LaidLaws
import Derived.LaidHandle
import Derived.Test.YtohachldbpejpaaGreatDoorZlBdFact
import Derived.Test.YtohachldbpejpaaGreatDoorZlKsAt
import Derived.Below
set_option maxRecDepth 20000
set_option maxHeartbeats 8000000
namespace Go.Proofs.YtohachldbpejpaaGreatDoor
open Go.ChangeShapes Go.WideShapes Go.ChangeAt Go.RowKit
set_option linter.unusedVariables false
theorem Tryz.gStart : Tryz.prog.globalNamed "loop.example/g00194/impl.shaStart" = some 1 := by kernel_rfl
theorem Tryz.gConsts : Tryz.prog.globalNamed "loop.example/g00194/impl.shaConstants" = some 2 := by kernel_rfl
theorem Tryz.tStart:(Tryz.prog.globals[1]?).map (·.type)=some 256:=by kernel_rfl
theorem Tryz.tConsts:(Tryz.prog.globals[2]?).map (·.type)=some 288:=by kernel_rfl
theorem Tryz.cellsU32:Tryz.prog.cellsOf 255=1:=by kernel_rfl
def litU (n:Nat):DataW Unit:=.lit (.int .u32 (n:Int))
theorem laid_start:(Rows.laid_loop_example_g00194_impl_shaStart:DataW Unit)=.agg (hC.list.map litU):=rfl
theorem laid_consts:(Rows.laid_loop_example_g00194_impl_shaConstants:DataW Unit)=.agg (kC.map litU):=rfl
theorem arr_cell {W:World} {fuel n:Nat} {t:TypeId} {cs:List Value} {L:List Nat} {p:List MemPlace} {sp:Nat->Bool} (ht:Tryz.prog.underlying t=some (.array n 255))
    (hd:DataW.trod (fun _=>()) Tryz.prog W 0 sp false fuel t cs=some (.agg (L.map litU),p)) (j:Nat) (hj:j < n) (hjL:j < L.length):cs[j]?=some (.int .u32 (L[j]:Int)):=by
  obtain ⟨f',d,q,e1,e2⟩:=Lib.array_elem ht hd j hj
  rw [Tryz.cellsU32,Nat.mul_one] at e2
  obtain ⟨k,c1,c2,_⟩:=DataW.trod_int Tryz.underlying255 e2
  have hdk:d=.lit (.int .u32 k):=by simpa using congrArg Prod.fst c2
  have hk:k=(L[j]:Int):=by
    rw [hdk] at e1
    simp [hjL,litU] at e1
    exact e1.symm
  have hg:((cs.drop j).take 1)[0]?=some (.int .u32 k):=by rw [c1];rfl
  rw [List.getElem?_take_of_lt (by omega),List.getElem?_drop,Nat.add_zero] at hg
  rw [hg,hk]
theorem block_lt {W:World} {g:Nat} {v:Value} (h:W.cell? ⟨g,0,none⟩=some v):g < W.heap.size:=by
  rcases Nat.lt_or_ge g W.heap.size with h1 | h1
  · exact h1
  · simp [World.cell?,Array.getElem?_eq_none h1] at h
theorem gl_of_reads {W : World} (h0 : Lib.VarReads Tryz.prog W "loop.example/g00194/impl.shaStart" Rows.laid_loop_example_g00194_impl_shaStart) (h1 : Lib.VarReads Tryz.prog W "loop.example/g00194/impl.shaConstants" Rows.laid_loop_example_g00194_impl_shaConstants) : Gl W := by
  obtain ⟨g0,t0,cs0,f0,p0,hg0,ht0,hv0,hd0⟩:=h0
  obtain ⟨g1,t1,cs1,f1,p1,hg1,ht1,hv1,hd1⟩:=h1
  obtain rfl:=Option.some.inj (Tryz.gStart.symm.trans hg0)
  obtain rfl:=Option.some.inj (Tryz.gConsts.symm.trans hg1)
  obtain rfl:=Option.some.inj (Tryz.tStart.symm.trans ht0)
  obtain rfl:=Option.some.inj (Tryz.tConsts.symm.trans ht1)
  rw [laid_start] at hd0
  rw [laid_consts] at hd1
  have a0:W.rangeAt 1 0 (hC.list.map uv):=by
    intro j v hv
    have hj:j < hC.list.length:=by have:=(List.getElem?_eq_some_iff.1 hv).1;simpa using this
    rw [Nat.zero_add,World.var?_cell Tryz.gStart hv0 j]
    have:=arr_cell Tryz.underlying256 hd0 j hj hj
    rw [Array.getElem?_toList] at this
    rw [this]
    simp [hj,uv] at hv
    rw [<- hv]
  have a1:W.rangeAt 2 0 (kC.map uv):=by
    intro j v hv
    have hj:j < kC.length:=by have:=(List.getElem?_eq_some_iff.1 hv).1;simpa using this
    rw [Nat.zero_add,World.var?_cell Tryz.gConsts hv1 j]
    have:=arr_cell Tryz.underlying288 hd1 j hj hj
    rw [Array.getElem?_toList] at this
    rw [this]
    simp [hj,uv] at hv
    rw [<- hv]
  exact ⟨a0,a1,block_lt (a0 0 (uv hC.a) rfl),block_lt (a1 0 (uv 1116352408) rfl)⟩
end Go.Proofs.YtohachldbpejpaaGreatDoor
namespace Go.Proofs.YtohachldbpejpaaGreatDoor
open Go.ChangeShapes Go.WideShapes Go.RowKit
set_option linter.unusedVariables false
theorem Tryz.et : Tryz.prog.globalNamed "errors.errorType" = some 0 := by kernel_rfl
theorem Tryz.rt : (Tryz.prog.cutTypes.find? (·.1 == "internal/reflectlite.rtype")).map (·.2) = some 239 := by kernel_rfl
theorem Tryz.oneRow:((List.range 359).filter fun t=>Tryz.prog.rowNamed t [101,114,114,111,114])=[96]:=by kernel_rfl
theorem Tryz.nTypes:Tryz.prog.types.size=359:=by kernel_rfl
theorem gh_of_handles {W : World} (h : handlesMet Tryz.prog [("errors.errorType", Rows.laid_errors_errorType)] W) : Gh W := by
  obtain ⟨name,u,ty,e1,e2,e3,e4,e5⟩:=h _ (List.mem_singleton.2 rfl)
  have en:name=[101,114,114,111,114]:=(Option.some.inj e1).symm
  subst en
  obtain rfl:=Option.some.inj (Tryz.rt.symm.trans e2)
  have hm:ty ∈ (List.range 359).filter fun t=>Tryz.prog.rowNamed t [101,114,114,111,114]:=List.mem_filter.2 ⟨List.mem_range.2 (by rw [<- Tryz.nTypes];exact e3),e4⟩
  rw [Tryz.oneRow] at hm
  obtain rfl:=List.mem_singleton.1 hm
  have hh:typeHandle Tryz.prog 96=.pointer (some ⟨3,96,none⟩):=by kernel_rfl
  rw [hh] at e5
  unfold Gh
  simpa using World.var?_cell Tryz.et e5 0
def handPut:Obj->Obj
  | .cells _ t frozen=>.cells #[.iface 239 (.agg #[.pointer (some ⟨3,96,none⟩)])] t frozen
  | o=>o
def laidOn (w0:World):World:={ w0 with heap:=w0.heap.modify 0 handPut }
end Go.Proofs.YtohachldbpejpaaGreatDoor
namespace Go.Proofs.YtohachldbpejpaaGreatDoor
open Go.ChangeShapes Go.WideShapes Go.ChangeAt Go.RowKit
set_option linter.unusedVariables false
theorem fnLedgers_walk (a0:Option Addr) (len0 cap0:Nat) (z0:List Int) (w:World) (hgl:Gl w) (hgh:Gh w) (w0:IsRow .u8 w a0 len0 cap0 z0) :
    Calls Tryz.prog 5 #[.slice a0 len0 cap0] w fun e w'=>e=.returned (.bool true)/\Below w.heap.size w w':=by
  obtain ⟨cd,rfl,hr⟩:=w0.rd
  clear w0
  have hcap:cd.length<=9223372036854775807:=by
    rcases hr with ⟨_,_,_,e,_⟩ | ⟨_,_,cap,_,_,h1,h2,_⟩
    · subst e;simp
    · unfold maxLen at h2;omega
  have Hbig:=hide (big_any _ cd w hr hcap)
  by_cases hbig:1048576 < cd.length
  · rw [decide_eq_true hbig] at Hbig
    clear hr hgh hgl
    go_enter Tryz.func5,Tryz.ntmps5
    go_wp2_with fail
    refine Hbig.out.mono ?_
    rintro e w' ⟨rfl,rfl⟩
    go_wp2
    go_ret
    exact ⟨rfl,Below.refl _ _⟩
  rw [decide_eq_false hbig] at Hbig
  have Hd:=hide (drawLedgerAt_any w _ cd hr (by omega))
  have Hgh:=hide hgh
  have Hgl:=hide hgl
  clear hr hgh hgl
  go_enter Tryz.func5,Tryz.ntmps5
  go_wp2_with fail
  refine Hbig.out.mono ?_
  rintro e w ⟨rfl,rfl⟩
  go_wp2_with fail
  refine Hd.out.mono ?_
  rintro en w2 ⟨e,u,z,v,l,id,rfl,hrl,hfw,hrk,htb,hl9,hdt,hB2⟩
  obtain ⟨au,cu,rfl⟩:=hrl.shape
  obtain ⟨al,cl,rfl⟩:=hrk.shape
  have few:=few_fit hfw
  have hFew:∀ b ∈ l,FewK b:=fun x hx=>(hdt x hx).few
  have hBd:∀ b ∈ l,-9223372036854775808<=b.tr/\b.tr<=9223372036854775807:=fun x hx=>by rw [(hdt x hx).tr];omega
  have HLA:=hide (fun id V (hg:Gh V) (h1:RdA V (.slice au z.length cu) z) (h2:RdKs V (.slice al l.length cl) l)=>implLedgerAt_any e _ _ z l id V hg h1 h2 few.1 few.2 (by omega) hFew hBd)
  have HSA:=hide (fun V (h1:RdA V (.slice au z.length cu) z) (h2:RdKs V (.slice al l.length cl) l)=>specLedgerAt_any e _ _ z l id V h1 h2 few.1 few.2 (by omega) hFew hBd)
  have HBA:=hide (fun V (h2:RdKs V (.slice al l.length cl) l)=>implBlockAt_any _ l id V h2 (by omega) hFew)
  have HTO:=hide (fun V (h2:RdKs V (.slice al l.length cl) l)=>implTreeOk_any _ l V h2 (by omega) hFew hBd)
  have hfA:=laA_few (e:=e) l id few.1 few.2
  have HWX:=hide (fun v V (h1:RdA V v (laA e z l id).1)=>implWealth_any v _ V h1 (by omega) (fun a ha=>by have:=hfA.2 a ha;omega))
  have HWZ:=hide (fun v V (h1:RdA V v z)=>implWealth_any v z V h1 (by have:=few.1;omega) (fun a ha=>by have:=few.2 a ha;omega))
  rw [la_wealth] at HWX
  have HSR:=hide (fun v V (hg:Gl V) (h1:RdA V v (laA e z l id).1)=>implStateRoot_any e v _ V h1 (by omega) (fun a ha=>by have:=hfA.2 a ha;exact ⟨this.1,by omega⟩) hg)
  have Hthere:=hide (la_there e z l id)
  have Hsame:=hide (fun h=>la_same (e:=e) (z:=z) (l:=l) (id:=id) h)
  have Hstep:=hide (fun h hn=>la_step (e:=e) (z:=z) (l:=l) (id:=id) h hn)
  rw [htb] at HTO
  rw [htb,Bool.and_true] at Hthere
  simp only [lgV] at HLA HSA HSR ⊢
  obtain ⟨w3,hw3⟩:∃ x,w2.alloc (.cells #[.int .i64 e,.slice au z.length cu] 26)=x:=⟨_,rfl⟩
  have b3:Below w2.heap.size w2 w3:=by rw [<- hw3];exact (Below.refl _ w2).alloc (Nat.le_refl _) _
  have k3:Blk w3 w2.heap.size 26 [.int .i64 e,.slice au z.length cu]:=by rw [<- hw3];exact Blk.new w2 _ _
  have HB3:=hide (hB2.trans (b3.mono hB2.size))
  have Hra:=hide (fun V (hV:Below w3.heap.size w3 V)=>(hrl.below b3 (Nat.le_refl _)).below hV (Nat.le_refl _))
  have Hrk:=hide (fun V (hV:Below w3.heap.size w3 V)=>(hrk.below b3 (Nat.le_refl _)).below hV (Nat.le_refl _))
  have HK:=hide (fun V (hV:Below w3.heap.size w3 V)=>k3.below hV k3.lt)
  have Hg3:=hide (fun V (hV:Below w3.heap.size w3 V)=>Hgh.out.below (HB3.out.trans (hV.mono HB3.out.size)))
  have Hl3:=hide (fun V (hV:Below w3.heap.size w3 V)=>Hgl.out.below (HB3.out.trans (hV.mono HB3.out.size)) (Nat.le_refl _))
  have c0:=k3.cell 0
  have c1:=k3.cell 1
  simp only [List.getElem?_cons_zero,List.getElem?_cons_succ] at c0 c1
  have HfA:=hide hfA
  have Hfew:=hide few
  have HFew:=hide hFew
  clear hrl hrk b3 k3 hB2 few hfw hfA hFew hBd hdt htb
  go_wp2_with fail
  refine (HLA.out id w3 (Hg3.out w3 (Below.refl _ _)) (Hra.out w3 (Below.refl _ _)) (Hrk.out w3 (Below.refl _ _))).mono ?_
  rintro en w4 ⟨v4,rfl,o4,hb4⟩
  have hAl:=HfA.out.1
  generalize (laA e z l id).1=A at o4 HWX HSR HfA Hsame Hstep hAl HSA
  generalize (laA e z l id).2=ok at Hthere Hsame Hstep HSA ⊢
  obtain ⟨a4,c4,rfl⟩:=o4.rd.shape
  obtain ⟨w5,hw5⟩:∃ x,w4.alloc (.cells #[.int .i64 e,.slice a4 A.length c4] 26)=x:=⟨_,rfl⟩
  have b5:Below w4.heap.size w4 w5:=by rw [<- hw5];exact (Below.refl _ w4).alloc (Nat.le_refl _) _
  have k5:Blk w5 w4.heap.size 26 [.int .i64 e,.slice a4 A.length c4]:=by rw [<- hw5];exact Blk.new w4 _ _
  have b35:=hb4.trans (b5.mono hb4.size)
  have B5:=hide b35
  have HX:=hide (fun V (hV:Below w5.heap.size w5 V)=>(o4.rd.below b5 (Nat.le_refl _)).below hV (Nat.le_refl _))
  have HKX:=hide (fun V (hV:Below w5.heap.size w5 V)=>k5.below hV k5.lt)
  have H35:=hide (fun V (hV:Below w5.heap.size w5 V)=>b35.trans (hV.mono b35.size))
  clear c0 c1 o4 hb4 b5 k5 b35 hw3
  go_wp2_with fail
  (try rw [hw5])
  refine (HBA.out w5 (Hrk.out w5 B5.out)).mono ?_
  rintro en w6 ⟨bv,rfl,o6,-,hb6⟩
  obtain ⟨aq,cq,aw,cw,ah,ch,at_,ct,an,cn,rfl⟩:=o6.rd.shapes9
  have hbk:=o6.rd
  have ht6:RdT w6 (.slice at_ (baK l id).ts.length ct) (baK l id).ts:=o6.t.rd
  have Hba:=hide (fun k (hk:k < l.length) (h:atI l id=(k:Int))=>baK_yes hk h)
  generalize baK l id=b at ht6 Hba
  generalize decide (0<=atI l id)=th at Hthere
  obtain ⟨bid,bep,brd,bmd,bqr,bqb,bqw,btr,btw,bth,bts,ben,bnx,brt⟩:=b
  simp only [bkV] at ht6 ⊢
  obtain ⟨w7,hw7⟩:∃ x,w6.alloc (.cells #[.int .i64 bid,.int .i64 bep,.int .i64 brd,.string bmd,.int .i64 bqr,.int .i64 bqb,.slice aq bqw.length cq,.int .i64 btr,.slice aw btw.length cw,.slice ah bth.length ch,.slice at_ bts.length ct,.bool ben,.slice an bnx.length cn,.string brt] 50)=x:=⟨_,rfl⟩
  have b7:Below w6.heap.size w6 w7:=by rw [<- hw7];exact (Below.refl _ w6).alloc (Nat.le_refl _) _
  have k7:Blk w7 w6.heap.size 50 [.int .i64 bid,.int .i64 bep,.int .i64 brd,.string bmd,.int .i64 bqr,.int .i64 bqb,.slice aq bqw.length cq,.int .i64 btr,.slice aw btw.length cw,.slice ah bth.length ch,.slice at_ bts.length ct,.bool ben,.slice an bnx.length cn,.string brt]:=by rw [<- hw7];exact Blk.new w6 _ _
  have b57:=hb6.trans (b7.mono hb6.size)
  have B7:=hide b57
  have HT7:=hide (fun V (hV:Below w7.heap.size w7 V)=>(ht6.below b7 (Nat.le_refl _)).below hV (Nat.le_refl _))
  have HKB:=hide (fun V (hV:Below w7.heap.size w7 V)=>k7.below hV k7.lt)
  have H57:=hide (fun V (hV:Below w7.heap.size w7 V)=>b57.trans (hV.mono b57.size))
  have kg:=HK.out w7 (H35.out w7 b57)
  have c0:=kg.cell 0
  have c1:=kg.cell 1
  simp only [List.getElem?_cons_zero,List.getElem?_cons_succ] at c0 c1
  clear o6 hbk ht6 hb6 b7 k7 b57 hw5 kg
  go_wp2_with fail
  (try rw [hw7])
  refine (HSA.out w7 (Hra.out w7 (H35.out w7 B7.out)) (Hrk.out w7 (H35.out w7 B7.out))).mono ?_
  rintro en w8 ⟨v8,rfl,o8,hb8⟩
  obtain ⟨a8,c8,rfl⟩:=o8.rd.shape
  obtain ⟨w9,hw9⟩:∃ x,w8.alloc (.cells #[.int .i64 e,.slice a8 A.length c8] 26)=x:=⟨_,rfl⟩
  have b9:Below w8.heap.size w8 w9:=by rw [<- hw9];exact (Below.refl _ w8).alloc (Nat.le_refl _) _
  have b79:=hb8.trans (b9.mono hb8.size)
  have B79:=hide b79
  clear c0 c1 o8 hb8 b9 b79 hw7
  have hb59:=H57.out w9 B79.out
  have hb39:=H35.out w9 hb59
  go_upto_region 7 with fail
  (try rw [hw9])
  go_cut [68] from 44 (fun bv wc=>bv=.bool false/\Below w9.heap.size w9 wc)
  case first =>
    have x1:=(HKX.out w9 hb59).cell 1
    have g1:=(HK.out w9 hb39).cell 1
    simp only [List.getElem?_cons_zero,List.getElem?_cons_succ] at x1 g1
    have e1:=cell_regrown x1
    have e2:=cell_regrown g1
    have HQ1:=hide (fun d os=>Calls.regrown_of (HWX.out (.slice a4 A.length c4) (Sort.grow (redrawn w9 d) os) ((HX.out w9 hb59).below (below_regrown w9 d os) (Nat.le_refl _))))
    have HQ2:=hide (fun d os=>Calls.regrown_of (HWZ.out (.slice au z.length cu) (Sort.grow (redrawn w9 d) os) ((Hra.out w9 hb39).below (below_regrown w9 d os) (Nat.le_refl _))))
    have HQ3:=hide (fun d os=>Calls.regrown_of (HTO.out (Sort.grow (redrawn w9 d) os) ((Hrk.out w9 hb39).below (below_regrown w9 d os) (Nat.le_refl _))))
    clear x1 g1
    by_cases hid:id=-1
    · have hok1:ok=true:=by rw [Hthere.out,hid];rfl
      subst hid
      subst hok1
      refine wp_region_quiet_below (by kernel_rfl) (by kernel_rfl) ?_
      repeat (go_big_quiet_step ((first | (go_at_call 24;with_reducible exact HQ3.out _ _) | (go_at_call 13;first | with_reducible exact HQ1.out _ _ | with_reducible exact HQ2.out _ _))))
      refine wpQuiet_nil ?_
      intro _ hw'
      obtain ⟨⟨dq,osq⟩,hw''⟩:=hw'
      subst hw''
      have bq:=below_regrown w9 dq osq
      go_wp2
      go_meet
      exact ⟨by first | rfl | simp,bq⟩
    · have hok1:ok=th:=by rw [Hthere.out,decide_eq_false hid];rfl
      have hdi:decide (id=-1)=false:=decide_eq_false hid
      have hdb:(id == -1)=false:=beq_eq_false_iff_ne.2 hid
      subst hok1
      cases ok
      · refine wp_region_quiet_below (by kernel_rfl) (by kernel_rfl) ?_
        repeat (go_big_quiet_step ((first | (go_at_call 24;with_reducible exact HQ3.out _ _) | (go_at_call 13;first | with_reducible exact HQ1.out _ _ | with_reducible exact HQ2.out _ _))))
        refine wpQuiet_nil ?_
        intro _ hw'
        obtain ⟨⟨dq,osq⟩,hw''⟩:=hw'
        subst hw''
        have bq:=below_regrown w9 dq osq
        go_wp2
        go_meet
        exact ⟨by first | rfl | simp,bq⟩
      · refine wp_region_quiet_below (by kernel_rfl) (by kernel_rfl) ?_
        repeat (go_big_quiet_step ((first | (go_at_call 24;with_reducible exact HQ3.out _ _) | (go_at_call 13;first | with_reducible exact HQ1.out _ _ | with_reducible exact HQ2.out _ _))))
        refine wpQuiet_nil ?_
        intro _ hw'
        obtain ⟨⟨dq,osq⟩,hw''⟩:=hw'
        subst hw''
        have bq:=below_regrown w9 dq osq
        go_wp2
        go_meet
        exact ⟨by first | rfl | simp,bq⟩
  case rest =>
  obtain ⟨rfl,hbc⟩:=hcut
  obtain ⟨wd,hwd⟩:∃ x,x=wc:=⟨_,rfl⟩
  subst hwd
  have hb9d:Below w7.heap.size w7 wd:=B79.out.trans (hbc.mono B79.out.size)
  have hb5d:=H57.out wd hb9d
  have hb3d:=H35.out wd hb5d
  have BD:=hide (HB3.out.trans (hb3d.mono HB3.out.size))
  have HA1:=hide (HX.out wd hb5d)
  have HG1:=hide (Hra.out wd hb3d)
  have HK1:=hide (Hrk.out wd hb3d)
  have x0:=(HKX.out wd hb5d).cell 0
  have x1:=(HKX.out wd hb5d).cell 1
  have g0:=(HK.out wd hb3d).cell 0
  have g1:=(HK.out wd hb3d).cell 1
  have bq5:=(HKB.out wd hb9d).cell 5
  have bt10:=(HKB.out wd hb9d).cell 10
  simp only [List.getElem?_cons_zero,List.getElem?_cons_succ] at x0 x1 g0 g1 bq5 bt10
  have HGL:=hide (fun V (hV:Below wd.heap.size wd V)=>Hl3.out V (hb3d.trans (hV.mono hb3d.size)))
  have HGH:=hide (Hg3.out wd hb3d)
  have HT1:=hide (HT7.out wd hb9d)
  have HKX1:=hide (HKX.out wd hb5d)
  have HKB1:=hide (HKB.out wd hb9d)
  clear hbc hw9
  by_cases hsm:ok=false\/id=-1
  · have hAz:A=z:=Hsame.out hsm
    subst hAz
    have HQ1:=hide (fun d os=>Calls.regrown_of (HSR.out (.slice a4 A.length c4) (Sort.grow (redrawn wd d) os) (HGL.out _ (below_regrown wd d os)) (HA1.out.below (below_regrown wd d os) (Nat.le_refl _))))
    have HQ2:=hide (fun d os=>Calls.regrown_of (HSR.out (.slice au A.length cu) (Sort.grow (redrawn wd d) os) (HGL.out _ (below_regrown wd d os)) (HG1.out.below (below_regrown wd d os) (Nat.le_refl _))))
    have ex0:=cell_regrown x0
    have ex1:=cell_regrown x1
    have eg0:=cell_regrown g0
    have eg1:=cell_regrown g1
    by_cases hid:id=-1
    · subst hid
      cases ok
      · go_wp2
        refine wp_region_quiet_below (by kernel_rfl) (by kernel_rfl) ?_
        repeat (go_big_quiet_step ((go_at_call 15;first | with_reducible exact HQ1.out _ _ | with_reducible exact HQ2.out _ _)))
        refine wpQuiet_nil ?_
        intro _ hw'
        obtain ⟨⟨dq,osq⟩,hw''⟩:=hw'
        subst hw''
        have bq:=below_regrown wd dq osq
        go_wp2
        go_ret
        exact ⟨by first | rfl | simp,BD.out.trans (bq.mono BD.out.size)⟩
      · go_wp2
        refine wp_region_quiet_below (by kernel_rfl) (by kernel_rfl) ?_
        repeat (go_big_quiet_step ((go_at_call 15;first | with_reducible exact HQ1.out _ _ | with_reducible exact HQ2.out _ _)))
        refine wpQuiet_nil ?_
        intro _ hw'
        obtain ⟨⟨dq,osq⟩,hw''⟩:=hw'
        subst hw''
        have bq:=below_regrown wd dq osq
        go_wp2
        go_ret
        exact ⟨by first | rfl | simp,BD.out.trans (bq.mono BD.out.size)⟩
    · have hdi:decide (id=-1)=false:=decide_eq_false hid
      have hdb:(id == -1)=false:=beq_eq_false_iff_ne.2 hid
      have hok0:ok=false:=by rcases hsm with h | h;exact h;exact absurd h hid
      subst hok0
      go_wp2
      refine wp_region_quiet_below (by kernel_rfl) (by kernel_rfl) ?_
      repeat (go_big_quiet_step ((go_at_call 15;first | with_reducible exact HQ1.out _ _ | with_reducible exact HQ2.out _ _)))
      refine wpQuiet_nil ?_
      intro _ hw'
      obtain ⟨⟨dq,osq⟩,hw''⟩:=hw'
      subst hw''
      have bq:=below_regrown wd dq osq
      go_wp2
      go_ret
      exact ⟨by first | rfl | simp,BD.out.trans (bq.mono BD.out.size)⟩
  · have hok1:ok=true:=by cases ok;exact absurd (.inl rfl) hsm;rfl
    have hid:id ≠ -1:=fun h=>hsm (.inr h)
    have hdi:decide (id=-1)=false:=decide_eq_false hid
    have hdb:(id == -1)=false:=beq_eq_false_iff_ne.2 hid
    subst hok1
    obtain ⟨k,hk,hat,hs1,hs2⟩:=Hstep.out rfl hid
    have hbb:=Hba.out k hk hat
    have hq1:bqb=l[k].qb:=by rw [<- hbb]
    have hq2:bts=l[k].ts:=by rw [<- hbb]
    have hfk:=HFew.out l[k] (List.getElem_mem hk)
    have hft:=hfk.t
    have hfs:=hfk.ts
    rw [<- hq1] at hs1 hs2
    rw [<- hq2] at hs2 hft hfs
    have fY:=laA_few (e:=e) l bqb Hfew.out.1 Hfew.out.2
    have HL2:=hide (HLA.out bqb wd HGH.out HG1.out HK1.out)
    rw [hs1] at HL2
    generalize (laA e z l bqb).1=Y at HL2 hs2 fY
    have HAL:=hide (fun v V (hg:Gh V) (h1:RdA V v Y) (h2:RdT V (.slice at_ bts.length ct) bts)=>implAll_any e v _ Y bts V hg h1 h2 fY.1 fY.2 hft hfs)
    rw [hs2] at HAL
    simp only [lgV] at HAL
    have Hg9:=hide (fun V (hV:Below wd.heap.size wd V)=>Hg3.out V (hb3d.trans (hV.mono hb3d.size)))
    clear hsm hs1 hs2 hbb hq1 hq2 hfk hft hfs fY hat Hstep Hsame
    go_wp2_with fail
    refine HL2.out.mono ?_
    rintro en wa ⟨va,rfl,oa,hba⟩
    obtain ⟨aa,ca,rfl⟩:=oa.rd.shape
    obtain ⟨wb,hwb⟩:∃ x,wa.alloc (.cells #[.int .i64 e,.slice aa Y.length ca] 26)=x:=⟨_,rfl⟩
    have bb:Below wa.heap.size wa wb:=by rw [<- hwb];exact (Below.refl _ wa).alloc (Nat.le_refl _) _
    have kb:Blk wb wa.heap.size 26 [.int .i64 e,.slice aa Y.length ca]:=by rw [<- hwb];exact Blk.new wa _ _
    have bdb:=hba.trans (bb.mono hba.size)
    have y0:=kb.cell 0
    have y1:=kb.cell 1
    have t10:=(HKB1.out.below bdb HKB1.out.lt).cell 10
    simp only [List.getElem?_cons_zero,List.getElem?_cons_succ] at y0 y1 t10
    have HAL2:=hide (HAL.out _ wb (Hg9.out wb bdb) (oa.rd.below bb (Nat.le_refl _)) (HT1.out.below bdb (Nat.le_refl _)))
    have BDB:=hide bdb
    clear oa hba bb kb bdb x0 x1 g0 g1 bq5 bt10
    go_wp2_with fail
    (try rw [hwb])
    refine HAL2.out.mono ?_
    rintro en wf ⟨vf,rfl,of,hbf⟩
    obtain ⟨af,cf,rfl⟩:=of.rd.shape
    obtain ⟨wg,hwg⟩:∃ x,wf.alloc (.cells #[.int .i64 e,.slice af A.length cf] 26)=x:=⟨_,rfl⟩
    have bg:Below wf.heap.size wf wg:=by rw [<- hwg];exact (Below.refl _ wf).alloc (Nat.le_refl _) _
    have kg:Blk wg wf.heap.size 26 [.int .i64 e,.slice af A.length cf]:=by rw [<- hwg];exact Blk.new wf _ _
    have bdg:Below wd.heap.size wd wg:=BDB.out.trans ((hbf.trans (bg.mono hbf.size)).mono BDB.out.size)
    have z0:=cell_regrown (kg.cell 0)
    have z1:=cell_regrown (kg.cell 1)
    have kx:=HKX1.out.below bdg HKX1.out.lt
    have x0:=cell_regrown (kx.cell 0)
    have x1:=cell_regrown (kx.cell 1)
    have rZ:=of.rd.below bg (Nat.le_refl _)
    have rX:=HA1.out.below bdg (Nat.le_refl _)
    have HQ1:=hide (fun d os=>Calls.regrown_of (HSR.out (.slice a4 A.length c4) (Sort.grow (redrawn wg d) os) (HGL.out _ (bdg.trans ((below_regrown wg d os).mono bdg.size))) (rX.below (below_regrown wg d os) (Nat.le_refl _))))
    have HQ2:=hide (fun d os=>Calls.regrown_of (HSR.out (.slice af A.length cf) (Sort.grow (redrawn wg d) os) (HGL.out _ (bdg.trans ((below_regrown wg d os).mono bdg.size))) (rZ.below (below_regrown wg d os) (Nat.le_refl _))))
    have BZ:=hide (BD.out.trans (bdg.mono BD.out.size))
    clear of hbf bg kg kx rZ rX y0 y1 t10 BDB bdg
    go_wp2
    (try rw [hwg])
    refine wp_region_quiet_below (by kernel_rfl) (by kernel_rfl) ?_
    repeat (go_big_quiet_step ((go_at_call 15;first | with_reducible exact HQ1.out _ _ | with_reducible exact HQ2.out _ _)))
    refine wpQuiet_nil ?_
    intro _ hw'
    obtain ⟨⟨dq,osq⟩,hw''⟩:=hw'
    subst hw''
    have bq:=below_regrown wg dq osq
    go_wp2
    go_ret
    exact ⟨by first | rfl | simp,BZ.out.trans (bq.mono BZ.out.size)⟩
end Go.Proofs.YtohachldbpejpaaGreatDoor
