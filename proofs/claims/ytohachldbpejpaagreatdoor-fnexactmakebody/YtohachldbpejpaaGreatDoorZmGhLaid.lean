/- The landed code's MakeBody. What the row's condition says of the two package-level variables: their cells. What the row's condition says of the package-level variable that holds a type's handle: its cell. -/
import Derived.Test.YtohachldbpejpaaGreatDoorZmBdImpl
import Derived.Lib.QuietBelow
import Derived.BigQuiet
import Derived.Deep.Cut
import Derived.Test.YtohachldbpejpaaGreatDoorZmShaBlock
import Derived.LaidMore
import Derived.OpenVars
import Derived.Lib.LaidU8
import Derived.ProofKit
import Derived.OpenShut
import Derived.Stop.Joined
import Derived.Test.YtohachldbpejpaaGreatDoorZmLgOrd
import Derived.LaidLaws
import Derived.LaidHandle
import Derived.Test.YtohachldbpejpaaGreatDoorRows
namespace Go.Proofs.YtohachldbpejpaaGreatDoor
open Go.RowKit
set_option linter.unusedVariables false
set_option linter.unusedSimpArgs false
set_option maxRecDepth 20000 in
set_option maxHeartbeats 2000000 in
theorem implMakeBody_any (e:Int) (v vl vt:Value) (z:List Ac) (l:List Bk) (id:Int) (ts:List Tx5) (w:World) (hgh:Gh w) (hgl:Gl w) (hr:RdA w v z) (hrl:RdKs w vl l) (hrt:RdT w vt ts) (hz:z.length<=3999999) (hall:∀ a ∈ z,a.1.size<=maxLen/\a.2.2.2.2.length<=3999999) (hl:l.length<=4000000) (hf:∀ b ∈ l,FewK b) (hbd:∀ b ∈ l,-9223372036854775808<=b.tr/\b.tr<=9223372036854775807) (hts:ts.length<=4000000) (hta:∀ t ∈ ts,t.2.1.size<=maxLen/\t.2.2.1.size<=maxLen) :
    Calls Tryz.prog 17 #[lgV e v,vl,.int .i64 id,vt] w fun en w'=>∃ vg vn,en=.returned (.tuple #[vg,.bool (bdA e z l id ts 4).1.en,vn,.string (bdA e z l id ts 4).1.rt])/\OwnT w.heap.size w' vg (bdA e z l id ts 4).1.ts/\OwnV w.heap.size w' vn (bdA e z l id ts 4).1.nx/\Below w.heap.size w w':=by
  obtain ⟨av,cv,rfl⟩:=hr.shape
  obtain ⟨al,cl,rfl⟩:=hrl.shape
  obtain ⟨at_,ct,rfl⟩:=hrt.shape
  obtain ⟨w1,hw1⟩:∃ w1,w.alloc (.cells #[.int .i64 e,.slice av z.length cv] 26)=w1:=⟨_,rfl⟩
  have hb1:Below w.heap.size w w1:=by rw [<- hw1];exact (Below.refl _ w).alloc (Nat.le_refl _) _
  have k1:Blk w1 w.heap.size 26 [.int .i64 e,.slice av z.length cv]:=by rw [<- hw1];exact Blk.new w _ _
  have HBd:Hid (Calls Tryz.prog 60 #[lgV e (.slice av z.length cv),.slice al l.length cl,.int .i64 id,.slice at_ ts.length ct,.int .i64 4] w1 _):=hide (bodyAt_any e (.slice av z.length cv) (.slice al l.length cl) (.slice at_ ts.length ct) z l id ts 4 w1 (hgh.below hb1) (hgl.below hb1 (Nat.le_refl _)) (hr.below hb1 (Nat.le_refl _)) (hrl.below hb1 (Nat.le_refl _)) (hrt.below hb1 (Nat.le_refl _)) hz hall hl hf hbd hts hta)
  generalize bdA e z l id ts 4=R at HBd ⊢
  simp only [lgV] at HBd ⊢
  have x0:=k1.cell 0
  have x1:=k1.cell 1
  simp only [List.getElem?_cons_zero,List.getElem?_cons_succ] at x0 x1
  have Hb1:=hide hb1
  clear hgh hgl hr hrl hrt hall hf hbd hta hb1 k1
  go_enter Tryz.func17,Tryz.ntmps17
  go_wp2_with fail
  refine HBd.out.mono ?_
  rintro en w2 ⟨vg,vn,rfl,og,on,hb2⟩
  obtain ⟨ag,cg,rfl⟩:=og.rd.shape
  obtain ⟨an,cn,rfl⟩:=on.rd.shape
  obtain ⟨⟨T,E,X,Y⟩,q⟩:=R
  simp only at og on ⊢
  obtain ⟨w3,hw3⟩:∃ w3,w2.alloc (.cells #[.slice ag T.length cg,.bool E,.slice an X.length cn,.string Y] 117)=w3:=⟨_,rfl⟩
  have b3:Below w2.heap.size w2 w3:=by rw [<- hw3];exact (Below.refl _ w2).alloc (Nat.le_refl _) _
  have k3:Blk w3 w2.heap.size 117 [.slice ag T.length cg,.bool E,.slice an X.length cn,.string Y]:=by rw [<- hw3];exact Blk.new w2 _ _
  have B2:=Hb1.out.trans (hb2.mono Hb1.out.size)
  have HB3:=hide (B2.trans (b3.mono B2.size))
  have OG:=hide ((og.below b3 (Nat.le_refl _)).monoG (base':=w.heap.size) Hb1.out.size)
  have ON:=hide ((on.below b3 (Nat.le_refl _)).mono (base':=w.heap.size) Hb1.out.size)
  have c0:=cell_regrown (k3.cell 0)
  have c1:=cell_regrown (k3.cell 1)
  have c2:=cell_regrown (k3.cell 2)
  have c3:=cell_regrown (k3.cell 3)
  clear og on hb2 b3 B2 x0 x1 HBd k3
  go_upto_region 2 with fail
  refine wp_region_quiet_below (by kernel_rfl) (by kernel_rfl) ?_
  repeat (go_big_quiet_step (fail))
  refine wpQuiet_nil ?_
  intro _ hw'
  obtain ⟨⟨dq,osq⟩,hw''⟩:=hw'
  subst hw''
  go_wp2
  refine bodyPost_ret (v:=.tuple #[.slice ag T.length cg,.bool E,.slice an X.length cn,.string Y]) (by simp [results,Tryz.f17,go_sem]) rfl ?_
  have hq:=below_regrown w3 dq osq
  exact ⟨_,_,rfl,OG.out.below hq (Nat.le_refl _),ON.out.below hq (Nat.le_refl _),HB3.out.trans (hq.mono HB3.out.size)⟩
end Go.Proofs.YtohachldbpejpaaGreatDoor

namespace Go.Proofs.YtohachldbpejpaaGreatDoor
open Go.ChangeShapes Go.WideShapes Go.ChangeAt Go.RowKit
set_option linter.unusedVariables false
theorem Tryz.gStart : Tryz.prog.globalNamed "loop.example/g00194/impl.shaStart" = some 1 := by kernel_rfl
theorem Tryz.gConsts : Tryz.prog.globalNamed "loop.example/g00194/impl.shaConstants" = some 2 := by kernel_rfl
theorem Tryz.tStart:(Tryz.prog.globals[1]?).map (·.type)=some 256:=by kernel_rfl
theorem Tryz.tConsts:(Tryz.prog.globals[2]?).map (·.type)=some 288:=by kernel_rfl
theorem Tryz.cellsU32:Tryz.prog.cellsOf 255=1:=by kernel_rfl
def litU (n:Nat):DataW Unit:=.lit (.int .u32 (n:Int))
theorem laid_start:(Rows.laid_loop_example_g00194_impl_shaStart:DataW Unit)=.agg (hC.list.map litU):=rfl
theorem laid_consts:(Rows.laid_loop_example_g00194_impl_shaConstants:DataW Unit)=.agg (kC.map litU):=rfl
theorem arr_cell {W:World} {fuel n:Nat} {t:TypeId} {cs:List Value} {L:List Nat} {p:List MemPlace} {sp:Nat->Bool} (ht:Tryz.prog.underlying t=some (.array n 255))
    (hd:DataW.trod (fun _=>()) Tryz.prog W 0 sp false fuel t cs=some (.agg (L.map litU),p)) (j:Nat) (hj:j < n) (hjL:j < L.length):cs[j]?=some (.int .u32 (L[j]:Int)):=by
  obtain ⟨f',d,q,e1,e2⟩:=Lib.array_elem ht hd j hj
  rw [Tryz.cellsU32,Nat.mul_one] at e2
  obtain ⟨k,c1,c2,_⟩:=DataW.trod_int Tryz.underlying255 e2
  have hdk:d=.lit (.int .u32 k):=by simpa using congrArg Prod.fst c2
  have hk:k=(L[j]:Int):=by
    rw [hdk] at e1
    simp [hjL,litU] at e1
    exact e1.symm
  have hg:((cs.drop j).take 1)[0]?=some (.int .u32 k):=by rw [c1];rfl
  rw [List.getElem?_take_of_lt (by omega),List.getElem?_drop,Nat.add_zero] at hg
  rw [hg,hk]
theorem block_lt {W:World} {g:Nat} {v:Value} (h:W.cell? ⟨g,0,none⟩=some v):g < W.heap.size:=by
  rcases Nat.lt_or_ge g W.heap.size with h1 | h1
  · exact h1
  · simp [World.cell?,Array.getElem?_eq_none h1] at h
theorem gl_of_reads {W : World} (h0 : Lib.VarReads Tryz.prog W "loop.example/g00194/impl.shaStart" Rows.laid_loop_example_g00194_impl_shaStart) (h1 : Lib.VarReads Tryz.prog W "loop.example/g00194/impl.shaConstants" Rows.laid_loop_example_g00194_impl_shaConstants) : Gl W := by
  obtain ⟨g0,t0,cs0,f0,p0,hg0,ht0,hv0,hd0⟩:=h0
  obtain ⟨g1,t1,cs1,f1,p1,hg1,ht1,hv1,hd1⟩:=h1
  obtain rfl:=Option.some.inj (Tryz.gStart.symm.trans hg0)
  obtain rfl:=Option.some.inj (Tryz.gConsts.symm.trans hg1)
  obtain rfl:=Option.some.inj (Tryz.tStart.symm.trans ht0)
  obtain rfl:=Option.some.inj (Tryz.tConsts.symm.trans ht1)
  rw [laid_start] at hd0
  rw [laid_consts] at hd1
  have a0:W.rangeAt 1 0 (hC.list.map uv):=by
    intro j v hv
    have hj:j < hC.list.length:=by have:=(List.getElem?_eq_some_iff.1 hv).1;simpa using this
    rw [Nat.zero_add,World.var?_cell Tryz.gStart hv0 j]
    have:=arr_cell Tryz.underlying256 hd0 j hj hj
    rw [Array.getElem?_toList] at this
    rw [this]
    simp [hj,uv] at hv
    rw [<- hv]
  have a1:W.rangeAt 2 0 (kC.map uv):=by
    intro j v hv
    have hj:j < kC.length:=by have:=(List.getElem?_eq_some_iff.1 hv).1;simpa using this
    rw [Nat.zero_add,World.var?_cell Tryz.gConsts hv1 j]
    have:=arr_cell Tryz.underlying288 hd1 j hj hj
    rw [Array.getElem?_toList] at this
    rw [this]
    simp [hj,uv] at hv
    rw [<- hv]
  exact ⟨a0,a1,block_lt (a0 0 (uv hC.a) rfl),block_lt (a1 0 (uv 1116352408) rfl)⟩
end Go.Proofs.YtohachldbpejpaaGreatDoor

namespace Go.Proofs.YtohachldbpejpaaGreatDoor
open Go.ChangeShapes Go.WideShapes Go.RowKit
set_option linter.unusedVariables false
theorem Tryz.et : Tryz.prog.globalNamed "errors.errorType" = some 0 := by kernel_rfl
theorem Tryz.rt : (Tryz.prog.cutTypes.find? (·.1 == "internal/reflectlite.rtype")).map (·.2) = some 239 := by kernel_rfl
theorem Tryz.oneRow:((List.range 359).filter fun t=>Tryz.prog.rowNamed t [101,114,114,111,114])=[96]:=by kernel_rfl
theorem Tryz.nTypes:Tryz.prog.types.size=359:=by kernel_rfl
theorem gh_of_handles {W : World} (h : handlesMet Tryz.prog [("errors.errorType", Rows.laid_errors_errorType)] W) : Gh W := by
  obtain ⟨name,u,ty,e1,e2,e3,e4,e5⟩:=h _ (List.mem_singleton.2 rfl)
  have en:name=[101,114,114,111,114]:=(Option.some.inj e1).symm
  subst en
  obtain rfl:=Option.some.inj (Tryz.rt.symm.trans e2)
  have hm:ty ∈ (List.range 359).filter fun t=>Tryz.prog.rowNamed t [101,114,114,111,114]:=List.mem_filter.2 ⟨List.mem_range.2 (by rw [<- Tryz.nTypes];exact e3),e4⟩
  rw [Tryz.oneRow] at hm
  obtain rfl:=List.mem_singleton.1 hm
  have hh:typeHandle Tryz.prog 96=.pointer (some ⟨3,96,none⟩):=by kernel_rfl
  rw [hh] at e5
  unfold Gh
  simpa using World.var?_cell Tryz.et e5 0
def handPut:Obj->Obj
  | .cells _ t frozen=>.cells #[.iface 239 (.agg #[.pointer (some ⟨3,96,none⟩)])] t frozen
  | o=>o
def laidOn (w0:World):World:={ w0 with heap:=w0.heap.modify 0 handPut }
end Go.Proofs.YtohachldbpejpaaGreatDoor
