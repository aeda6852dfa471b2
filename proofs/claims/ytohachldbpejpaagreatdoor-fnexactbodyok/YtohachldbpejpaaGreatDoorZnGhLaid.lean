/- The landed code's BodyOk. What the row's condition says of the two package-level variables: their cells. What the row's condition says of the package-level variable that holds a type's handle: its cell. -/
import Derived.Test.YtohachldbpejpaaGreatDoorZnBdImpl
import Derived.Test.YtohachldbpejpaaGreatDoorZnBkRowE
import Derived.Test.YtohachldbpejpaaGreatDoorZnShaBlock
import Derived.LaidMore
import Derived.OpenVars
import Derived.Lib.LaidU8
import Derived.ProofKit
import Derived.OpenShut
import Derived.Stop.Joined
import Derived.Test.YtohachldbpejpaaGreatDoorZnLgOrd
import Derived.LaidLaws
import Derived.LaidHandle
import Derived.Test.YtohachldbpejpaaGreatDoorRows
namespace Go.Proofs.YtohachldbpejpaaGreatDoor
open Go.RowKit
set_option linter.unusedVariables false
set_option maxRecDepth 20000 in
set_option maxHeartbeats 4000000 in
theorem implBodyOk_any (e:Int) (v vl:Value) (z:List Ac) (l:List Bk) (b:Bk) (bv:Bv) (w:World) (hgh:Gh w) (hgl:Gl w) (hr:RdA w v z) (hrl:RdKs w vl l) (hrb:RdK w b bv) (hz:z.length<=3999999) (hall:∀ a ∈ z,a.1.size<=maxLen/\a.2.2.2.2.length<=3999999) (hl:l.length<=4000000) (hf:∀ b ∈ l,FewK b) (hbd:∀ b ∈ l,-9223372036854775808<=b.tr/\b.tr<=9223372036854775807) (hfb:FewK b) (hnt:(bdA e z l b.qb b.ts b.ts.length).1.ts.length<=4000000) (hnn:(bdA e z l b.qb b.ts b.ts.length).1.nx.length<=4000000) :
    Calls Tryz.prog 19 #[lgV e v,vl,bkV b bv] w fun en w'=>en=.returned (.bool (boB e z l b))/\Below w.heap.size w w':=by
  obtain ⟨av,cv,rfl⟩:=hr.shape
  obtain ⟨al,cl,rfl⟩:=hrl.shape
  obtain ⟨at_,ct,htv⟩:=hrb.t.shape
  obtain ⟨an,cn,hnv⟩:=hrb.n.shape
  obtain ⟨vq,vw,vh,vt,vn⟩:=bv
  simp only at htv hnv
  subst htv hnv
  obtain ⟨id,ep,rd,md,qr,qb,qw,tr,tw,th,ts,en,nx,rt⟩:=b
  simp only at *
  obtain ⟨w1,hw1⟩:∃ w1,w.alloc (.cells #[.int .i64 e,.slice av z.length cv] 26)=w1:=⟨_,rfl⟩
  have hb1:Below w.heap.size w w1:=by rw [<- hw1];exact (Below.refl _ w).alloc (Nat.le_refl _) _
  have k1:Blk w1 w.heap.size 26 [.int .i64 e,.slice av z.length cv]:=by rw [<- hw1];exact Blk.new w _ _
  have s1:w1.heap.size=w.heap.size+1:=by rw [<- hw1];simp
  obtain ⟨w2,hw2⟩:∃ w2,w1.alloc (.cells #[.int .i64 id,.int .i64 ep,.int .i64 rd,.string md,.int .i64 qr,.int .i64 qb,vq,.int .i64 tr,vw,vh,.slice at_ ts.length ct,.bool en,.slice an nx.length cn,.string rt] 50)=w2:=⟨_,rfl⟩
  have hb2:Below w1.heap.size w1 w2:=by rw [<- hw2];exact (Below.refl _ w1).alloc (Nat.le_refl _) _
  have k2:Blk w2 (w.heap.size+1) 50 [.int .i64 id,.int .i64 ep,.int .i64 rd,.string md,.int .i64 qr,.int .i64 qb,vq,.int .i64 tr,vw,vh,.slice at_ ts.length ct,.bool en,.slice an nx.length cn,.string rt]:=by rw [<- hw2,<- s1];exact Blk.new w1 _ _
  have B2:Below w.heap.size w w2:=hb1.trans (hb2.mono hb1.size)
  have k12:=k1.below hb2 k1.lt
  have HBd:=hide (bodyAt_any e (.slice av z.length cv) (.slice al l.length cl) (.slice at_ ts.length ct) z l qb ts ts.length w2 (hgh.below B2) (hgl.below B2 (Nat.le_refl _)) (hr.below B2 (Nat.le_refl _)) (hrl.below B2 (Nat.le_refl _)) (hrb.t.below B2 (Nat.le_refl _)) hz hall hl hf hbd hfb.t hfb.ts)
  have Hbo:Hid (boB e z l ⟨id,ep,rd,md,qr,qb,qw,tr,tw,th,ts,en,nx,rt⟩=boR ⟨id,ep,rd,md,qr,qb,qw,tr,tw,th,ts,en,nx,rt⟩ (bdA e z l qb ts ts.length)):=hide rfl
  have Hrt:=hide (fun V (hV:Below w.heap.size w V)=>hrb.t.below hV (Nat.le_refl _))
  have Hrn:=hide (fun V (hV:Below w.heap.size w V)=>hrb.n.below hV (Nat.le_refl _))
  have hft:=hfb.t
  have hfn:=hfb.n
  generalize bdA e z l qb ts ts.length=R at HBd Hbo hnt hnn
  obtain ⟨⟨T,E,X,Y⟩,q⟩:=R
  simp only [boR] at Hbo
  simp only [lgV,bkV] at HBd hnt hnn ⊢
  have x0:=k12.cell 0
  have x1:=k12.cell 1
  have y5:=k2.cell 5
  have y10:=k2.cell 10
  simp only [List.getElem?_cons_zero,List.getElem?_cons_succ] at x0 x1 y5 y10
  have HB2:=hide B2
  have K2:=hide k2
  clear hgh hgl hr hrl hrb hall hf hbd hfb hb1 hb2 k1 k12 k2 B2
  go_enter Tryz.func19,Tryz.ntmps19
  go_wp2_with fail
  refine HBd.out.mono ?_
  rintro en' w3 ⟨vg,vx,rfl,og,on,hb3⟩
  obtain ⟨ag,cg,rfl⟩:=og.rd.shape
  obtain ⟨ax,cx,rfl⟩:=on.rd.shape
  simp only at og on ⊢
  obtain ⟨w4,hw4⟩:∃ w4,w3.alloc (.cells #[.slice ag T.length cg,.bool E,.slice ax X.length cx,.string Y] 117)=w4:=⟨_,rfl⟩
  have b4:Below w3.heap.size w3 w4:=by rw [<- hw4];exact (Below.refl _ w3).alloc (Nat.le_refl _) _
  have k4:Blk w4 w3.heap.size 117 [.slice ag T.length cg,.bool E,.slice ax X.length cx,.string Y]:=by rw [<- hw4];exact Blk.new w3 _ _
  have B3:=HB2.out.trans (hb3.mono HB2.out.size)
  have B4:=B3.trans (b4.mono B3.size)
  have kb4:=(K2.out.below hb3 K2.out.lt).below b4 (Nat.lt_of_lt_of_le K2.out.lt hb3.size)
  have HG:=hide ((og.below b4 (Nat.le_refl _)).rd)
  have HN:=hide ((on.below b4 (Nat.le_refl _)).rd)
  have z0:=k4.cell 0
  have z1:=k4.cell 1
  have z2:=k4.cell 2
  have z3:=k4.cell 3
  have u10:=kb4.cell 10
  have u11:=kb4.cell 11
  have u12:=kb4.cell 12
  have u13:=kb4.cell 13
  simp only [List.getElem?_cons_zero,List.getElem?_cons_succ] at z0 z1 z2 z3 u10 u11 u12 u13
  have K4:=hide k4
  have Kb:=hide kb4
  have HB4:=hide B4
  clear og on hb3 b4 B3 B4 x0 x1 y5 y10 HBd K2 k4 kb4
  cases q
  · go_wp2
    go_ret
    exact ⟨by rw [Hbo.out];rfl,HB4.out⟩
  · have HET:=hide (equalT_any _ _ ts T w4 (Hrt.out w4 HB4.out) HG.out hft hnt)
    go_wp2_with fail
    refine HET.out.mono ?_
    rintro _ w5 ⟨rfl,hs5⟩
    have HB5:=hide (HB4.out.trans (hs5 _))
    have k5:=K4.out.below (hs5 _) K4.out.lt
    have kb5:=Kb.out.below (hs5 _) Kb.out.lt
    have z1:=k5.cell 1
    have z2:=k5.cell 2
    have z3:=k5.cell 3
    have u11:=kb5.cell 11
    have u12:=kb5.cell 12
    have u13:=kb5.cell 13
    simp only [List.getElem?_cons_zero,List.getElem?_cons_succ] at z1 z2 z3 u11 u12 u13
    have K5:=hide k5
    have Kb5:=hide kb5
    have HN5:=hide (HN.out.below (hs5 _) (Nat.le_refl _))
    clear z0 u10 k5 kb5 HET HG HN K4 Kb
    by_cases h1:ts=T
    · have d1:decide (ts=T)=true:=decide_eq_true h1
      rw [d1]
      by_cases h2:en=E
      · subst h2
        have d2:(en == en)=true:=by simp
        have HEV:=hide (equalV_any _ _ nx X w5 (Hrn.out w5 HB5.out) HN5.out hfn hnn)
        go_wp2_with fail
        refine HEV.out.mono ?_
        rintro _ w6 ⟨rfl,hs6⟩
        have HB6:=hide (HB5.out.trans (hs6 _))
        have k6:=K5.out.below (hs6 _) K5.out.lt
        have kb6:=Kb5.out.below (hs6 _) Kb5.out.lt
        have z3:=k6.cell 3
        have u13:=kb6.cell 13
        simp only [List.getElem?_cons_zero,List.getElem?_cons_succ] at z3 u13
        clear z1 z2 u11 u12 k6 kb6 HEV HN5 K5 Kb5
        by_cases h3:nx=X
        · have d3:decide (nx=X)=true:=decide_eq_true h3
          rw [d3]
          by_cases h4:rt=Y
          · subst h4
            go_wp2
            go_ret
            exact ⟨by rw [Hbo.out,d1,d3];simp,HB6.out⟩
          · have d4:decide (rt=Y)=false:=decide_eq_false h4
            go_wp2
            go_ret
            have d5:¬ rt.toList=Y.toList:=fun k=>h4 (by rw [ByteArray.toList_eq,ByteArray.toList_eq] at k;exact ByteArray.ext (Array.toList_inj.1 k))
            exact ⟨by rw [Hbo.out,d1,d3,d4];simp [d5],HB6.out⟩
        · have d3:decide (nx=X)=false:=decide_eq_false h3
          rw [d3]
          go_wp2
          go_ret
          exact ⟨by rw [Hbo.out,d1,d3];simp,HB6.out⟩
      · have d2:decide (en=E)=false:=decide_eq_false h2
        have Hfin:Hid (boB e z l ⟨id,ep,rd,md,qr,qb,qw,tr,tw,th,ts,en,nx,rt⟩=false):=hide (by rw [Hbo.out,d1,d2];simp)
        clear Hbo
        cases en <;> cases E <;> first | exact absurd rfl h2 | (go_wp2;go_ret;exact ⟨by rw [Hfin.out];rfl,HB5.out⟩)
    · have d1:decide (ts=T)=false:=decide_eq_false h1
      rw [d1]
      go_wp2
      go_ret
      exact ⟨by rw [Hbo.out,d1];rfl,HB5.out⟩
end Go.Proofs.YtohachldbpejpaaGreatDoor

namespace Go.Proofs.YtohachldbpejpaaGreatDoor
open Go.ChangeShapes Go.WideShapes Go.ChangeAt Go.RowKit
set_option linter.unusedVariables false
theorem Tryz.gStart : Tryz.prog.globalNamed "loop.example/g00194/impl.shaStart" = some 1 := by kernel_rfl
theorem Tryz.gConsts : Tryz.prog.globalNamed "loop.example/g00194/impl.shaConstants" = some 2 := by kernel_rfl
theorem Tryz.tStart:(Tryz.prog.globals[1]?).map (·.type)=some 256:=by kernel_rfl
theorem Tryz.tConsts:(Tryz.prog.globals[2]?).map (·.type)=some 288:=by kernel_rfl
theorem Tryz.cellsU32:Tryz.prog.cellsOf 255=1:=by kernel_rfl
def litU (n:Nat):DataW Unit:=.lit (.int .u32 (n:Int))
theorem laid_start:(Rows.laid_loop_example_g00194_impl_shaStart:DataW Unit)=.agg (hC.list.map litU):=rfl
theorem laid_consts:(Rows.laid_loop_example_g00194_impl_shaConstants:DataW Unit)=.agg (kC.map litU):=rfl
theorem arr_cell {W:World} {fuel n:Nat} {t:TypeId} {cs:List Value} {L:List Nat} {p:List MemPlace} {sp:Nat->Bool} (ht:Tryz.prog.underlying t=some (.array n 255))
    (hd:DataW.trod (fun _=>()) Tryz.prog W 0 sp false fuel t cs=some (.agg (L.map litU),p)) (j:Nat) (hj:j < n) (hjL:j < L.length):cs[j]?=some (.int .u32 (L[j]:Int)):=by
  obtain ⟨f',d,q,e1,e2⟩:=Lib.array_elem ht hd j hj
  rw [Tryz.cellsU32,Nat.mul_one] at e2
  obtain ⟨k,c1,c2,_⟩:=DataW.trod_int Tryz.underlying255 e2
  have hdk:d=.lit (.int .u32 k):=by simpa using congrArg Prod.fst c2
  have hk:k=(L[j]:Int):=by
    rw [hdk] at e1
    simp [hjL,litU] at e1
    exact e1.symm
  have hg:((cs.drop j).take 1)[0]?=some (.int .u32 k):=by rw [c1];rfl
  rw [List.getElem?_take_of_lt (by omega),List.getElem?_drop,Nat.add_zero] at hg
  rw [hg,hk]
theorem block_lt {W:World} {g:Nat} {v:Value} (h:W.cell? ⟨g,0,none⟩=some v):g < W.heap.size:=by
  rcases Nat.lt_or_ge g W.heap.size with h1 | h1
  · exact h1
  · simp [World.cell?,Array.getElem?_eq_none h1] at h
theorem gl_of_reads {W : World} (h0 : Lib.VarReads Tryz.prog W "loop.example/g00194/impl.shaStart" Rows.laid_loop_example_g00194_impl_shaStart) (h1 : Lib.VarReads Tryz.prog W "loop.example/g00194/impl.shaConstants" Rows.laid_loop_example_g00194_impl_shaConstants) : Gl W := by
  obtain ⟨g0,t0,cs0,f0,p0,hg0,ht0,hv0,hd0⟩:=h0
  obtain ⟨g1,t1,cs1,f1,p1,hg1,ht1,hv1,hd1⟩:=h1
  obtain rfl:=Option.some.inj (Tryz.gStart.symm.trans hg0)
  obtain rfl:=Option.some.inj (Tryz.gConsts.symm.trans hg1)
  obtain rfl:=Option.some.inj (Tryz.tStart.symm.trans ht0)
  obtain rfl:=Option.some.inj (Tryz.tConsts.symm.trans ht1)
  rw [laid_start] at hd0
  rw [laid_consts] at hd1
  have a0:W.rangeAt 1 0 (hC.list.map uv):=by
    intro j v hv
    have hj:j < hC.list.length:=by have:=(List.getElem?_eq_some_iff.1 hv).1;simpa using this
    rw [Nat.zero_add,World.var?_cell Tryz.gStart hv0 j]
    have:=arr_cell Tryz.underlying256 hd0 j hj hj
    rw [Array.getElem?_toList] at this
    rw [this]
    simp [hj,uv] at hv
    rw [<- hv]
  have a1:W.rangeAt 2 0 (kC.map uv):=by
    intro j v hv
    have hj:j < kC.length:=by have:=(List.getElem?_eq_some_iff.1 hv).1;simpa using this
    rw [Nat.zero_add,World.var?_cell Tryz.gConsts hv1 j]
    have:=arr_cell Tryz.underlying288 hd1 j hj hj
    rw [Array.getElem?_toList] at this
    rw [this]
    simp [hj,uv] at hv
    rw [<- hv]
  exact ⟨a0,a1,block_lt (a0 0 (uv hC.a) rfl),block_lt (a1 0 (uv 1116352408) rfl)⟩
end Go.Proofs.YtohachldbpejpaaGreatDoor

namespace Go.Proofs.YtohachldbpejpaaGreatDoor
open Go.ChangeShapes Go.WideShapes Go.RowKit
set_option linter.unusedVariables false
theorem Tryz.et : Tryz.prog.globalNamed "errors.errorType" = some 0 := by kernel_rfl
theorem Tryz.rt : (Tryz.prog.cutTypes.find? (·.1 == "internal/reflectlite.rtype")).map (·.2) = some 239 := by kernel_rfl
theorem Tryz.oneRow:((List.range 359).filter fun t=>Tryz.prog.rowNamed t [101,114,114,111,114])=[96]:=by kernel_rfl
theorem Tryz.nTypes:Tryz.prog.types.size=359:=by kernel_rfl
theorem gh_of_handles {W : World} (h : handlesMet Tryz.prog [("errors.errorType", Rows.laid_errors_errorType)] W) : Gh W := by
  obtain ⟨name,u,ty,e1,e2,e3,e4,e5⟩:=h _ (List.mem_singleton.2 rfl)
  have en:name=[101,114,114,111,114]:=(Option.some.inj e1).symm
  subst en
  obtain rfl:=Option.some.inj (Tryz.rt.symm.trans e2)
  have hm:ty ∈ (List.range 359).filter fun t=>Tryz.prog.rowNamed t [101,114,114,111,114]:=List.mem_filter.2 ⟨List.mem_range.2 (by rw [<- Tryz.nTypes];exact e3),e4⟩
  rw [Tryz.oneRow] at hm
  obtain rfl:=List.mem_singleton.1 hm
  have hh:typeHandle Tryz.prog 96=.pointer (some ⟨3,96,none⟩):=by kernel_rfl
  rw [hh] at e5
  unfold Gh
  simpa using World.var?_cell Tryz.et e5 0
def handPut:Obj->Obj
  | .cells _ t frozen=>.cells #[.iface 239 (.agg #[.pointer (some ⟨3,96,none⟩)])] t frozen
  | o=>o
def laidOn (w0:World):World:={ w0 with heap:=w0.heap.modify 0 handPut }
end Go.Proofs.YtohachldbpejpaaGreatDoor
