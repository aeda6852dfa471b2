/- errors.As at the program's own error. -/
import Derived.Test.YtohachldbpejpaaGreatDoorZoLgOrd
set_option maxRecDepth 20000
set_option maxHeartbeats 4000000
namespace Go.Proofs.YtohachldbpejpaaGreatDoor
open Go.RowKit Go.Extern.Stop Go.Stop Go.Extern
set_option linter.unusedVariables false
theorem rl_set (v x:Value):∃ k:Option (TypeId × Addr × Nat)->Option (TypeId × Addr × Nat)->Sem Value,ReflectliteValue.set #[v,x]=(ReflectliteValue.parts v >>= fun p=>ReflectliteValue.parts x >>= fun q=>k p q) /\
    ∀ (dst:TypeId) (a:Addr) (src:TypeId) (b:Addr) (fl:Nat),∃ k2:Value->Bool->Sem Value,k (some (dst,a,409)) (some (src,b,fl))=(loadVar src b >>= fun val=>Rtype.directlyAssignable dst src >>= fun c=>k2 val c)/\∀ val,k2 val true=(storeVar dst a val >>= fun _=>pure (Value.tuple #[])) :=
  ⟨_,rfl,fun _ _ _ _ _=>⟨_,rfl,fun _=>rfl⟩⟩
theorem Tryz.setL (B b:Nat) (c:Int) (old:Value) (W:World) (hb:W.cell? ⟨b,0,none⟩=some (.int .i64 c)) (ht:W.cell? ⟨B,0,none⟩=some old) (hf:W.frozen? ⟨B,0,none⟩=false) :
    (ReflectliteValue.set #[.agg #[.pointer (some ⟨3,100,none⟩),.pointer (some ⟨B,0,none⟩),.int .u64 409],.agg #[.pointer (some ⟨3,100,none⟩),.pointer (some ⟨b,0,none⟩),.int .u64 153]]).run Tryz.prog W
      = .ok (.tuple #[]) (W.setCell ⟨B,0,none⟩ (.int .i64 c)):=by
  obtain ⟨k,e1,e2⟩:=rl_set (.agg #[.pointer (some ⟨3,100,none⟩),.pointer (some ⟨B,0,none⟩),.int .u64 409]) (.agg #[.pointer (some ⟨3,100,none⟩),.pointer (some ⟨b,0,none⟩),.int .u64 153])
  obtain ⟨k2,e3,e4⟩:=e2 100 ⟨B,0,none⟩ 100 ⟨b,0,none⟩ 153
  rw [e1]
  simp only [Sem.run_bind,Tryz.partsLa,Tryz.partsL,Result.andThen,e3]
  simp [loadVar,isAgg,underlying,Tryz.underlying100,loadCells,loadCellsFrom,hb,Result.andThen,Tryz.directL,e4,storeVar,Value.cells,storeCells,Addr.add]
  rw [run_store Tryz.prog W ⟨B,0,none⟩ _ _ (by rfl)]
  simp [ht,hf]
theorem as_hit (c old:Int) (B:Nat) (w:World) (hg:Gh w) (hB:Blk w B 100 [.int .i64 old]) :
    Calls Tryz.prog 52 #[lkV c,.iface 102 (.pointer (some ⟨B,0,none⟩))] w fun ev w'=>ev=.returned (.bool true)/\w.grownBy w' (some B)/\Blk w' B 100 [.int .i64 c]:=by
  have h6:=@run_callFunc_extern Tryz.prog 111 _ (fun args=>ReflectliteValue.unpack (args.getD 0 (.tuple #[]))) Tryz.func111 (by kernel_rfl) (by kernel_rfl) (by kernel_rfl) (by kernel_rfl)
  have h7 := @run_callFunc_extern Tryz.prog 112 _ (ReflectliteValue.methodAny (ReflectliteValue.valueError "reflectlite.Value.Type" 0) (fun t _ _ _ => ReflectliteType.toType t)) Tryz.func112 (by kernel_rfl) (by kernel_rfl) (by kernel_rfl) (by kernel_rfl)
  have h8 := @run_callFunc_extern Tryz.prog 113 _ (ReflectliteValue.method (ReflectliteValue.valueError "reflectlite.Value.IsNil" 0) ReflectliteValue.isNil) Tryz.func113 (by kernel_rfl) (by kernel_rfl) (by kernel_rfl) (by kernel_rfl)
  have h27:=@run_callFunc_extern Tryz.prog 276 _ (ReflectliteType.abiMethod fun t=>do pure (.int .u8 (<- Rtype.kind t))) Tryz.func276 (by kernel_rfl) (by kernel_rfl) (by kernel_rfl) (by kernel_rfl)
  have h37:=@run_callFunc_extern Tryz.prog 289 _ (ReflectliteType.method ReflectliteType.elem) Tryz.func289 (by kernel_rfl) (by kernel_rfl) (by kernel_rfl) (by kernel_rfl)
  have h38 := @run_callFunc_extern Tryz.prog 290 _ (ReflectliteType.relation "Implements" ReflectliteType.implements_) Tryz.func290 (by kernel_rfl) (by kernel_rfl) (by kernel_rfl) (by kernel_rfl)
  have h10:=@run_callFunc_extern Tryz.prog 166 _ ReflectliteType.typeOf Tryz.func166 (by kernel_rfl) (by kernel_rfl) (by kernel_rfl) (by kernel_rfl)
  have h35 := @run_callFunc_extern Tryz.prog 287 _ (ReflectliteType.relation "AssignableTo" ReflectliteType.assignableTo) Tryz.func287 (by kernel_rfl) (by kernel_rfl) (by kernel_rfl) (by kernel_rfl)
  have h11 := @run_callFunc_extern Tryz.prog 167 _ (ReflectliteValue.method (ReflectliteValue.valueError "reflectlite.Value.Elem" 0) ReflectliteValue.elem) Tryz.func167 (by kernel_rfl) (by kernel_rfl) (by kernel_rfl) (by kernel_rfl)
  have h12:=@run_callFunc_extern Tryz.prog 168 _ ReflectliteValue.set Tryz.func168 (by kernel_rfl) (by kernel_rfl) (by kernel_rfl) (by kernel_rfl)
  have tO:=Tryz.typeOfL
  have mA:=Tryz.methodAssignableTo
  have a25:=Tryz.assignableL
  have v25:=Tryz.valueOfL
  have f6:=Tryz.valueOfP
  have f7:=Tryz.typeP
  have mK:=Tryz.methodKind
  have mE:=Tryz.methodElem
  have mI:=Tryz.methodImplements
  have k27:=Tryz.kindP
  have k25:=Tryz.kindL
  have e27:=Tryz.elemP
  have i25:=Tryz.implementsL
  have hBl:=hB.lt
  obtain ⟨w1,hw1⟩:∃ w1,w.alloc (.cells #[.pointer (some ⟨B,0,none⟩)] 102)=w1:=⟨_,rfl⟩
  obtain ⟨w2,hw2⟩:∃ w2,w1.alloc (.cells #[.pointer (some ⟨3,102,none⟩),.pointer (some ⟨w.heap.size,0,none⟩),.int .u64 150] 175)=w2:=⟨_,rfl⟩
  obtain ⟨w3,hw3⟩:∃ w3,w2.alloc (.cells #[.pointer (some ⟨3,102,none⟩),.pointer (some ⟨w.heap.size,0,none⟩),.int .u64 150] 175)=w3:=⟨_,rfl⟩
  obtain ⟨w4,hw4⟩:∃ w4,w3.alloc (.cells #[.int .i64 c] 100)=w4:=⟨_,rfl⟩
  have s1:w1.heap.size=w.heap.size+1:=by rw [<- hw1];simp
  have s2:w2.heap.size=w.heap.size+1+1:=by rw [<- hw2];simp;omega
  have s3:w3.heap.size=w.heap.size+1+1+1:=by rw [<- hw3];simp;omega
  have p1:Blk w1 w.heap.size 102 [.pointer (some ⟨B,0,none⟩)]:=by rw [<- hw1];exact Blk.new w _ _
  have p2:Blk w2 w.heap.size 102 [.pointer (some ⟨B,0,none⟩)]:=by rw [<- hw2];exact p1.alloc _
  have p3:Blk w3 w.heap.size 102 [.pointer (some ⟨B,0,none⟩)]:=by rw [<- hw3];exact p2.alloc _
  have q4:Blk w4 (w.heap.size+1+1+1) 100 [.int .i64 c]:=by rw [<- hw4,<- s3];exact Blk.new w3 _ _
  have B4:Blk w4 B 100 [.int .i64 old]:=by rw [<- hw4,<- hw3,<- hw2,<- hw1];exact (((hB.alloc _).alloc _).alloc _).alloc _
  have b4:Below w.heap.size w w4:=by rw [<- hw4,<- hw3,<- hw2,<- hw1];exact ((((Below.refl _ w).alloc (Nat.le_refl _) _).alloc (by simp) _).alloc (by simp;omega) _).alloc (by simp;omega) _
  have g1:w.grownBy w4 (some B):=⟨b4.os,b4.tape,b4.output,b4.size,fun k hk _=>b4.block k hk⟩
  have V2:Blk w2 (w.heap.size+1) 175 [.pointer (some ⟨3,102,none⟩),.pointer (some ⟨w.heap.size,0,none⟩),.int .u64 150]:=by rw [<- hw2,<- s1];exact Blk.new w1 _ _
  have V3:Blk w3 (w.heap.size+1) 175 [.pointer (some ⟨3,102,none⟩),.pointer (some ⟨w.heap.size,0,none⟩),.int .u64 150]:=by rw [<- hw3];exact V2.alloc _
  have U3:Blk w3 (w.heap.size+1+1) 175 [.pointer (some ⟨3,102,none⟩),.pointer (some ⟨w.heap.size,0,none⟩),.int .u64 150]:=by rw [<- hw3,<- s2];exact Blk.new w2 _ _
  have y0:=V2.cell 0
  have y1:=V2.cell 1
  have y2:=V2.cell 2
  have z0:=U3.cell 0
  have z1:=U3.cell 1
  have z2:=U3.cell 2
  simp only [List.getElem?_cons_zero,List.getElem?_cons_succ] at y0 y1 y2 z0 z1 z2
  have hlt:0 < w.heap.size:=by
    unfold Gh World.cell? at hg
    rcases Nat.lt_or_ge 0 w.heap.size with h | h
    · exact h
    · simp [Array.getElem?_eq_none h] at hg
  have hg2:w2.cell? ⟨0,0,none⟩=some (.iface 239 (.agg #[.pointer (some ⟨3,96,none⟩)])):=by
    rw [<- hw2,<- hw1,World.cell?_alloc_lt _ _ ⟨0,0,none⟩ (by rw [World.size_alloc];exact Nat.lt_succ_of_lt hlt),World.cell?_alloc_lt _ _ ⟨0,0,none⟩ hlt];exact hg
  have n8:=Tryz.isNilP ⟨w.heap.size,0,none⟩ ⟨B,0,none⟩ w2 (p2.cell 0)
  have el:=Tryz.elemVP ⟨w.heap.size,0,none⟩ ⟨B,0,none⟩ w3 (p3.cell 0)
  have st:=Tryz.setL B (w.heap.size+1+1+1) c (.int .i64 old) w4 (q4.cell 0) (B4.cell 0) (B4.frozen 0)
  have o2:w1.heap.size=w.heap.size+1:=s1
  unfold lkV
  go_enter Tryz.func52,Tryz.ntmps52
  go_wp2
  refine wp_loop_rounds 1 ?_
  rw [rounds_succ]
  go_wp2
  go_ret
  exact ⟨rfl,grownS_trans g1 (grown_set w4 B 0 _),B4.set 0 _⟩
end Go.Proofs.YtohachldbpejpaaGreatDoor
