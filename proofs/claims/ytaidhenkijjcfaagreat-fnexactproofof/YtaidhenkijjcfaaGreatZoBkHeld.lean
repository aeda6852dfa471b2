/- A block marked, with what its lists are then; a block held against its marks. -/
import Derived.Test.YtaidhenkijjcfaaGreatZoKsHeld
set_option maxRecDepth 20000
set_option maxHeartbeats 1000000
namespace Go.Proofs.YtaidhenkijjcfaaGreat
open Go.RowKit Go.Sort
set_option linter.unusedVariables false
end Go.Proofs.YtaidhenkijjcfaaGreat
namespace Go.Proofs.YtaidhenkijjcfaaGreat
open Go.RowKit
set_option linter.unusedVariables false
def mkK (k:Nat) (b:Bk):Bk :=
  ⟨b.id,b.ep,b.rd,b.md,b.qr,b.qb,mkS k b.qw.length,b.tr,mkS (k+b.qw.length) b.tw.length,mkI (k+b.qw.length+b.tw.length) b.th.length,mkT (k+b.qw.length+b.tw.length+b.th.length) b.ts.length,b.en,mkV (k+b.qw.length+b.tw.length+b.th.length+5 * b.ts.length) b.nx.length,b.rt⟩
def mkC (k:Nat) (b:Bk):Nat:=k+b.qw.length+b.tw.length+b.th.length+5 * b.ts.length+2 * b.nx.length
theorem heldQc_any (r b:Int) (v:Value) (k n:Nat) (w:World) (hr:RdS w v (mkS k n)) (hl:n<=4000000) (hk:k<=50000000) (hk0:0 < k) :
    Calls Tryz.prog 79 #[qcV r b v,.int .i64 (k:Int)] w fun e w'=>e=.returned (.int .i64 ((k+n:Nat):Int))/\Below w.heap.size w w':=by
  obtain ⟨a,c,rfl⟩:=hr.shape
  rw [mkS_len]
  rw [mkS_len] at hr
  simp only [qcV]
  obtain ⟨w1,hw1⟩:∃ x,w.alloc (.cells #[.int .i64 r,.int .i64 b,.slice a n c] 40)=x:=⟨_,rfl⟩
  have b1:Below w.heap.size w w1:=by rw [<- hw1];exact (Below.refl _ w).alloc (Nat.le_refl _) _
  have k1:Blk w1 w.heap.size 40 [.int .i64 r,.int .i64 b,.slice a n c]:=by rw [<- hw1];exact Blk.new w _ _
  have HM:=hide (heldStringS_any (.slice a n c) k n w1 (hr.below b1 (Nat.le_refl _)) (by omega) (by omega) hk0)
  have x2:=k1.cell 2
  simp only [List.getElem?_cons_zero,List.getElem?_cons_succ] at x2
  have HB:=hide b1
  obtain ⟨K,hK⟩:∃ K:Nat,k+n=K:=⟨_,rfl⟩
  rw [hK] at HM ⊢
  clear hr k1 b1 hK
  have hnn:¬ (K:Int) < 0:=by omega
  go_enter Tryz.func79,Tryz.ntmps79
  go_wp2_with fail
  refine HM.out.mono ?_
  rintro e w2 ⟨rfl,hb2⟩
  clear x2 hw1
  go_wp2
  go_ret
  exact ⟨rfl,HB.out.trans (hb2.mono HB.out.size)⟩
end Go.Proofs.YtaidhenkijjcfaaGreat
