/- A proof. -/
import Derived.Test.YtaidhenkijjcfaaGreatZqPfSz
import Derived.Test.YtaidhenkijjcfaaGreatZqTxsOpen
set_option maxRecDepth 20000
set_option maxHeartbeats 1000000
namespace Go.Proofs.YtaidhenkijjcfaaGreat
open Go.RowKit Go.ChangeShapes Go.WideShapes
set_option linter.unusedVariables false
section
variable {H:Type} {enc:TypeId × Value->H} {w:World} {base:Nat} {spare:Nat->Bool} {held:Bool}
theorem opuBlock {fuel:Nat} {c:Value} {x:DataW H × List MemPlace} (h:DataW.trod enc Tryz.prog w base spare held fuel 25 [c]=some x):∃ l:List Bk,RdKs w c l/\l.length<=maxLen/\∀ q ∈ l,FitK q:=by
  obtain ⟨a,n,p,rfl⟩:∃ a len cap,c=.slice a len cap:=by
    rcases Deep.open_slice Tryz.underlying25 h with ⟨hcs,_⟩ | ⟨ad,len',cap',m,n,D,Pl,hcs,_⟩ <;> (simp only [List.cons.injEq,and_true] at hcs;exact ⟨_,_,_,hcs⟩)
  obtain ⟨l,-,r⟩:=open_blockS h
  exact ⟨l,r⟩
end
end Go.Proofs.YtaidhenkijjcfaaGreat
namespace Go.Proofs.YtaidhenkijjcfaaGreat
open Go.RowKit Go.ChangeShapes Go.WideShapes
set_option linter.unusedVariables false
section
variable {H:Type} {enc:TypeId × Value->H} {w:World} {base:Nat} {spare:Nat->Bool} {held:Bool}
theorem open_Pf {fuel:Nat} {cs:List Value} {x:DataW H × List MemPlace} (h:DataW.trod enc Tryz.prog w base spare held fuel 30 cs=some x) :
    ∃ (p:Pf) (u:Pv),cs=pfC p u/\RdPf w p u/\FitPf p:=by
  obtain ⟨xs,n,_,_,hlen,hxl,hf⟩:=DataW.trod_struct Tryz.underlying30 h
  have h5:cs.length=5:=hlen.trans (by kernel_rfl)
  have hx5:xs.length=3:=hxl
  match cs,h5,xs,hx5 with
  | [c0,c1,c2,c3,c4],_,[y0,y1,y2],_ =>
    have k_int:Tryz.prog.cellsOf 3=1:=by kernel_rfl
    have k_Slaws_Block:Tryz.prog.cellsOf 25=1:=by kernel_rfl
    have k_laws_Qc:Tryz.prog.cellsOf 28=3:=by kernel_rfl
    have g0:DataW.trod enc Tryz.prog w base spare held n 3 [c0]=some y0:=by
      have e:=hf 0 _ rfl
      change DataW.trod enc Tryz.prog w base spare held n 3 (List.take (Tryz.prog.cellsOf 3) [c0,c1,c2,c3,c4])=some y0 at e
      rw [k_int] at e
      exact e
    have g1:DataW.trod enc Tryz.prog w base spare held n 25 [c1]=some y1:=by
      have e:=hf 1 _ rfl
      change DataW.trod enc Tryz.prog w base spare held n 25 (List.take (Tryz.prog.cellsOf 25) [c1,c2,c3,c4])=some y1 at e
      rw [k_Slaws_Block] at e
      exact e
    have g2:DataW.trod enc Tryz.prog w base spare held n 28 [c2,c3,c4]=some y2:=by
      have e:=hf 2 _ rfl
      change DataW.trod enc Tryz.prog w base spare held n 28 (List.take (Tryz.prog.cellsOf 28) [c2,c3,c4])=some y2 at e
      rw [k_laws_Qc] at e
      exact e
    obtain ⟨z0,e0,_,f0⟩:=DataW.trod_int Tryz.underlying3 g0
    obtain ⟨l1,r1,n1,q1⟩:=opuBlock g1
    obtain ⟨z2,b2,v2,l2,e2,r2,n2,q2,f2,ff2⟩:=open_qc9 g2
    simp only [List.cons.injEq,and_true] at e2
    obtain ⟨ea2,eb2,ec2⟩:=e2
    subst ea2 eb2 ec2
    simp only [List.cons.injEq,and_true] at e0
    subst e0
    exact ⟨⟨z0,l1,z2,b2,l2⟩,⟨c1,c4⟩,rfl,⟨r1,r2⟩,⟨f0,n1,q1,f2,ff2,n2,q2⟩⟩
end
end Go.Proofs.YtaidhenkijjcfaaGreat
