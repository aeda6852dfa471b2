/- Least and Most of the model. -/
import Derived.Test.YtfdbedenlbikgaaZoLkPure
import Derived.Test.YtfdbedenlbikgaaZoLdMid
import Derived.Test.YtfdbedenlbikgaaZoVtOpen
import Derived.Deep.Cut
set_option maxRecDepth 20000
set_option maxHeartbeats 4000000
namespace Go.Proofs.Ytfdbedenlbikgaa
open Go.RowKit Go.Sort
set_option linter.unusedVariables false
theorem specMostN_any (ep:Int) (va vf vb vs vm:Value) (adn:Option Addr) (cpn:Nat) (ns:List Nd) (w:World) (hN:RdNs w (.slice adn ns.length cpn) ns) (hl:ns.length<=4000000) :
    Calls Try.prog 10 #[.agg #[.int .i64 ep,va,vf,.slice adn ns.length cpn,vb,vs,vm]] w fun e w'=>e=.returned (.int .i64 (moB (doneA ns)))/\Below w.heap.size w w':=by
  obtain ⟨w1,hw1⟩:∃ x,w.alloc (.cells #[.int .i64 ep,va,vf,.slice adn ns.length cpn,vb,vs,vm] 42)=x:=⟨_,rfl⟩
  have b1:Below w.heap.size w w1:=by rw [<- hw1];exact (Below.refl _ w).alloc (Nat.le_refl _) _
  have K1:=hide (show Blk w1 w.heap.size 42 [.int .i64 ep,va,vf,.slice adn ns.length cpn,vb,vs,vm] from by rw [<- hw1];exact Blk.new w _ _)
  have HN:=hide hN
  have B1:=hide b1
  have x3:=K1.out.cell 3
  simp only [List.getElem?_cons_zero,List.getElem?_cons_succ] at x3
  clear hN b1
  go_enter Try.func10,Try.ntmps10
  go_upto_region 1 with fail
  (try rw [hw1])
  clear hw1
  obtain ⟨M,hM⟩:∃ x,(.agg #[.int .i64 ep,va,vf,.slice adn ns.length cpn,vb,vs,vm]:Value)=x:=⟨_,rfl⟩
  rw [hM]
  clear hM
  go_wp2
  go_loopw [4,3] (fun iv nv wr=>∃ i:Nat,i<=ns.length/\iv=.int .i64 (i:Int)/\nv=.int .i64 (moS (doneA ns) i)/\wr=w1) (fun iv _ _=>ns.length - (intOf iv).toNat)
  case atStart=>exact ⟨0,Nat.zero_le _,rfl,rfl,rfl⟩
  case round =>
    obtain ⟨i,hi,rfl,rfl,rfl⟩:=hrel
    by_cases hlt:i < ns.length
    · obtain ⟨b0,off,rfl,hc1,hc2,h3,hcell⟩:=HN.out.sf20 (by omega)
      obtain ⟨u,hat,hru⟩:=hcell i hlt
      obtain ⟨ad,cd,hd⟩:=hru.kd.shape
      have c1:=(range_below hat B1.out h3) 17 u.d rfl
      rw [hd] at c1
      have hD:=doneA_at hlt
      have hii:(i:Int) < (ns.length:Int):=by omega
      have hi0:(0:Int)<=(i:Int):=by omega
      by_cases hx:moS (doneA ns) i < (ns[i].dn.length:Int)
      · have Hnx:Hid (moS (doneA ns) (i+1)=(ns[i].dn.length:Int)):=hide (by rw [moS,hD,if_pos hx])
        clear hD hd hat hru hcell
        generalize ns[i].dn.length=n1 at c1 Hnx hx
        generalize moS (doneA ns) i=n2 at hx
        go_wp2
        go_roundw
        case rel=>exact ⟨i+1,by omega,by go_num,by rw [Hnx.out],trivial⟩
        case measure=>simp [intOf];omega
      · have Hnx:Hid (moS (doneA ns) (i+1)=moS (doneA ns) i):=hide (by rw [moS,hD,if_neg hx])
        clear hD hd hat hru hcell
        generalize ns[i].dn.length=n1 at c1 hx
        generalize moS (doneA ns) i=n2 at hx Hnx
        go_wp2
        go_roundw
        case rel=>exact ⟨i+1,by omega,by go_num,by rw [Hnx.out],trivial⟩
        case measure=>simp [intOf];omega
    · have hii:¬ (i:Int) < (ns.length:Int):=by omega
      have HX:Hid (moS (doneA ns) i=moB (doneA ns)):=hide (by rw [show i=(doneA ns).length from by rw [doneA_len];omega];exact moB_is _ (doneA_pos ns))
      go_wp2
      go_ret
      exact ⟨ret_int HX.out,B1.out⟩
theorem specMost_any (p:Wd) (u:Wv) (w:World) (hr:RdWd w p u) (hf:FewWd p) (hft:FitWd p) :
    Calls Try.prog 10 #[wdV p u] w fun e w'=>e=.returned (.int .i64 (moB (doneA p.ns)))/\Below w.heap.size w w':=by
  obtain ⟨ad,cp,e⟩:=hr.kn.shape
  have h:=hr.kn
  unfold wdV
  rw [e] at h ⊢
  exact specMostN_any p.ep u.a u.f u.b u.s u.m ad cp p.ns w h hf.nn
end Go.Proofs.Ytfdbedenlbikgaa
