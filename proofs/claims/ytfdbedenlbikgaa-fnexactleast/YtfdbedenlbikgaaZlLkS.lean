/- Least and Most of the model. -/
import Derived.Test.YtfdbedenlbikgaaZlLkPure
import Derived.Test.YtfdbedenlbikgaaZlLdMid
import Derived.Test.YtfdbedenlbikgaaZlVtOpen
import Derived.Deep.Cut
set_option maxRecDepth 20000
set_option maxHeartbeats 4000000
namespace Go.Proofs.Ytfdbedenlbikgaa
open Go.RowKit Go.Sort
set_option linter.unusedVariables false
theorem specLeastN_any (ep:Int) (va vf vb vs vm:Value) (adn:Option Addr) (cpn:Nat) (ns:List Nd) (w:World) (hN:RdNs w (.slice adn ns.length cpn) ns) (hl:ns.length<=4000000) :
    Calls Try.prog 6 #[.agg #[.int .i64 ep,va,vf,.slice adn ns.length cpn,vb,vs,vm]] w fun e w'=>e=.returned (.int .i64 (leB (doneA ns)))/\Below w.heap.size w w':=by
  obtain ⟨w1,hw1⟩:∃ x,w.alloc (.cells #[.int .i64 ep,va,vf,.slice adn ns.length cpn,vb,vs,vm] 42)=x:=⟨_,rfl⟩
  have b1:Below w.heap.size w w1:=by rw [<- hw1];exact (Below.refl _ w).alloc (Nat.le_refl _) _
  have K1:=hide (show Blk w1 w.heap.size 42 [.int .i64 ep,va,vf,.slice adn ns.length cpn,vb,vs,vm] from by rw [<- hw1];exact Blk.new w _ _)
  have HN:=hide hN
  have B1:=hide b1
  have x3:=K1.out.cell 3
  simp only [List.getElem?_cons_zero,List.getElem?_cons_succ] at x3
  clear hN b1
  go_enter Try.func6,Try.ntmps6
  go_upto_region 1 with fail
  (try rw [hw1])
  clear hw1
  obtain ⟨M,hM⟩:∃ x,(.agg #[.int .i64 ep,va,vf,.slice adn ns.length cpn,vb,vs,vm]:Value)=x:=⟨_,rfl⟩
  rw [hM]
  clear hM
  go_wp2
  go_loopw [4,3] (fun iv nv wr=>∃ i:Nat,i<=ns.length/\iv=.int .i64 (i:Int)/\nv=.int .i64 (leS (doneA ns) i)/\wr=w1) (fun iv _ _=>ns.length - (intOf iv).toNat)
  case atStart=>exact ⟨0,Nat.zero_le _,rfl,rfl,rfl⟩
  case round =>
    obtain ⟨i,hi,rfl,rfl,rfl⟩:=hrel
    by_cases hlt:i < ns.length
    · obtain ⟨b0,off,rfl,hc1,hc2,h3,hcell⟩:=HN.out.sf20 (by omega)
      obtain ⟨u,hat,hru⟩:=hcell i hlt
      obtain ⟨ad,cd,hd⟩:=hru.kd.shape
      have c1:=(range_below hat B1.out h3) 17 u.d rfl
      rw [hd] at c1
      have hD:=doneA_at hlt
      have hii:(i:Int) < (ns.length:Int):=by omega
      have hi0:(0:Int)<=(i:Int):=by omega
      by_cases hz:i=0
      · have hzb:((i:Int) == 0)=true:=by rw [hz];rfl
        have Hnx:Hid (leS (doneA ns) (i+1)=(ns[i].dn.length:Int)):=hide (by rw [leS,hD,if_pos (.inl hz)])
        clear hz hD hd hat hru hcell
        generalize ns[i].dn.length=n1 at c1 Hnx
        go_wp2
        go_roundw
        case rel=>exact ⟨i+1,by omega,by go_num,by rw [Hnx.out],trivial⟩
        case measure=>simp [intOf];omega
      have hzb:((i:Int) == 0)=false:=by rw [beq_eq_false_iff_ne];omega
      by_cases hx:(ns[i].dn.length:Int) < leS (doneA ns) i
      · have Hnx:Hid (leS (doneA ns) (i+1)=(ns[i].dn.length:Int)):=hide (by rw [leS,hD,if_pos (.inr hx)])
        clear hD hd hat hru hcell
        generalize ns[i].dn.length=n1 at c1 Hnx hx
        generalize leS (doneA ns) i=n2 at hx
        go_wp2
        go_roundw
        case rel=>exact ⟨i+1,by omega,by go_num,by rw [Hnx.out],trivial⟩
        case measure=>simp [intOf];omega
      · have Hnx:Hid (leS (doneA ns) (i+1)=leS (doneA ns) i):=hide (by rw [leS,hD,if_neg (fun e=>e.elim hz hx)])
        clear hD hd hat hru hcell
        generalize ns[i].dn.length=n1 at c1 hx
        generalize leS (doneA ns) i=n2 at hx Hnx
        go_wp2
        go_roundw
        case rel=>exact ⟨i+1,by omega,by go_num,by rw [Hnx.out],trivial⟩
        case measure=>simp [intOf];omega
    · have hii:¬ (i:Int) < (ns.length:Int):=by omega
      have HX:Hid (leS (doneA ns) i=leB (doneA ns)):=hide (by rw [show i=(doneA ns).length from by rw [doneA_len];omega];exact leB_is _)
      go_wp2
      go_ret
      exact ⟨ret_int HX.out,B1.out⟩
theorem specLeast_any (p:Wd) (u:Wv) (w:World) (hr:RdWd w p u) (hf:FewWd p) (hft:FitWd p) :
    Calls Try.prog 6 #[wdV p u] w fun e w'=>e=.returned (.int .i64 (leB (doneA p.ns)))/\Below w.heap.size w w':=by
  obtain ⟨ad,cp,e⟩:=hr.kn.shape
  have h:=hr.kn
  unfold wdV
  rw [e] at h ⊢
  exact specLeastN_any p.ep u.a u.f u.b u.s u.m ad cp p.ns w h hf.nn
end Go.Proofs.Ytfdbedenlbikgaa
