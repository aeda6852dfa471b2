/- OneVote of the model. -/
import Derived.Test.YtmbbpmbkbiggmaaZoSfOne
import Derived.Test.YtmbbpmbkbiggmaaZoVtOpen
import Derived.Deep.Cut
set_option maxRecDepth 20000
set_option maxHeartbeats 4000000
namespace Go.Proofs.Ytmbbpmbkbiggmaa
open Go.RowKit
set_option linter.unusedVariables false
theorem specOneVoteN_any (ep:Int) (va vf vn vb vm:Value) (ads:Option Addr) (cps:Nat) (sg:List Sn) (w:World) (hS:RdSs w (.slice ads sg.length cps) sg) (hl:sg.length<=4000000) :
    Calls Try.prog 6 #[.agg #[.int .i64 ep,va,vf,vn,vb,.slice ads sg.length cps,vm]] w fun e w'=>e=.returned (.bool (ovB sg))/\Below w.heap.size w w':=by
  obtain ⟨w1,hw1⟩:∃ x,w.alloc (.cells #[.int .i64 ep,va,vf,vn,vb,.slice ads sg.length cps,vm] 42)=x:=⟨_,rfl⟩
  have b1:Below w.heap.size w w1:=by rw [<- hw1];exact (Below.refl _ w).alloc (Nat.le_refl _) _
  have K1:=hide (show Blk w1 w.heap.size 42 [.int .i64 ep,va,vf,vn,vb,.slice ads sg.length cps,vm] from by rw [<- hw1];exact Blk.new w _ _)
  have HS:=hide hS
  have B1:=hide b1
  clear hS b1
  go_enter Try.func6,Try.ntmps6
  go_upto_region 1 with fail
  (try rw [hw1])
  clear hw1
  obtain ⟨M,hM⟩:∃ x,(.agg #[.int .i64 ep,va,vf,vn,vb,.slice ads sg.length cps,vm]:Value)=x:=⟨_,rfl⟩
  rw [hM]
  clear hM
  go_wp2
  go_loopw [3] (fun iv wr=>∃ i:Nat,i<=sg.length/\iv=.int .i64 (i:Int)/\(∀ j (h:j < sg.length),j < i->∀ k (hk:k < j),twB sg[j] (sg[k]'(by omega))=false)/\Below w1.heap.size w1 wr) (fun iv _=>sg.length - (intOf iv).toNat)
  case atStart=>exact ⟨0,Nat.zero_le _,rfl,(fun j _ h=>by omega),Below.refl _ _⟩
  case round =>
    obtain ⟨i,hi,rfl,hlo,hb⟩:=hrel
    have Hlo:=hide hlo
    clear hlo
    have x5:=(K1.out.below hb K1.out.lt).cell 5
    simp only [List.getElem?_cons_zero,List.getElem?_cons_succ] at x5
    by_cases hlt:i < sg.length
    · have hii : (i : Int) < (sg.length:Int):=by omega
      have Hb:=hide hb
      clear hb
      go_wp2
      clear x5
      go_loopw [4] (fun kv wr=>∃ k:Nat,k<=i/\kv=.int .i64 (k:Int)/\(∀ j (h:j < i),j < k->twB sg[i] (sg[j]'(by omega))=false)/\Below w1.heap.size w1 wr) (fun kv _=>i - (intOf kv).toNat)
      case atStart=>exact ⟨0,Nat.zero_le _,rfl,(fun j _ h=>by omega),Hb.out⟩
      case round =>
        obtain ⟨k,hk,rfl,hin,hq⟩:=hrel
        have Hin:=hide hin
        clear hin
        by_cases hlk:k < i
        · obtain ⟨b0, off,rfl,h3,hcell⟩:=HS.out.sf5 (by omega)
          have hBq:=B1.out.trans (hq.mono B1.out.size)
          have r1:=range_below (hcell i hlt) hBq h3
          have r2:=range_below (hcell k (by omega)) hBq h3
          have x5:=(K1.out.below hq K1.out.lt).cell 5
          simp only [List.getElem?_cons_zero,List.getElem?_cons_succ] at x5
          have Hno:Hid (twB sg[i] (sg[k]'(by omega))=true->ovB sg=false):=hide (fun h=>ov_no hlt hlk h)
          have Hyes:Hid (twB sg[i] (sg[k]'(by omega))=false->∀ j (h:j < i),j < k+1->twB sg[i] (sg[j]'(by omega))=false):=hide (fun h j hj hjk=>by
            by_cases e:j=k
            · subst e;exact h
            · exact Hin.out j hj (by omega))
          have c0:=r1 0 _ rfl
          have c1:=r1 1 _ rfl
          have c2:=r1 2 _ rfl
          have c3:=r1 3 _ rfl
          have c4:=r1 4 _ rfl
          have d0:=r2 0 _ rfl
          have d1:=r2 1 _ rfl
          have d2:=r2 2 _ rfl
          have d3:=r2 3 _ rfl
          have d4:=r2 4 _ rfl
          generalize (sg[k]'(by omega))=t at d0 d1 d2 d3 d4 Hno Hyes
          generalize sg[i]=s at c0 c1 c2 c3 c4 Hno Hyes
          obtain ⟨k1,e1,r1',x1,m1⟩:=s
          obtain ⟨k2,e2,r2',x2,m2⟩:=t
          simp only [Nat.add_zero] at c0 c1 c2 c3 c4 d0 d1 d2 d3 d4
          have hki:(k:Int) < (i:Int):=by omega
          have hkn:(k:Int) < (sg.length:Int):=by omega
          have hk0:(0:Int)<=(k:Int):=by omega
          have hi0:(0:Int)<=(i:Int):=by omega
          obtain ⟨w2,hw2⟩:∃ y,wr.alloc (.cells #[.int .i64 k1,.int .i64 e1,.int .i64 r1',.int .i64 x1,.string m1] 53)=y:=⟨_,rfl⟩
          have b2:Below wr.heap.size wr w2:=by rw [<- hw2];exact (Below.refl _ wr).alloc (Nat.le_refl _) _
          have s2:w2.heap.size=wr.heap.size+1:=by rw [<- hw2];simp
          have K2:Blk w2 wr.heap.size 53 [.int .i64 k1,.int .i64 e1,.int .i64 r1',.int .i64 x1,.string m1]:=by rw [<- hw2];exact Blk.new wr _ _
          obtain ⟨w3,hw3⟩:∃ y,w2.alloc (.cells #[.int .i64 k2,.int .i64 e2,.int .i64 r2',.int .i64 x2,.string m2] 53)=y:=⟨_,rfl⟩
          have b3:Below wr.heap.size wr w3:=by rw [<- hw3];exact b2.alloc b2.size _
          have b23:Below w2.heap.size w2 w3:=by rw [<- hw3];exact (Below.refl _ w2).alloc (Nat.le_refl _) _
          have K3:Blk w3 w2.heap.size 53 [.int .i64 k2,.int .i64 e2,.int .i64 r2',.int .i64 x2,.string m2]:=by rw [<- hw3];exact Blk.new w2 _ _
          have K23:=K2.below b23 K2.lt
          have y5:=(b2.cell (p:=⟨w.heap.size,5,none⟩) (World.block_lt_of_cell? wr _ x5)).trans x5
          have q0:=(b2.cell (p:=⟨b0,off+k * 5,none⟩) (World.block_lt_of_cell? wr _ d0)).trans d0
          have q1:=(b2.cell (p:=⟨b0,off+k * 5+1,none⟩) (World.block_lt_of_cell? wr _ d1)).trans d1
          have q2:=(b2.cell (p:=⟨b0,off+k * 5+2,none⟩) (World.block_lt_of_cell? wr _ d2)).trans d2
          have q3:=(b2.cell (p:=⟨b0,off+k * 5+3,none⟩) (World.block_lt_of_cell? wr _ d3)).trans d3
          have q4:=(b2.cell (p:=⟨b0,off+k * 5+4,none⟩) (World.block_lt_of_cell? wr _ d4)).trans d4
          have g0:=K23.cell 0
          have g1:=K23.cell 1
          have g2:=K23.cell 2
          have g3:=K23.cell 3
          have g4:=K23.cell 4
          have z0:=K3.cell 0
          have z1:=K3.cell 1
          have z2:=K3.cell 2
          have z3:=K3.cell 3
          have z4:=K3.cell 4
          simp only [List.getElem?_cons_zero,List.getElem?_cons_succ] at g0 g1 g2 g3 g4 z0 z1 z2 z3 z4
          rw [s2] at z0 z1 z2 z3 z4
          have B3:=hide (hq.trans (b3.mono hq.size))
          clear hcell r1 r2 hBq b2 b3 b23 K2 K3 K23 hq d0 d1 d2 d3 d4 Hin
          go_upto_region 8 with fail
          (try rw [hw2])
          clear hw2 c0 c1 c2 c3 c4 x5
          go_upto_region 9 with fail
          (try rw [hw3])
          clear hw3 q0 q1 q2 q3 q4 y5 s2
          by_cases h:k1=1/\k2=1/\e1=e2/\r1'=r2'/\m1=m2/\x1 ≠ x2
          · have hf:=hide (Hno.out (tw_yes h))
            obtain ⟨rfl,rfl,rfl,rfl,rfl,hx⟩:=h
            have hq:=int_ne hx
            clear Hno Hyes hx
            go_wp2
            go_ret
            exact ⟨ret_bool hf.out.symm,B1.out.trans (B3.out.mono B1.out.size)⟩
          · have hn := hide (Hyes.out (tw_no h))
            clear Hno Hyes
            have hgo:(if k1=1/\k2=1/\e1=e2/\r1'=r2'/\m1=m2/\x1 ≠ x2 then true else false)=false:=if_neg h
            by_cases a1:k1=1
            · by_cases a2:k2=1
              · by_cases a3:e1=e2
                · by_cases a4:r1'=r2'
                  · by_cases a5:m1=m2
                    · have a6:x1=x2:=Classical.byContradiction (fun t=>h ⟨a1,a2,a3,a4,a5,t⟩)
                      clear h hgo
                      subst a1 a2 a3 a4 a5 a6
                      go_wp2
                      go_roundw
                      case rel=>exact ⟨k+1,by omega,by go_num,hn.out,B3.out⟩
                      case measure=>simp [intOf];omega
                    · have a6:=bytes_ne a5
                      clear h hgo a5
                      subst a1 a2 a3 a4
                      go_wp2
                      go_roundw
                      case rel=>exact ⟨k+1,by omega,by go_num,hn.out,B3.out⟩
                      case measure=>simp [intOf];omega
                  · have a6:(r1' == r2')=false:=by rw [beq_eq_false_iff_ne];exact a4
                    clear h hgo a4
                    subst a1 a2 a3
                    go_wp2
                    go_roundw
                    case rel=>exact ⟨k+1,by omega,by go_num,hn.out,B3.out⟩
                    case measure=>simp [intOf];omega
                · have a6:(e1 == e2)=false:=by rw [beq_eq_false_iff_ne];exact a3
                  clear h hgo a3
                  subst a1 a2
                  go_wp2
                  go_roundw
                  case rel=>exact ⟨k+1,by omega,by go_num,hn.out,B3.out⟩
                  case measure=>simp [intOf];omega
              · have a6:(k2 == 1)=false:=by rw [beq_eq_false_iff_ne];exact a2
                clear h hgo a2
                subst a1
                go_wp2
                go_roundw
                case rel=>exact ⟨k+1,by omega,by go_num,hn.out,B3.out⟩
                case measure=>simp [intOf];omega
            · have a6:(k1 == 1)=false:=by rw [beq_eq_false_iff_ne];exact a1
              clear h hgo a1
              go_wp2
              go_roundw
              case rel=>exact ⟨k+1,by omega,by go_num,hn.out,B3.out⟩
              case measure=>simp [intOf];omega
        · have hki:¬ (k:Int) < (i:Int):=by omega
          have Hq:=hide hq
          clear hq
          go_wp2
          go_roundw
          case rel=>exact ⟨i+1,by omega,by go_num,fun j h hj=>by
            by_cases e:j=i
            · subst e;exact fun k' hk'=>Hin.out k' hk' (by omega)
            · exact Hlo.out j h (by omega),Hq.out⟩
          case measure=>simp [intOf];omega
    · have hii:¬ (i:Int) < (sg.length:Int):=by omega
      have hf:=hide (ov_yes (l:=sg) (fun j h=>Hlo.out j h (by omega)))
      go_wp2
      go_ret
      exact ⟨ret_bool hf.out.symm,B1.out.trans (hb.mono B1.out.size)⟩
theorem specOneVote_any (p:Wd) (u:Wv) (w:World) (hr:RdWd w p u) (hf:FewWd p) (hft:FitWd p) :
    Calls Try.prog 6 #[wdV p u] w fun e w'=>e=.returned (.bool (ovB p.sg))/\Below w.heap.size w w':=by
  obtain ⟨ad,cp,e⟩:=hr.ks.shape
  have h:=hr.ks
  unfold wdV
  rw [e] at h ⊢
  exact specOneVoteN_any p.ep u.a u.f u.n u.b u.m ad cp p.sg w h hf.ns
end Go.Proofs.Ytmbbpmbkbiggmaa
