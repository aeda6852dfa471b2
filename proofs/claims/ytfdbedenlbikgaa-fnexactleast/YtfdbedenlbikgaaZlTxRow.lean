/- Orders in memory. -/
import Derived.Laws.IdiomStrings
import Derived.Test.YtfdbedenlbikgaaZlTxVal
import Derived.Deep.RegionHeldLaw
import Derived.Deep.RegionLaw
set_option maxRecDepth 20000
set_option maxHeartbeats 2000000
namespace Go.Proofs.Ytfdbedenlbikgaa
open Go.RowKit
set_option linter.unusedVariables false
def dg:Nat->Nat->List UInt8->List UInt8
  | 0,_,acc=>acc
  | f+1,k,acc=>if k=0 then acc else dg f (k / 10) (UInt8.ofNat (48+k % 10) :: acc)
def mtx (k:Nat):ByteArray:=⟨(109 :: dg k k []).toArray⟩
def mkS (k n:Nat):List ByteArray:=(List.range n).map (fun i=>mtx (k+i))
structure TxAt (w:World) (b o:Nat) (t:Tx5):Prop where
  c0:w.cell? ⟨b,o,none⟩=some (.int .i64 t.1)
  c1:w.cell? ⟨b,o+1,none⟩=some (.string t.2.1)
  c2:w.cell? ⟨b,o+2,none⟩=some (.string t.2.2.1)
  c3:w.cell? ⟨b,o+3,none⟩=some (.int .i64 t.2.2.2.1)
  c4:w.cell? ⟨b,o+4,none⟩=some (.int .i64 t.2.2.2.2)
theorem TxAt.below {w w':World} {B b o:Nat} {t:Tx5} (h:TxAt w b o t) (hb:Below B w w') (hB:b < B):TxAt w' b o t :=
  ⟨(hb.cell (p:=⟨b,o,none⟩) hB).trans h.c0,(hb.cell (p:=⟨b,o+1,none⟩) hB).trans h.c1,(hb.cell (p:=⟨b,o+2,none⟩) hB).trans h.c2,(hb.cell (p:=⟨b,o+3,none⟩) hB).trans h.c3,(hb.cell (p:=⟨b,o+4,none⟩) hB).trans h.c4⟩
def RdT (w:World) (v:Value) (l:List Tx5):Prop :=
  (∃ a cap,v=.slice a 0 cap/\l=[]/\(a=none->cap=0)) \/
  ∃ b off cap,l ≠ []/\v=.slice (some ⟨b,off,none⟩) l.length cap/\l.length<=cap/\cap<=maxLen/\b < w.heap.size/\∀ i (h:i < l.length),TxAt w b (off+i * 5) l[i]
theorem RdT.shape {w:World} {v:Value} {l:List Tx5} (h:RdT w v l):∃ a cap,v=.slice a l.length cap:=by
  rcases h with ⟨a,cap,rfl,rfl,-⟩ | ⟨b,off,cap,h0,rfl,_⟩
  · exact ⟨a,cap,rfl⟩
  · exact ⟨_,cap,rfl⟩
theorem RdT.below {B:Nat} {w w':World} {v:Value} {l:List Tx5} (h:RdT w v l) (hb:Below B w w') (hB:w.heap.size<=B):RdT w' v l:=by
  rcases h with h | ⟨b,off,cap,h0,hv,h1,h2,h3,h4⟩
  · exact .inl h
  · exact .inr ⟨b,off,cap,h0,hv,h1,h2,by have:=hb.size;omega,fun i hi=>(h4 i hi).below hb (by omega)⟩
def txC (t:Tx5):List Value:=[.int .i64 t.1,.string t.2.1,.string t.2.2.1,.int .i64 t.2.2.2.1,.int .i64 t.2.2.2.2]
def txZ:List Value:=[.int .i64 0,.string { data:=#[] },.string { data:=#[] },.int .i64 0,.int .i64 0]
theorem txM_sz (l:List Tx5):∀ x ∈ l.map txC,x.length=5:=fun x hx=>by obtain ⟨p,_,rfl⟩:=List.mem_map.1 hx;rfl
theorem txP_sz (l:List Tx5) (k:Nat):∀ x ∈ part txC txZ l k,x.length=5:=part_sz 5 _ _ _ _ (fun _=>rfl) rfl
def OwnT (base:Nat) (w:World) (v:Value) (l:List Tx5):Prop:=w.ownsRow base 171 5 v l.length (l.map txC).flatten
theorem OwnT.rd {base:Nat} {w:World} {v:Value} {l:List Tx5} (h:OwnT base w v l):RdT w v l:=by
  rcases h.2 with ⟨rfl,hn⟩ | ⟨g,cap,cur,rfl,hb,hg,hnc,hcm,hcs,ht⟩
  · have:l=[]:=List.length_eq_zero_iff.1 hn
    subst this
    exact .inl ⟨_,_,rfl,rfl,fun _=>rfl⟩
  · by_cases hn:l=[]
    · subst hn;exact .inl ⟨_,_,rfl,rfl,fun h=>by cases h⟩
    · refine .inr ⟨g,0,cap,hn,rfl,hnc,hcm,(Array.getElem?_eq_some_iff.1 hg).1,fun i hi=>?_⟩
      have cell:∀ j,j < 5->w.cell? ⟨g,0+i * 5+j,none⟩=(txC l[i])[j]?:=fun j hj=>by
        rw [Nat.zero_add,World.ownsRow.cellAt h (i * 5+j) (by omega),flat_get 5 (l.map txC) i j (by simpa using hi) (txM_sz l) hj]
        simp
      exact ⟨by have:=cell 0 (by omega);simpa [txC] using this,by have:=cell 1 (by omega);simpa [txC] using this,by have:=cell 2 (by omega);simpa [txC] using this,by have:=cell 3 (by omega);simpa [txC] using this,by have:=cell 4 (by omega);simpa [txC] using this⟩
theorem OwnT.below {B base:Nat} {w w':World} {v:Value} {l:List Tx5} (h:OwnT base w v l) (hb:Below B w w') (hB:w.heap.size<=B):OwnT base w' v l:=row_below h hb hB
theorem OwnT.lt {base:Nat} {w:World} {v:Value} {l:List Tx5} (h:OwnT base w v l):∀ k,v.ownBlock=some k->base<=k/\k < w.heap.size:=fun k hk=>World.ownsRow.lt h k hk
theorem Try.infoTx:(Try.prog.info? 171).map (fun i=>(i.zero,i.size,i.bytes))=some (some (.agg #[.int .i64 0,.string { data:=#[] },.string { data:=#[] },.int .i64 0,.int .i64 0]),5,56):=by kernel_rfl
theorem toTxS_any (v:Value) (l:List Tx5) (w:World) (hr:RdT w v l) (hl:l.length<=4000000) :
    Calls Try.prog 66 #[v] w fun e w'=>∃ v',e=.returned v'/\OwnT w.heap.size w' v' l/\Below w.heap.size w w':=by
  obtain ⟨i0,hi,hz0,hz1,hz2⟩:=info_parts Try.infoTx
  rcases hr with ⟨a,cap,rfl,rfl,-⟩ | ⟨b,off,cap,h0,rfl,h1,h2,h3,h4⟩
  · go_enter Try.func66,Try.ntmps66
    go_wp2_with (refine wpList_make_full _ rfl _ _ 60 rfl w.heap.size 171 i0 (.agg #[.int .i64 0,.string { data:=#[] },.string { data:=#[] },.int .i64 0,.int .i64 0]) 5 Try.underlying60 hi hz0 hz1 .i64 .i64 _ _ 0 rfl rfl rfl rfl (by omega) (by unfold maxLen;omega) (Nat.le_refl _) ?_;intro w1 hown hgrow)
    have hb1:Below w.heap.size w w1:=(Below.refl _ _).grown hgrow (Nat.le_refl _) (by intro k hk;cases hk)
    refine wp_loop_rounds 1 ?_
    rw [rounds_succ]
    go_wp2
    go_ret
    have ho':OwnT w.heap.size w1 (.slice (some ⟨w.heap.size,0,none⟩) 0 0) []:=by
      have e:=made_flat (Value.agg #[.int .i64 0,.string { data:=#[] },.string { data:=#[] },.int .i64 0,.int .i64 0]).cells 5 0 rfl (by omega)
      rw [e] at hown
      exact hown
    exact ⟨_,rfl,ho',hb1⟩
  · go_enter Try.func66,Try.ntmps66
    go_wp2_with (refine wpList_make_full _ rfl _ _ 60 rfl w.heap.size 171 i0 (.agg #[.int .i64 0,.string { data:=#[] },.string { data:=#[] },.int .i64 0,.int .i64 0]) 5 Try.underlying60 hi hz0 hz1 .i64 .i64 _ _ l.length rfl rfl rfl rfl (by rw [hz2];omega) (by unfold maxLen;omega) (Nat.le_refl _) ?_;intro w1 hown hgrow)
    have hb1:Below w.heap.size w w1:=(Below.refl _ _).grown hgrow (Nat.le_refl _) (by intro k hk;cases hk)
    go_loopw [4] (fun i wr=>∃ k:Nat,k<=l.length/\i=.int .i64 k/\wr.ownsRow w.heap.size 171 5 (.slice (some ⟨w.heap.size,0,none⟩) l.length l.length) l.length (part txC txZ l k).flatten/\Below w.heap.size w wr)
      (fun i _=>l.length - (intOf i).toNat)
    case atStart =>
      refine ⟨0,Nat.zero_le _,rfl,?_,hb1⟩
      rw [part_zero]
      have e:=made_flat (Value.agg #[.int .i64 0,.string { data:=#[] },.string { data:=#[] },.int .i64 0,.int .i64 0]).cells 5 l.length rfl (by omega)
      rw [e] at hown
      exact hown
    case round =>
      obtain ⟨k,hk,rfl,ho,hb⟩:=hrel
      clear hown hgrow hb1
      by_cases hlt:k < l.length
      · obtain ⟨c0,c1,c2,c3,c4⟩:=(h4 k hlt).below hb h3
        have hli:(k:Int) < (l.length:Int):=by omega
        have Hput:=hide (flat_put5 (part txC txZ l k) k (.int .i64 l[k].1) (.string l[k].2.1) (.string l[k].2.2.1) (.int .i64 l[k].2.2.2.1) (.int .i64 l[k].2.2.2.2) (by rw [part_len _ _ _ _ hk];exact hlt) (txP_sz l k))
        have Hnext:=hide (part_next txC txZ l k hlt)
        have Hg:Hid (∀ j,j < 5->(part txC txZ l k).flatten[k * 5+j]?=txZ[j]?):=hide (fun j hj=>by
          rw [flat_get 5 _ k j (by rw [part_len _ _ _ _ hk];exact hlt) (txP_sz l k) hj,part_at _ _ _ _ hlt])
        have Htx:Hid (txC l[k]=[.int .i64 l[k].1,.string l[k].2.1,.string l[k].2.2.1,.int .i64 l[k].2.2.2.1,.int .i64 l[k].2.2.2.2]):=hide rfl
        have hlb:w.heap.size < wr.heap.size:=((World.ownsRow.lt ho w.heap.size rfl)).2
        have HT:=hide (toTx_any l[k] wr)
        clear h4
        generalize l[k]=tk at c0 c1 c2 c3 c4 Hput Htx HT Hnext
        obtain ⟨kd,fr,tO,am,no⟩:=tk
        simp only [txV] at c0 c1 c2 c3 c4 Hput Htx HT
        go_wp2_with (go_at_call 87;refine HT.out.mono ?_;rintro e w2 ⟨rfl,hb2⟩;have ho2:=row_below ho hb2 (Nat.le_refl _);have q0:=ho2.cellAt (k * 5) (by omega);have q1:=ho2.cellAt (k * 5+1) (by omega);have q2:=ho2.cellAt (k * 5+2) (by omega);have q3:=ho2.cellAt (k * 5+3) (by omega);have q4:=ho2.cellAt (k * 5+4) (by omega);have f0:=ho2.frozenAt (k * 5);have f1:=ho2.frozenAt (k * 5+1);have f2:=ho2.frozenAt (k * 5+2);have f3:=ho2.frozenAt (k * 5+3);have f4:=ho2.frozenAt (k * 5+4);rw [<- Nat.add_zero (k * 5),Hg.out 0 (by omega)] at q0;rw [Hg.out 1 (by omega)] at q1;rw [Hg.out 2 (by omega)] at q2;rw [Hg.out 3 (by omega)] at q3;rw [Hg.out 4 (by omega)] at q4;rw [Nat.add_zero] at q0;simp only [txZ,List.getElem?_cons_zero,List.getElem?_cons_succ] at q0 q1 q2 q3 q4)
        go_roundw
        case rel =>
          refine ⟨k+1,by omega,by go_num,?_,(((((hb.trans (hb2.mono hb.size)).setCell (p:=⟨w.heap.size,k * 5,none⟩) (Nat.le_refl _) _).setCell (p:=⟨w.heap.size,k * 5+1,none⟩) (Nat.le_refl _) _).setCell (p:=⟨w.heap.size,k * 5+2,none⟩) (Nat.le_refl _) _).setCell (p:=⟨w.heap.size,k * 5+3,none⟩) (Nat.le_refl _) _).setCell (p:=⟨w.heap.size,k * 5+4,none⟩) (Nat.le_refl _) _⟩
          have s1:=(ho2.stored (k * 5) (.int .i64 kd)).1
          have s2:=(s1.stored (k * 5+1) (.string fr)).1
          have s3:=(s2.stored (k * 5+2) (.string tO)).1
          have s4:=(s3.stored (k * 5+3) (.int .i64 am)).1
          have s5:=(s4.stored (k * 5+4) (.int .i64 no)).1
          rw [Hput.out,<- Htx.out,Hnext.out] at s5
          exact s5
        case measure=>simp [intOf];omega
      · have e:k=l.length:=by omega
        subst e
        rw [part_all] at ho
        go_wp2
        go_ret
        exact ⟨_,rfl,ho,hb⟩
theorem eqTxS_any (v1 v2:Value) (l1 l2:List Tx5) (w:World) (hr1:RdT w v1 l1) (hr2:RdT w v2 l2) (hl1:l1.length<=4000000) (hl2:l2.length<=4000000) (he:l1=l2) :
    Calls Try.prog 77 #[v1,v2] w fun e w'=>e=.returned (.bool true)/\Below w.heap.size w w':=by
  subst he
  rcases hr1 with ⟨a,cap,rfl,rfl,-⟩ | ⟨b,off,cap,h0,rfl,h1,h2,h3,h4⟩
  · obtain ⟨a2,cap2,rfl⟩:=hr2.shape
    clear hr2
    go_enter Try.func77,Try.ntmps77
    go_wp2
    refine wp_loop_rounds 1 ?_
    rw [rounds_succ]
    go_wp2
    go_ret
    exact ⟨rfl,Below.refl _ _⟩
  · rcases hr2 with ⟨a2,cap2,rfl,rfl,-⟩ | ⟨b2,off2,cap2,g0,rfl,g1,g2,g3,g4⟩
    · exact absurd rfl h0
    · have H4:=hide h4
      have G4:=hide g4
      clear h4 g4
      go_enter Try.func77,Try.ntmps77
      go_wp2
      go_loopw [5] (fun i wr=>∃ k:Nat,k<=l1.length/\i=.int .i64 k/\Below w.heap.size w wr) (fun i _=>l1.length - (intOf i).toNat)
      case atStart=>exact ⟨0,Nat.zero_le _,rfl,Below.refl _ _⟩
      case round =>
        obtain ⟨k,hk,rfl,hs⟩:=hrel
        by_cases hlt:k < l1.length
        · obtain ⟨c0,c1,c2,c3,c4⟩:=(H4.out k hlt).below hs.drew h3
          obtain ⟨d0,d1,d2,d3,d4⟩:=(G4.out k hlt).below hs.drew g3
          have hli:(k:Int) < (l1.length:Int):=by omega
          have HE:=hide (eqTx_any l1[k] l1[k] wr.drew)
          rw [decide_eq_true rfl] at HE
          generalize l1[k]=p at c0 c1 c2 c3 c4 d0 d1 d2 d3 d4 HE
          obtain ⟨kd,fr,tO,am,no⟩:=p
          simp only [txV] at c0 c1 c2 c3 c4 d0 d1 d2 d3 d4 HE
          have hS1:wr.drew.cell? ⟨b,off+k * 5,none⟩=some (.int .i64 kd)/\wr.drew.cell? ⟨b,off+k * 5+1,none⟩=some (.string fr)/\wr.drew.cell? ⟨b,off+k * 5+2,none⟩=some (.string tO)/\wr.drew.cell? ⟨b,off+k * 5+3,none⟩=some (.int .i64 am)/\wr.drew.cell? ⟨b,off+k * 5+4,none⟩=some (.int .i64 no)/\wr.drew.cell? ⟨b2,off2+k * 5,none⟩=some (.int .i64 kd)/\wr.drew.cell? ⟨b2,off2+k * 5+1,none⟩=some (.string fr)/\wr.drew.cell? ⟨b2,off2+k * 5+2,none⟩=some (.string tO)/\wr.drew.cell? ⟨b2,off2+k * 5+3,none⟩=some (.int .i64 am)/\wr.drew.cell? ⟨b2,off2+k * 5+4,none⟩=some (.int .i64 no):=⟨c0,c1,c2,c3,c4,d0,d1,d2,d3,d4⟩
          clear c0 c1 c2 c3 c4 d0 d1 d2 d3 d4
          go_wp2
          go_region_held_law (fun w'=>w'.cell? ⟨b,off+k * 5,none⟩=some (.int .i64 kd)/\w'.cell? ⟨b,off+k * 5+1,none⟩=some (.string fr)/\w'.cell? ⟨b,off+k * 5+2,none⟩=some (.string tO)/\w'.cell? ⟨b,off+k * 5+3,none⟩=some (.int .i64 am)/\w'.cell? ⟨b,off+k * 5+4,none⟩=some (.int .i64 no)/\w'.cell? ⟨b2,off2+k * 5,none⟩=some (.int .i64 kd)/\w'.cell? ⟨b2,off2+k * 5+1,none⟩=some (.string fr)/\w'.cell? ⟨b2,off2+k * 5+2,none⟩=some (.string tO)/\w'.cell? ⟨b2,off2+k * 5+3,none⟩=some (.int .i64 am)/\w'.cell? ⟨b2,off2+k * 5+4,none⟩=some (.int .i64 no)) (first | exact hS1 | exact hS2) ((go_at_call 91;refine HE.out.mono ?_;rintro e w2 ⟨rfl,hb2⟩;have hz:=hs.size;have hS2:w2.cell? ⟨b,off+k * 5,none⟩=some (.int .i64 kd)/\w2.cell? ⟨b,off+k * 5+1,none⟩=some (.string fr)/\w2.cell? ⟨b,off+k * 5+2,none⟩=some (.string tO)/\w2.cell? ⟨b,off+k * 5+3,none⟩=some (.int .i64 am)/\w2.cell? ⟨b,off+k * 5+4,none⟩=some (.int .i64 no)/\w2.cell? ⟨b2,off2+k * 5,none⟩=some (.int .i64 kd)/\w2.cell? ⟨b2,off2+k * 5+1,none⟩=some (.string fr)/\w2.cell? ⟨b2,off2+k * 5+2,none⟩=some (.string tO)/\w2.cell? ⟨b2,off2+k * 5+3,none⟩=some (.int .i64 am)/\w2.cell? ⟨b2,off2+k * 5+4,none⟩=some (.int .i64 no):=⟨(hb2.cell (p:=⟨b,off+k * 5,none⟩) (Nat.lt_of_lt_of_le h3 hz)).trans hS1.1,(hb2.cell (p:=⟨b,off+k * 5+1,none⟩) (Nat.lt_of_lt_of_le h3 hz)).trans hS1.2.1,(hb2.cell (p:=⟨b,off+k * 5+2,none⟩) (Nat.lt_of_lt_of_le h3 hz)).trans hS1.2.2.1,(hb2.cell (p:=⟨b,off+k * 5+3,none⟩) (Nat.lt_of_lt_of_le h3 hz)).trans hS1.2.2.2.1,(hb2.cell (p:=⟨b,off+k * 5+4,none⟩) (Nat.lt_of_lt_of_le h3 hz)).trans hS1.2.2.2.2.1,(hb2.cell (p:=⟨b2,off2+k * 5,none⟩) (Nat.lt_of_lt_of_le g3 hz)).trans hS1.2.2.2.2.2.1,(hb2.cell (p:=⟨b2,off2+k * 5+1,none⟩) (Nat.lt_of_lt_of_le g3 hz)).trans hS1.2.2.2.2.2.2.1,(hb2.cell (p:=⟨b2,off2+k * 5+2,none⟩) (Nat.lt_of_lt_of_le g3 hz)).trans hS1.2.2.2.2.2.2.2.1,(hb2.cell (p:=⟨b2,off2+k * 5+3,none⟩) (Nat.lt_of_lt_of_le g3 hz)).trans hS1.2.2.2.2.2.2.2.2.1,(hb2.cell (p:=⟨b2,off2+k * 5+4,none⟩) (Nat.lt_of_lt_of_le g3 hz)).trans hS1.2.2.2.2.2.2.2.2.2⟩))
          go_wp2
          go_roundw
          case rel=>exact ⟨k+1,by omega,by go_num,hs.drew.trans (hb2.mono hs.size)⟩
          case measure=>simp [intOf];omega
        · go_wp2
          go_ret
          exact ⟨rfl,hs⟩
def wgT (t:Tx5):Nat:=t.2.1.size+t.2.2.1.size
def totT (l:List Tx5):Nat:=(l.map wgT).sum
theorem totT_snoc (l:List Tx5) (k:Nat) (h:k < l.length):totT (l.take (k+1))=totT (l.take k)+wgT l[k]:=by
  unfold totT
  rw [List.take_succ_eq_append_getElem h,List.map_append,List.sum_append]
  simp only [List.map_cons,List.map_nil,List.sum_cons,List.sum_nil,Nat.add_zero]
theorem szT_fit (t:Tx5) (r:Nat) (h:wgT t<=r):szT t (r:Int)=((r - wgT t:Nat):Int):=by
  unfold wgT at h
  unfold szT wgT
  rw [if_neg (by omega),if_neg (by omega)]
  omega
theorem szT_not (t:Tx5) (r:Nat) (h:¬ wgT t<=r):szT t (r:Int)=-1:=by
  unfold wgT at h
  unfold szT
  by_cases h1:(r:Int) - t.2.1.size < 0
  · rw [if_pos h1]
  · rw [if_neg h1,if_pos (by omega)]
end Go.Proofs.Ytfdbedenlbikgaa
