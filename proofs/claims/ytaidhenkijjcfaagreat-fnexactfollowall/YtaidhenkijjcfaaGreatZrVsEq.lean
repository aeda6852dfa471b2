/- Those who vote, held against each other; their size. -/
import Derived.Test.YtaidhenkijjcfaaGreatZrLgVal
set_option maxRecDepth 20000
set_option maxHeartbeats 1000000
namespace Go.Proofs.YtaidhenkijjcfaaGreat
open Go.RowKit Go.ChangeShapes Go.WideShapes
set_option linter.unusedVariables false
section
variable {H:Type} {enc:TypeId × Value->H} {w:World} {base:Nat} {spare:Nat->Bool} {held:Bool}
theorem open_ledger {fuel:Nat} {cs:List Value} {x:DataW H × List MemPlace} (h:DataW.trod enc Tryz.prog w base spare held fuel 51 cs=some x) :
    ∃ (e:Int) (v:Value) (l:List Ac),cs=[.int .i64 e,v]/\RdA w v l/\l.length<=maxLen/\∀ q ∈ l,q.1.size<=maxLen/\q.2.2.2.2.length<=maxLen:=by
  obtain ⟨xs,n,_,_,hlen,hxl,hf⟩:=DataW.trod_struct Tryz.underlying51 h
  have h5:cs.length=2:=hlen.trans (by kernel_rfl)
  have hx5:xs.length=2:=hxl
  match cs,h5,xs,hx5 with
  | [c0,c1],_,[y0,y1],_ =>
    have ki:Tryz.prog.cellsOf 3=1:=by kernel_rfl
    have kl:Tryz.prog.cellsOf 49=1:=by kernel_rfl
    have g0:DataW.trod enc Tryz.prog w base spare held n 3 [c0]=some y0:=by
      have e:=hf 0 _ rfl
      change DataW.trod enc Tryz.prog w base spare held n 3 (List.take (Tryz.prog.cellsOf 3) [c0,c1])=some y0 at e
      rw [ki] at e
      exact e
    have g1:DataW.trod enc Tryz.prog w base spare held n 49 [c1]=some y1:=by
      have e:=hf 1 _ rfl
      change DataW.trod enc Tryz.prog w base spare held n 49 (List.take (Tryz.prog.cellsOf 49) [c1])=some y1 at e
      rw [kl] at e
      exact e
    obtain ⟨z0,e0,_⟩:=DataW.trod_int Tryz.underlying3 g0
    have hsl:∃ a len cap,c1=.slice a len cap:=by
      rcases Deep.open_slice Tryz.underlying49 g1 with ⟨hcs,_⟩ | ⟨ad,len',cap',m,n',D,Pl,hcs,_⟩
      · simp only [List.cons.injEq,and_true] at hcs;exact ⟨_,_,_,hcs⟩
      · simp only [List.cons.injEq,and_true] at hcs;exact ⟨_,_,_,hcs⟩
    obtain ⟨a,len,cap,rfl⟩:=hsl
    obtain ⟨l,rfl,hr,hl,hq⟩:=open_accS g1
    simp only [List.cons.injEq,and_true] at e0
    subst e0
    exact ⟨z0,_,l,rfl,hr,hl,hq⟩
end
end Go.Proofs.YtaidhenkijjcfaaGreat
namespace Go.Proofs.YtaidhenkijjcfaaGreat
open Go.RowKit
set_option linter.unusedVariables false
abbrev Vl:=ByteArray × Int
def RdV (w:World) (v:Value) (l:List Vl):Prop :=
  (∃ a cap,v=.slice a 0 cap/\l=[]/\(a=none->cap=0)) \/
  ∃ b off cap,l ≠ []/\v=.slice (some ⟨b,off,none⟩) l.length cap/\l.length<=cap/\cap<=maxLen/\b < w.heap.size /\
    ∀ i (h:i < l.length),w.cell? ⟨b,off+i * 2,none⟩=some (.string l[i].1)/\w.cell? ⟨b,off+i * 2+1,none⟩=some (.int .i64 l[i].2)
theorem RdV.shape {w:World} {v:Value} {l:List Vl} (h:RdV w v l):∃ a cap,v=.slice a l.length cap:=by
  rcases h with ⟨a,cap,rfl,rfl,-⟩ | ⟨b,off,cap,h0,rfl,_⟩
  · exact ⟨a,cap,rfl⟩
  · exact ⟨_,cap,rfl⟩
theorem RdV.below {B:Nat} {w w':World} {v:Value} {l:List Vl} (h:RdV w v l) (hb:Below B w w') (hB:w.heap.size<=B):RdV w' v l:=by
  rcases h with h | ⟨b,off,cap,h0,hv,h1,h2,h3,h4⟩
  · exact .inl h
  · exact .inr ⟨b,off,cap,h0,hv,h1,h2,by have:=hb.size;omega,fun i hi=>⟨(hb.cell (p:=⟨b,off+i * 2,none⟩) (by show b < B;omega)).trans (h4 i hi).1,(hb.cell (p:=⟨b,off+i * 2+1,none⟩) (by show b < B;omega)).trans (h4 i hi).2⟩⟩
def vlC (p:Vl):List Value:=[.string p.1,.int .i64 p.2]
def OwnV (base:Nat) (w:World) (v:Value) (l:List Vl):Prop:=w.ownsRow base 100 2 v l.length (l.map vlC).flatten
theorem Tryz.infoVl:(Tryz.prog.info? 100).map (fun i=>(i.zero,i.size,i.bytes))=some (some (.agg #[.string { data:=#[] },.int .i64 0]),2,24):=by kernel_rfl
theorem vlC_sz (p:Vl):(vlC p).length=2:=rfl
theorem vlP_sz (l:List Vl) (k:Nat):∀ x ∈ part vlC [Value.string { data:=#[] },Value.int .i64 0] l k,x.length=2:=part_sz 2 _ _ _ _ vlC_sz rfl
theorem vlM_sz (l:List Vl):∀ x ∈ l.map vlC,x.length=2:=fun x hx=>by obtain ⟨p,_,rfl⟩:=List.mem_map.1 hx;rfl
theorem OwnV.rd {base:Nat} {w:World} {v:Value} {l:List Vl} (h:OwnV base w v l):RdV w v l:=by
  rcases h.2 with ⟨hv,hn⟩ | ⟨g,cap,cur,hv,hb,hg,hnc,hcm,hcs,ht⟩
  · exact .inl ⟨none,0,hv,List.length_eq_zero_iff.1 hn,fun _=>rfl⟩
  · by_cases hl:l=[]
    · subst hl;exact .inl ⟨_,_,hv,rfl,fun h=>by cases h⟩
    · refine .inr ⟨g,0,cap,hl,hv,hnc,hcm,(Array.getElem?_eq_some_iff.1 hg).1,?_⟩
      intro i hi
      have h':w.ownsRow base 100 2 (.slice (some ⟨g,0,none⟩) l.length cap) l.length (l.map vlC).flatten:=hv ▸ h
      have e0:=flat_get 2 (l.map vlC) i 0 (by simpa using hi) (vlM_sz l) (by omega)
      have e1:=flat_get 2 (l.map vlC) i 1 (by simpa using hi) (vlM_sz l) (by omega)
      rw [Nat.zero_add,h'.cellAt (i * 2) (by omega),h'.cellAt (i * 2+1) (by omega)]
      rw [Nat.add_zero] at e0
      rw [e0,e1]
      simp [vlC]
theorem OwnV.mono {base base':Nat} {w:World} {v:Value} {l:List Vl} (h:OwnV base w v l) (hB:base'<=base):OwnV base' w v l:=by
  refine ⟨h.1,?_⟩
  rcases h.2 with h' | ⟨g,cap,cur,hv,hbb,r⟩
  · exact .inl h'
  · exact .inr ⟨g,cap,cur,hv,by omega,r⟩
theorem OwnV.ge {base:Nat} {w:World} {v:Value} {l:List Vl} (h:OwnV base w v l):∀ k,v.ownBlock=some k->base<=k:=fun k hk=>(World.ownsRow.lt h k hk).1
theorem OwnV.lt {base:Nat} {w:World} {v:Value} {l:List Vl} (h:OwnV base w v l):∀ k,v.ownBlock=some k->k < w.heap.size:=fun k hk=>(World.ownsRow.lt h k hk).2
theorem OwnV.below {B base:Nat} {w w':World} {v:Value} {l:List Vl} (h:OwnV base w v l) (hb:Below B w w') (hB:w.heap.size<=B):OwnV base w' v l:=row_below h hb hB
theorem toVal_any (x:ByteArray) (y:Int) (w:World):Calls Tryz.prog 95 #[.agg #[.string x,.int .i64 y]] w fun e w'=>e=.returned (.agg #[.string x,.int .i64 y])/\Below w.heap.size w w':=by
  go_enter Tryz.func95,Tryz.ntmps95
  go_wp2
  refine bodyPost_ret (v:=.agg #[.string x,.int .i64 y]) (by simp [results,Tryz.f95,go_sem]) rfl ?_
  exact ⟨rfl,((((Below.refl _ w).alloc (Nat.le_refl _) _).alloc (by simp) _).alloc (by simp;omega) _)⟩
theorem toValS_any (v:Value) (l:List Vl) (w:World) (hr:RdV w v l) (hl:l.length<=4000000) :
    Calls Tryz.prog 37 #[v] w fun e w'=>∃ v',e=.returned v'/\OwnV w.heap.size w' v' l/\Below w.heap.size w w':=by
  obtain ⟨i0,hi,hz0,hz1,hz2⟩:=info_parts Tryz.infoVl
  rcases hr with ⟨a,cap,rfl,rfl,-⟩ | ⟨b,off,cap,h0,rfl,h1,h2,h3,h4⟩
  · go_enter Tryz.func37,Tryz.ntmps37
    go_wp2_with (refine wpList_make_full _ rfl _ _ 33 rfl w.heap.size 100 i0 (.agg #[.string { data:=#[] },.int .i64 0]) 2 Tryz.underlying33 hi hz0 hz1 .i64 .i64 _ _ 0 rfl rfl rfl rfl (by omega) (by unfold maxLen;omega) (Nat.le_refl _) ?_;intro w1 hown hgrow)
    have hb1:Below w.heap.size w w1:=(Below.refl _ _).grown hgrow (Nat.le_refl _) (by intro k hk;cases hk)
    refine wp_loop_rounds 1 ?_
    rw [rounds_succ]
    go_wp2
    go_ret
    have ho':OwnV w.heap.size w1 (.slice (some ⟨w.heap.size,0,none⟩) 0 0) []:=by
      have e:=made_flat (Value.agg #[.string { data:=#[] },.int .i64 0]).cells 2 0 rfl (by omega)
      rw [e] at hown
      exact hown
    exact ⟨_,rfl,ho',hb1⟩
  · go_enter Tryz.func37,Tryz.ntmps37
    go_wp2_with (refine wpList_make_full _ rfl _ _ 33 rfl w.heap.size 100 i0 (.agg #[.string { data:=#[] },.int .i64 0]) 2 Tryz.underlying33 hi hz0 hz1 .i64 .i64 _ _ l.length rfl rfl rfl rfl (by rw [hz2];omega) (by unfold maxLen;omega) (Nat.le_refl _) ?_;intro w1 hown hgrow)
    have hb1:Below w.heap.size w w1:=(Below.refl _ _).grown hgrow (Nat.le_refl _) (by intro k hk;cases hk)
    go_loopw [4] (fun i wr=>∃ k:Nat,k<=l.length/\i=.int .i64 k/\wr.ownsRow w.heap.size 100 2 (.slice (some ⟨w.heap.size,0,none⟩) l.length l.length) l.length (part vlC [Value.string { data:=#[] },Value.int .i64 0] l k).flatten/\Below w.heap.size w wr)
      (fun i _=>l.length - (intOf i).toNat)
    case atStart =>
      refine ⟨0,Nat.zero_le _,rfl,?_,hb1⟩
      rw [part_zero]
      have e:=made_flat (Value.agg #[.string { data:=#[] },.int .i64 0]).cells 2 l.length rfl (by omega)
      rw [e] at hown
      exact hown
    case round =>
      obtain ⟨k,hk,rfl,ho,hb⟩:=hrel
      clear hown hgrow hb1
      by_cases hlt:k < l.length
      · obtain ⟨d1,d2⟩:=h4 k hlt
        have hc1:wr.cell? ⟨b,off+k * 2,none⟩=some (.string l[k].1):=(hb.cell (p:=⟨b,off+k * 2,none⟩) h3).trans d1
        have hc2:wr.cell? ⟨b,off+k * 2+1,none⟩=some (.int .i64 l[k].2):=(hb.cell (p:=⟨b,off+k * 2+1,none⟩) h3).trans d2
        have hli:(k:Int) < (l.length:Int):=by omega
        have Hput:=hide (flat_put2 (part vlC [Value.string { data:=#[] },Value.int .i64 0] l k) k (.string l[k].1) (.int .i64 l[k].2) (by rw [part_len _ _ _ _ hk];exact hlt) (vlP_sz l k))
        have Hnext:=hide (part_next vlC [Value.string { data:=#[] },Value.int .i64 0] l k hlt)
        have Hz0:=hide (flat_get 2 (part vlC [Value.string { data:=#[] },Value.int .i64 0] l k) k 0 (by rw [part_len _ _ _ _ hk];exact hlt) (vlP_sz l k) (by omega))
        have Hz1:=hide (flat_get 2 (part vlC [Value.string { data:=#[] },Value.int .i64 0] l k) k 1 (by rw [part_len _ _ _ _ hk];exact hlt) (vlP_sz l k) (by omega))
        rw [part_at _ _ _ _ hlt] at Hz0 Hz1
        have Hvl:Hid (vlC l[k]=[.string l[k].1,.int .i64 l[k].2]):=hide rfl
        have hlb:w.heap.size < wr.heap.size:=((World.ownsRow.lt ho w.heap.size rfl)).2
        clear d1 d2 h4
        generalize l[k].1=x at hc1 Hput Hvl
        generalize l[k].2=y at hc2 Hput Hvl
        go_wp2_with (go_at_call 95;refine (toVal_any _ _ _).mono ?_;rintro e w2 ⟨rfl,hb2⟩;have ho2:=row_below ho hb2 (Nat.le_refl _);have q0:=ho2.cellAt (k * 2) (by omega);have q1:=ho2.cellAt (k * 2+1) (by omega);have f0:=ho2.frozenAt (k * 2);have f1:=ho2.frozenAt (k * 2+1);rw [<- Nat.add_zero (k * 2),Hz0.out] at q0;rw [Hz1.out] at q1;rw [Nat.add_zero] at q0;simp only [List.getElem?_cons_zero,List.getElem?_cons_succ] at q0 q1)
        go_roundw
        case rel =>
          refine ⟨k+1,by omega,by go_num,?_,((hb.trans (hb2.mono hb.size)).setCell (p:=⟨w.heap.size,k * 2,none⟩) (Nat.le_refl _) _).setCell (p:=⟨w.heap.size,k * 2+1,none⟩) (Nat.le_refl _) _⟩
          have s1:=(ho2.stored (k * 2) (.string x)).1
          have s2:=(s1.stored (k * 2+1) (.int .i64 y)).1
          rw [Hput.out,<- Hvl.out,Hnext.out] at s2
          exact s2
        case measure=>simp [intOf];omega
      · have e:k=l.length:=by omega
        subst e
        rw [part_all] at ho
        go_wp2
        go_ret
        exact ⟨_,rfl,ho,hb⟩
def mkV (k n:Nat):List Vl:=(List.range n).map (fun i=>(mtx (k+2 * i),((k+2 * i+1:Nat):Int)))
theorem mkV_len (k n:Nat):(mkV k n).length=n:=by simp [mkV]
theorem mkV_at (k n j:Nat) (h:j < (mkV k n).length):(mkV k n)[j]=(mtx (k+2 * j),((k+2 * j+1:Nat):Int)):=by simp [mkV]
theorem gen_setV {α β:Type} (M l:List α) (f:α->β) (j:Nat) (hM:M.length=l.length) (hj:j < M.length):((M.take j ++ l.drop j).map f).set j (f M[j])=(M.take (j+1) ++ l.drop (j+1)).map f:=by
  have e1:((M.take j).map f).length=j:=by simp;omega
  rw [List.map_append,List.set_append_right _ _ (by omega),e1,Nat.sub_self,List.drop_eq_getElem_cons (show j < l.length by omega),List.map_cons,List.set_cons_zero,List.take_succ_eq_append_getElem hj,List.map_append,List.map_append,List.append_assoc]
  rfl
theorem markValS_any (v:Value) (l:List Vl) (k base:Nat) (w:World) (ho:OwnV base w v l) (hl:l.length<=10000000) (hk:k<=100000000) (hk0:0 < k) :
    Calls Tryz.prog 47 #[v,.int .i64 (k:Int)] w fun e w'=>e=.returned (.int .i64 ((k+2 * l.length:Nat):Int))/\OwnV base w' v (mkV k l.length)/\w.grownBy w' v.ownBlock:=by
  have hML:=mkV_len k l.length
  have hMA:=mkV_at k l.length
  generalize hMd:mkV k l.length=M at hML hMA
  clear hMd
  rcases ho.2 with ⟨rfl,hn⟩ | ⟨g,cap,cur,rfl,_,_,_,hcm,_,_⟩
  · have e:l=[]:=List.length_eq_zero_iff.1 hn
    subst e
    have e2:M=[]:=List.length_eq_zero_iff.1 hML
    subst e2
    have Ho:=hide ho
    clear ho
    go_enter Tryz.func47,Tryz.ntmps47
    go_wp2
    refine wp_loop_rounds 1 ?_
    rw [rounds_succ]
    go_wp2
    go_ret
    exact ⟨rfl,Ho.out,World.grownBy.refl _ _⟩
  · have Ho:=hide ho
    have HML:=hide hML
    have HMA:=hide hMA
    have hMl:l.length<=M.length:=by omega
    have hMg:M.length<=l.length:=by omega
    clear ho hML hMA
    go_enter Tryz.func47,Tryz.ntmps47
    go_wp2
    go_loopw [1,5] (fun kv iv wr=>∃ j:Nat,j<=l.length/\iv=.int .i64 (j:Int)/\kv=.int .i64 ((k+2 * j:Nat):Int)/\wr.ownsRow base 100 2 (.slice (some ⟨g,0,none⟩) l.length cap) l.length ((M.take j ++ l.drop j).map vlC).flatten/\w.grownBy wr (some g))
      (fun _ iv _=>l.length - (intOf iv).toNat)
    case atStart=>exact ⟨0,Nat.zero_le _,rfl,rfl,by simpa [OwnV] using Ho.out,World.grownBy.refl _ _⟩
    case round =>
      obtain ⟨j,hj,rfl,rfl,hown,hgr⟩:=hrel
      by_cases hlt:j < l.length
      · have hjM:j < M.length:=by omega
        obtain ⟨K,hK⟩:∃ K:Nat,k+2 * j=K:=⟨_,rfl⟩
        have hK0:0 < K:=by omega
        have hK2:K<=150000000:=by omega
        have eM:vlC M[j]=[.string (mtx K),.int .i64 ((K+1:Nat):Int)]:=by rw [HMA.out j hjM,hK];rfl
        have hsz:=vlM_sz (M.take j ++ l.drop j)
        have hlen:((M.take j ++ l.drop j).map vlC).length=l.length:=by simp;omega
        have Hm:=hide (fun w=>markText_any K w hK0 (by omega))
        obtain ⟨u0,hu0⟩:∃ u,((M.take j ++ l.drop j).map vlC).flatten[j * 2]?=some u:=⟨_,List.getElem?_eq_getElem (by rw [flat_len 2 _ hsz];omega)⟩
        obtain ⟨u1,hu1⟩:∃ u,((M.take j ++ l.drop j).map vlC).flatten[j * 2+1]?=some u:=⟨_,List.getElem?_eq_getElem (by rw [flat_len 2 _ hsz];omega)⟩
        have hli:(j:Int) < (l.length:Int):=by omega
        rw [hK]
        have HK:=hide hK
        have Hput:=hide (flat_put2 ((M.take j ++ l.drop j).map vlC) j (.string (mtx K)) (.int .i64 ((K+1:Nat):Int)) (by rw [hlen];exact hlt) hsz)
        have Heq:=hide (gen_setV M l vlC j HML.out hjM)
        rw [eM] at Heq
        clear hK
        have Hown:=hide hown
        have Hgr:=hide hgr
        clear hown hgr
        go_wp2_with fail
        refine (Hm.out _).mono ?_
        rintro e w1 ⟨rfl,hb1⟩
        have hown:=row_below Hown.out hb1 (Nat.le_refl _)
        have hgr:=grownS_trans Hgr.out (grown_below (some g) hb1)
        have d0:=hown.cellAt (j * 2) (by omega)
        have d1:=hown.cellAt (j * 2+1) (by omega)
        have f0:=hown.frozenAt (j * 2)
        have f1:=hown.frozenAt (j * 2+1)
        rw [hu0] at d0
        rw [hu1] at d1
        have hst:=hown.stored (j * 2) (.string (mtx K))
        have hst2:=hst.1.stored (j * 2+1) (.int .i64 ((K+1:Nat):Int))
        rw [Hput.out,Heq.out] at hst2
        have Hst:=hide hst2.1
        have Hgr2:=hide (grownS_trans (grownS_trans hgr hst.2) hst2.2)
        clear hst hst2 hown hgr hu0 hu1 eM Hown Hgr hb1 Hput Heq
        generalize mtx K=mK at *
        go_wp2
        go_roundw
        case rel=>exact ⟨j+1,by omega,by go_num,by rw [show k+2 * (j+1)=K+2 from by have:=HK.out;omega];go_num,Hst.out,Hgr2.out⟩
        case measure=>simp [intOf];omega
      · have e:M.take j ++ l.drop j=M:=by rw [List.take_of_length_le (by omega),List.drop_of_length_le (by omega),List.append_nil]
        rw [e] at hown
        have ho':OwnV base wr (.slice (some ⟨g,0,none⟩) l.length cap) M:=by
          unfold OwnV
          rw [HML.out]
          exact hown
        have e2:j=l.length:=by omega
        have Ho':=hide ho'
        have Hgr:=hide hgr
        clear ho' hgr hown e
        subst e2
        go_wp2
        go_ret
        exact ⟨rfl,Ho'.out,Hgr.out⟩
theorem heldValS_any (v:Value) (k n:Nat) (w:World) (hr:RdV w v (mkV k n)) (hl:n<=10000000) (hk:k<=100000000) (hk0:0 < k) :
    Calls Tryz.prog 50 #[v,.int .i64 (k:Int)] w fun e w'=>e=.returned (.int .i64 ((k+2 * n:Nat):Int))/\Below w.heap.size w w':=by
  have hML:=mkV_len k n
  have hMA:=mkV_at k n
  generalize hMd:mkV k n=M at hML hMA hr
  clear hMd
  rcases hr with ⟨a,cap,rfl,rfl,-⟩ | ⟨b,off,cap,h0,rfl,h1,h2,h3,h4⟩
  · simp at hML
    subst hML
    clear hMA
    go_enter Tryz.func50,Tryz.ntmps50
    go_wp2
    refine wp_loop_rounds 1 ?_
    rw [rounds_succ]
    go_wp2
    go_ret
    exact ⟨rfl,Below.refl _ _⟩
  · have HMA:=hide hMA
    have hMl:n<=M.length:=by omega
    have hMg:M.length<=n:=by omega
    have H4:=hide h4
    clear hML hMA h4
    go_enter Tryz.func50,Tryz.ntmps50
    go_wp2
    go_loopw [1,5] (fun kv iv wr=>∃ j:Nat,j<=n/\iv=.int .i64 (j:Int)/\kv=.int .i64 ((k+2 * j:Nat):Int)/\Below w.heap.size w wr) (fun _ iv _=>n - (intOf iv).toNat)
    case atStart=>exact ⟨0,Nat.zero_le _,rfl,rfl,Below.refl _ _⟩
    case round =>
      obtain ⟨j,hj,rfl,rfl,hb⟩:=hrel
      by_cases hlt:j < n
      · have hjM:j < M.length:=by omega
        have hc0:wr.cell? ⟨b,off+j * 2,none⟩=some (.string M[j].1):=(hb.cell (p:=⟨b,off+j * 2,none⟩) h3).trans (H4.out j hjM).1
        have hc1:wr.cell? ⟨b,off+j * 2+1,none⟩=some (.int .i64 M[j].2):=(hb.cell (p:=⟨b,off+j * 2+1,none⟩) h3).trans (H4.out j hjM).2
        obtain ⟨K,hK⟩:∃ K:Nat,k+2 * j=K:=⟨_,rfl⟩
        have hK2:K<=150000000:=by omega
        have hK0:0 < K:=by omega
        rw [HMA.out j hjM,hK] at hc0 hc1
        simp only at hc0 hc1
        rw [hK]
        have HK:=hide hK
        have hli:(j:Int) < (M.length:Int):=by omega
        have Hm:=hide (fun w=>markText_any K w hK0 (by omega))
        have hsz:=hb.size
        have hbw:b < wr.heap.size:=by omega
        have Hb:=hide hb
        clear hK hb
        generalize mtx K=mK at *
        go_wp2_with fail
        go_region_with (go_at_call 107;refine (Hm.out _).mono ?_;rintro e w2 ⟨rfl,hb2⟩;have d0:=(hb2.cell (p:=⟨b,off+j * 2,none⟩) (by exact hbw)).trans (by exact hc0);have d1:=(hb2.cell (p:=⟨b,off+j * 2+1,none⟩) (by exact hbw)).trans (by exact hc1))
        all_goals
          rename Below _ _ _=>hb2
          go_wp2
          go_roundw
          case rel=>exact ⟨j+1,by omega,by go_num,by rw [show k+2 * (j+1)=K+2 from by have:=HK.out;omega];go_num,Hb.out.drew.trans (hb2.mono hsz)⟩
          case measure=>simp [intOf];omega
      · have e:j=n:=by omega
        have He:=hide e
        clear e
        go_wp2
        go_ret
        exact ⟨ret_int (by rw [<- He.out]),hb⟩
theorem eqVal_any (p q:Vl) (w:World):Calls Tryz.prog 104 #[.agg #[.string p.1,.int .i64 p.2],.agg #[.string q.1,.int .i64 q.2]] w fun e w'=>e=.returned (.bool (decide (p=q)))/\Below w.heap.size w w':=by
  obtain ⟨a,b⟩:=p
  obtain ⟨c,d⟩:=q
  have hB:=hide (((Below.refl _ w).alloc (Nat.le_refl _) (.cells #[.string a,.int .i64 b] 100)).alloc (by simp) (.cells #[.string c,.int .i64 d] 100))
  by_cases h1:a=c
  · subst h1
    by_cases h2:b=d
    · subst h2
      go_enter Tryz.func104,Tryz.ntmps104
      go_wp2
      go_ret
      exact ⟨by simp,hB.out⟩
    · have Hd:Hid (decide ((a,b)=(a,d))=false):=hide (by rw [decide_eq_false];intro e;injection e with _ e;exact h2 e)
      have hq:(b != d)=true:=by rw [bne_iff_ne];exact h2
      clear h2
      go_enter Tryz.func104,Tryz.ntmps104
      go_wp2
      go_ret
      exact ⟨ret_bool Hd.out.symm,hB.out⟩
  · have Hd:Hid (decide ((a,b)=(c,d))=false):=hide (by rw [decide_eq_false];intro e;injection e with e _;exact h1 e)
    have hq:=bytes_ne h1
    clear h1
    go_enter Tryz.func104,Tryz.ntmps104
    go_wp2
    go_ret
    exact ⟨ret_bool Hd.out.symm,hB.out⟩
theorem eqValS_any (v1 v2:Value) (l1 l2:List Vl) (w:World) (hr1:RdV w v1 l1) (hr2:RdV w v2 l2) (hl1:l1.length<=4000000) (hl2:l2.length<=4000000) :
    Calls Tryz.prog 44 #[v1,v2] w fun e w'=>e=.returned (.bool (decide (l1=l2)))/\Below w.heap.size w w':=by
  by_cases hne:l1.length=l2.length
  · rcases hr1 with ⟨a,cap,rfl,rfl,-⟩ | ⟨b,off,cap,h0,rfl,h1,h2,h3,h4⟩
    · have e2:l2=[]:=List.length_eq_zero_iff.1 (by simpa using hne.symm)
      subst e2
      obtain ⟨a2,cap2,rfl⟩:=hr2.shape
      clear hr2
      go_enter Tryz.func44,Tryz.ntmps44
      go_wp2
      refine wp_loop_rounds 1 ?_
      rw [rounds_succ]
      go_wp2
      go_ret
      exact ⟨rfl,Below.refl _ _⟩
    · rcases hr2 with ⟨a2,cap2,rfl,rfl,-⟩ | ⟨b2,off2,cap2,g0,rfl,g1,g2,g3,g4⟩
      · exact absurd (List.length_eq_zero_iff.1 (by simpa using hne)) h0
      · have Hne:=hide hne
        have hlen:((l1.length:Int) != (l2.length:Int))=false:=by rw [hne];simp
        have hle:l1.length<=l2.length:=by omega
        have hge:l2.length<=l1.length:=by omega
        have H4:=hide h4
        have G4:=hide g4
        clear hne h4 g4
        go_enter Tryz.func44,Tryz.ntmps44
        go_wp2
        go_loopw [5] (fun i wr=>∃ k:Nat,k<=l1.length/\i=.int .i64 k/\l1.take k=l2.take k/\Below w.heap.size w wr) (fun i _=>l1.length - (intOf i).toNat)
        case atStart=>exact ⟨0,Nat.zero_le _,rfl,rfl,Below.refl _ _⟩
        case round =>
          obtain ⟨k,hk,rfl,ht,hs⟩:=hrel
          have Ht:=hide ht
          clear ht
          by_cases hlt:k < l1.length
          · have hlt2:k < l2.length:=by omega
            obtain ⟨d1,d2⟩:=H4.out k hlt
            obtain ⟨e1,e2⟩:=G4.out k hlt2
            have hc1:wr.drew.cell? ⟨b,off+k * 2,none⟩=some (.string l1[k].1):=(hs.cell (p:=⟨b,off+k * 2,none⟩) h3).trans d1
            have hc2:wr.drew.cell? ⟨b,off+k * 2+1,none⟩=some (.int .i64 l1[k].2):=(hs.cell (p:=⟨b,off+k * 2+1,none⟩) h3).trans d2
            have hd1:wr.drew.cell? ⟨b2,off2+k * 2,none⟩=some (.string l2[k].1):=(hs.cell (p:=⟨b2,off2+k * 2,none⟩) g3).trans e1
            have hd2:wr.drew.cell? ⟨b2,off2+k * 2+1,none⟩=some (.int .i64 l2[k].2):=(hs.cell (p:=⟨b2,off2+k * 2+1,none⟩) g3).trans e2
            have hli:(k:Int) < (l1.length:Int):=by omega
            have hli2:(k:Int) < (l2.length:Int):=by omega
            have HE:=hide (eqVal_any l1[k] l2[k] wr.drew)
            have Hnx:Hid (l1[k]=l2[k]->l1.take (k+1)=l2.take (k+1)):=hide (fun he=>take_eq_snoc hlt hlt2 Ht.out he)
            have Hno:Hid (l1[k] ≠ l2[k]->decide (l1=l2)=false):=hide (fun he=>by rw [decide_eq_false];intro e;subst e;exact he rfl)
            clear d1 d2 e1 e2
            generalize hp:l1[k]=p at hc1 hc2 HE Hnx Hno
            generalize hq:l2[k]=q at hd1 hd2 HE Hnx Hno
            clear hp hq
            by_cases he:p=q
            · rw [decide_eq_true he] at HE
              have Hnx:=hide (Hnx.out he)
              clear he Hno
              go_wp2
              go_region_held_law (fun w'=>w'.cell? ⟨b,off+k * 2,none⟩=some (.string p.1)/\w'.cell? ⟨b,off+k * 2+1,none⟩=some (.int .i64 p.2)/\w'.cell? ⟨b2,off2+k * 2,none⟩=some (.string q.1)/\w'.cell? ⟨b2,off2+k * 2+1,none⟩=some (.int .i64 q.2)) (first | exact ⟨hc1,hc2,hd1,hd2⟩ | exact hS2) ((go_at_call 104;refine HE.out.mono ?_;rintro e w2 ⟨rfl,hb2⟩;have hz:=hs.size;have hS2:w2.cell? ⟨b,off+k * 2,none⟩=some (.string p.1)/\w2.cell? ⟨b,off+k * 2+1,none⟩=some (.int .i64 p.2)/\w2.cell? ⟨b2,off2+k * 2,none⟩=some (.string q.1)/\w2.cell? ⟨b2,off2+k * 2+1,none⟩=some (.int .i64 q.2):=⟨(hb2.cell (p:=⟨b,off+k * 2,none⟩) (Nat.lt_of_lt_of_le h3 hz)).trans hc1,(hb2.cell (p:=⟨b,off+k * 2+1,none⟩) (Nat.lt_of_lt_of_le h3 hz)).trans hc2,(hb2.cell (p:=⟨b2,off2+k * 2,none⟩) (Nat.lt_of_lt_of_le g3 hz)).trans hd1,(hb2.cell (p:=⟨b2,off2+k * 2+1,none⟩) (Nat.lt_of_lt_of_le g3 hz)).trans hd2⟩))
              go_wp2
              go_roundw
              case rel=>exact ⟨k+1,by omega,by go_num,Hnx.out,hs.drew.trans (hb2.mono hs.size)⟩
              case measure=>simp [intOf];omega
            · rw [decide_eq_false he] at HE
              have Hno:=hide (Hno.out he)
              clear he Hnx
              go_wp2
              go_region_held_law (fun w'=>w'.cell? ⟨b,off+k * 2,none⟩=some (.string p.1)/\w'.cell? ⟨b,off+k * 2+1,none⟩=some (.int .i64 p.2)/\w'.cell? ⟨b2,off2+k * 2,none⟩=some (.string q.1)/\w'.cell? ⟨b2,off2+k * 2+1,none⟩=some (.int .i64 q.2)) (first | exact ⟨hc1,hc2,hd1,hd2⟩ | exact hS2) ((go_at_call 104;refine HE.out.mono ?_;rintro e w2 ⟨rfl,hb2⟩;have hz:=hs.size;have hS2:w2.cell? ⟨b,off+k * 2,none⟩=some (.string p.1)/\w2.cell? ⟨b,off+k * 2+1,none⟩=some (.int .i64 p.2)/\w2.cell? ⟨b2,off2+k * 2,none⟩=some (.string q.1)/\w2.cell? ⟨b2,off2+k * 2+1,none⟩=some (.int .i64 q.2):=⟨(hb2.cell (p:=⟨b,off+k * 2,none⟩) (Nat.lt_of_lt_of_le h3 hz)).trans hc1,(hb2.cell (p:=⟨b,off+k * 2+1,none⟩) (Nat.lt_of_lt_of_le h3 hz)).trans hc2,(hb2.cell (p:=⟨b2,off2+k * 2,none⟩) (Nat.lt_of_lt_of_le g3 hz)).trans hd1,(hb2.cell (p:=⟨b2,off2+k * 2+1,none⟩) (Nat.lt_of_lt_of_le g3 hz)).trans hd2⟩))
              go_wp2
              go_ret
              exact ⟨ret_bool Hno.out.symm,hs.drew.trans (hb2.mono hs.size)⟩
          · have hf:Hid (decide (l1=l2)=true):=hide (by
              rw [decide_eq_true]
              have:=Ht.out
              rwa [List.take_of_length_le (by omega),List.take_of_length_le (by omega)] at this)
            go_wp2
            go_ret
            exact ⟨ret_bool hf.out.symm,hs⟩
  · obtain ⟨a,cap,rfl⟩:=hr1.shape
    obtain ⟨a2,cap2,rfl⟩:=hr2.shape
    clear hr1 hr2
    have hlen:((l1.length:Int) != (l2.length:Int))=true:=by rw [bne_iff_ne];omega
    have hf:Hid (decide (l1=l2)=false):=hide (by rw [decide_eq_false];intro e;subst e;exact hne rfl)
    clear hne
    go_enter Tryz.func44,Tryz.ntmps44
    go_wp2
    go_ret
    exact ⟨ret_bool hf.out.symm,Below.refl _ _⟩
def totV (l:List Vl):Nat:=(l.map (·.1.size)).sum
theorem totV_snoc (l:List Vl) (k:Nat) (h:k < l.length):totV (l.take (k+1))=totV (l.take k)+l[k].1.size:=by
  unfold totV
  rw [List.take_succ_eq_append_getElem h,List.map_append,List.sum_append]
  simp only [List.map_cons,List.map_nil,List.sum_cons,List.sum_nil,Nat.add_zero]
theorem szVal_fit (p:Vl) (r:Nat) (w:World) (h:p.1.size<=r) (hr:r<=100000000) :
    Calls Tryz.prog 86 #[.agg #[.string p.1,.int .i64 p.2],.int .i64 (r:Int)] w fun e w'=>e=.returned (.int .i64 ((r - p.1.size:Nat):Int))/\Below w.heap.size w w':=by
  obtain ⟨a,b⟩:=p
  simp only at h ⊢
  have HB:=hide ((Below.refl _ w).alloc (Nat.le_refl _) (.cells #[.string a,.int .i64 b] 140))
  have w1:IntKind.i64.wrap ((r:Int) - (a.size:Int))=((r - a.size:Nat):Int):=by rw [IntKind.wrap_i64];omega
  have h0:¬ ((r:Int) - (a.size:Int)) < 0:=by omega
  have h1:¬ (((r - a.size:Nat):Int)) < 0:=by omega
  generalize r - a.size=q at w1 h1 ⊢
  go_enter Tryz.func86,Tryz.ntmps86
  go_wp2
  go_ret
  exact ⟨rfl,HB.out⟩
theorem szVal_not (p:Vl) (r:Nat) (w:World) (h:¬ p.1.size<=r) (hr:r<=100000000) (hs:p.1.size<=9223372036854775807) :
    Calls Tryz.prog 86 #[.agg #[.string p.1,.int .i64 p.2],.int .i64 (r:Int)] w fun e w'=>e=.returned (.int .i64 (-1))/\Below w.heap.size w w':=by
  obtain ⟨a,b⟩:=p
  simp only at h hs ⊢
  have HB:=hide ((Below.refl _ w).alloc (Nat.le_refl _) (.cells #[.string a,.int .i64 b] 140))
  have w1:IntKind.i64.wrap ((r:Int) - (a.size:Int))=(r:Int) - (a.size:Int):=by rw [IntKind.wrap_i64];omega
  have h0:((r:Int) - (a.size:Int)) < 0:=by omega
  go_enter Tryz.func86,Tryz.ntmps86
  go_wp2
  go_ret
  exact ⟨rfl,HB.out⟩
end Go.Proofs.YtaidhenkijjcfaaGreat
