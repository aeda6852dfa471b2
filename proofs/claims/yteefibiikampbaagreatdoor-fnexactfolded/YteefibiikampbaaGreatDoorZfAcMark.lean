/- The laws' marks on accounts. -/
import Derived.Test.YteefibiikampbaaGreatDoorZfAcPut
set_option maxRecDepth 20000
set_option maxHeartbeats 2000000
namespace Go.Proofs.YteefibiikampbaaGreatDoor
open Go.RowKit
set_option linter.unusedVariables false
theorem implCopied_any (a:Ac) (lv:Value) (w:World) (hr:RdL w lv a.2.2.2.2) (hl:a.2.2.2.2.length<=4000000) :
    Calls Tryz.prog 115 #[acV a lv] w fun e w'=>∃ lv',e=.returned (acV a lv')/\OwnL w.heap.size w' lv' a.2.2.2.2/\Below w.heap.size w w':=by
  obtain ⟨nm,fr,no,st,ls⟩:=a
  obtain ⟨av,cv,rfl⟩:=hr.shape
  simp only [acV] at *
  obtain ⟨w1,hw1⟩:∃ w1,w.alloc (.cells #[.string nm,.int .i64 fr,.int .i64 no,.int .i64 st,.slice av ls.length cv] 131)=w1:=⟨_,rfl⟩
  have hs1:w1.heap.size=w.heap.size+1:=by rw [<- hw1];simp
  have hb1:Below w.heap.size w w1:=by rw [<- hw1];exact (Below.refl _ w).alloc (Nat.le_refl _) _
  have k1:Blk w1 w.heap.size 131 [.string nm,.int .i64 fr,.int .i64 no,.int .i64 st,.slice av ls.length cv]:=by rw [<- hw1];exact Blk.new w _ _
  obtain ⟨w2,hw2⟩:∃ w2,w1.alloc (.cells #[.string { data:=#[] },.int .i64 0,.int .i64 0,.int .i64 0,.slice none 0 0] 131)=w2:=⟨_,rfl⟩
  have hs2:w2.heap.size=w.heap.size+2:=by rw [<- hw2];simp;omega
  have hb2:Below w1.heap.size w1 w2:=by rw [<- hw2];exact (Below.refl _ w1).alloc (Nat.le_refl _) _
  have k2:Blk w2 (w.heap.size+1) 131 acZ:=by rw [<- hw2,<- hs1];exact Blk.new w1 _ _
  have k1':=k1.below hb2 (by omega)
  obtain ⟨w3,hw3⟩:∃ w3,w2.alloc (.cells #[] 133)=w3:=⟨_,rfl⟩
  have hs3:w3.heap.size=w.heap.size+3:=by rw [<- hw3];simp;omega
  have hb3:Below w2.heap.size w2 w3:=by rw [<- hw3];exact (Below.refl _ w2).alloc (Nat.le_refl _) _
  have HB3:Hid (Below w.heap.size w w3):=hide ((hb1.trans (hb2.mono (by omega))).trans (hb3.mono (by omega)))
  have Hr3:Hid (RdL w3 (.slice av ls.length cv) ls):=hide (hr.below HB3.out (Nat.le_refl _))
  have Ho3:Hid (OwnL (w.heap.size+2) w3 (.slice (some ⟨w.heap.size+2,0,none⟩) 0 0) []):=hide (by rw [<- hw3,<- hs2];exact own_nilL w2 _ (Nat.le_refl _))
  have K1:=hide (k1'.below hb3 (by omega))
  have K2:=hide (k2.below hb3 (by omega))
  have c4:=K1.out.cell 4
  simp only [List.getElem?_cons_zero,List.getElem?_cons_succ] at c4
  clear hr k1 k1' k2 hb1 hb2 hb3
  go_enter Tryz.func115,Tryz.ntmps115
  go_wp2_with (at_builtin;refine app_ownL _ rfl _ _ rfl (w.heap.size+2) _ _ [] ls rfl rfl Ho3.out Hr3.out (by simp;omega) (by omega) ?_;intro lv' w4 ho4 hb4;rw [List.nil_append] at ho4;obtain ⟨av',cv',rfl⟩:=ho4.rd.shape;have j1:=K1.out.below hb4 (by omega);have j2:=K2.out.below hb4 (by omega);have d0:=j1.cell 0;have d1:=j1.cell 1;have d2:=j1.cell 2;have d3:=j1.cell 3;have d4:=j1.cell 4;have f4:=j1.frozen 4;have e0:=j2.cell 0;have e1:=j2.cell 1;have e2:=j2.cell 2;have e3:=j2.cell 3;have e4:=j2.cell 4;have g0:=j2.frozen 0;have g1:=j2.frozen 1;have g2:=j2.frozen 2;have g3:=j2.frozen 3;have g4:=j2.frozen 4;simp only [acZ,List.getElem?_cons_zero,List.getElem?_cons_succ] at d0 d1 d2 d3 d4 e0 e1 e2 e3 e4;have hl4:=hb4.size)
  refine bodyPost_ret (v:=.agg #[.string nm,.int .i64 fr,.int .i64 no,.int .i64 st,.slice av' ls.length cv']) (by simp [results,Tryz.f115,go_sem,e0,e1,e2,e3,e4]) rfl ?_
  have n1:∀ k,(Value.slice av' ls.length cv').ownBlock=some k->k ≠ w.heap.size:=fun k hk=>by have:=ho4.ge k hk;omega
  have n2:∀ k,(Value.slice av' ls.length cv').ownBlock=some k->k ≠ w.heap.size+1:=fun k hk=>by have:=ho4.ge k hk;omega
  have HB4:=HB3.out.trans (hb4.mono (by omega))
  refine ⟨_,rfl,row_set (row_set (row_set (row_set (row_set (row_set (ho4.mono (by omega)) _ _ _ n1) _ _ _ n2) _ _ _ n2) _ _ _ n2) _ _ _ n2) _ _ _ n2,?_⟩
  exact (((((HB4.setCell (p:=⟨w.heap.size,4,none⟩) (by show w.heap.size<=w.heap.size;omega) _).setCell (p:=⟨w.heap.size+1,0,none⟩) (by show w.heap.size<=w.heap.size+1;omega) _).setCell (p:=⟨w.heap.size+1,1,none⟩) (by show w.heap.size<=w.heap.size+1;omega) _).setCell (p:=⟨w.heap.size+1,2,none⟩) (by show w.heap.size<=w.heap.size+1;omega) _).setCell (p:=⟨w.heap.size+1,3,none⟩) (by show w.heap.size<=w.heap.size+1;omega) _).setCell (p:=⟨w.heap.size+1,4,none⟩) (by show w.heap.size<=w.heap.size+1;omega) _
theorem implCopiedS_any (v:Value) (l:List Ac) (w:World) (hr:RdA w v l) (hl:l.length<=4000000) (hall:∀ a ∈ l,a.2.2.2.2.length<=4000000) :
    Calls Tryz.prog 69 #[v] w fun e w'=>∃ v',e=.returned v'/\OwnA w.heap.size w' v' l/\Below w.heap.size w w':=by
  obtain ⟨i0,hi,hz0,hz1,hz2⟩:=info_parts Tryz.infoAc
  rcases hr with ⟨a,cap,rfl,rfl,-⟩ | ⟨b,off,cap,h0,rfl,h1,h2,h3,h4⟩
  · go_enter Tryz.func69,Tryz.ntmps69
    go_wp2_with (refine wpList_make_own _ rfl _ _ 34 rfl w.heap.size 131 i0 (.agg #[.string { data:=#[] },.int .i64 0,.int .i64 0,.int .i64 0,.slice none 0 0]) 5 Tryz.underlying34 hi hz0 hz1 .i64 .i64 _ 0 rfl rfl rfl (by omega) (by unfold maxLen;omega) (Nat.le_refl _) ?_;intro w1 hown hgrow)
    have hb1:Below w.heap.size w w1:=(Below.refl _ _).grown hgrow (Nat.le_refl _) (by intro k hk;cases hk)
    refine wp_loop_rounds 1 ?_
    rw [rounds_succ]
    go_wp2
    go_ret
    exact ⟨_,rfl,OwnA.of_row (Z:=[]) hown (Lvs.nil _ _ _),hb1⟩
  · have H4:=hide h4
    have Hall:=hide hall
    clear h4 hall
    go_enter Tryz.func69,Tryz.ntmps69
    go_wp2_with (refine wpList_make_own _ rfl _ _ 34 rfl w.heap.size 131 i0 (.agg #[.string { data:=#[] },.int .i64 0,.int .i64 0,.int .i64 0,.slice none 0 0]) 5 Tryz.underlying34 hi hz0 hz1 .i64 .i64 _ l.length rfl rfl rfl (by rw [hz2];omega) (by unfold maxLen;omega) (Nat.le_refl _) ?_;intro w1 hown hgrow)
    have hb1:Below w.heap.size w w1:=(Below.refl _ _).grown hgrow (Nat.le_refl _) (by intro k hk;cases hk)
    go_loopw [3,11] (fun ov iv wr=>∃ (k g c:Nat) (Z:List (Ac × Value)),k<=l.length/\iv=.int .i64 k/\ov=.slice (some ⟨g,0,none⟩) k c/\Z.map (·.1)=l.take k/\RowA w.heap.size wr ov Z/\Lvs w.heap.size wr g Z/\Below w.heap.size w wr) (fun _ iv _=>l.length - (intOf iv).toNat)
    case atStart=>exact ⟨0,_,_,[],Nat.zero_le _,rfl,rfl,rfl,hown,Lvs.nil _ _ _,hb1⟩
    case round =>
      obtain ⟨k,g,c,Z,hk,rfl,rfl,hZ,ho,hlv,hb⟩:=hrel
      clear hown hgrow hb1
      have hZl:Z.length=k:=by have:=congrArg List.length hZ;simp at this;omega
      by_cases hlt:k < l.length
      · obtain ⟨lv,hat,hrl⟩:=H4.out k hlt
        obtain ⟨c0,c1,c2,c3,c4⟩:=hat.below hb h3
        have hli:(k:Int) < (l.length:Int):=by omega
        have hbb:b < wr.heap.size:=Nat.lt_of_lt_of_le h3 hb.size
        have hgl:g < wr.heap.size:=ho.lt g rfl
        have hshape:=hrl.shape
        have Hrl:=hide (hrl.below hb (Nat.le_refl _))
        have hls:=Hall.out l[k] (List.getElem_mem _)
        have HZ2:Hid (∀ lv':Value,(Z ++ [(l[k],lv')]).map (·.1)=l.take (k+1)):=hide (fun lv'=>by rw [List.map_append,hZ,List.take_succ_eq_append_getElem hlt];rfl)
        have Ho:=hide ho
        have Hlv:=hide hlv
        clear hat hrl ho hlv hZ
        generalize l[k]=ak at c0 c1 c2 c3 hshape Hrl hls HZ2
        obtain ⟨nm,fr,no,st,ls⟩:=ak
        obtain ⟨av,cv,rfl⟩:=hshape
        simp only at c0 c1 c2 c3 Hrl hls
        obtain ⟨w1,hw1⟩:∃ w1,wr.alloc (.cells #[.string nm,.int .i64 fr,.int .i64 no,.int .i64 st,.slice av ls.length cv] 131)=w1:=⟨_,rfl⟩
        have hA:Below wr.heap.size wr w1:=by rw [<- hw1];exact (Below.refl _ wr).alloc (Nat.le_refl _) _
        have hk1:Blk w1 wr.heap.size 131 [.string nm,.int .i64 fr,.int .i64 no,.int .i64 st,.slice av ls.length cv]:=by rw [<- hw1];exact Blk.new wr _ _
        have HC:=hide (implCopied_any (nm,fr,no,st,ls) (.slice av ls.length cv) w1 (Hrl.out.below hA (Nat.le_refl _)) hls)
        simp only [acV] at HC
        have hlt1:=hk1.lt
        have e0:=hk1.cell 0
        have e1:=hk1.cell 1
        have e2:=hk1.cell 2
        have e3:=hk1.cell 3
        have e4:=hk1.cell 4
        simp only [List.getElem?_cons_zero,List.getElem?_cons_succ] at e0 e1 e2 e3 e4
        go_wp2_with (first
          | (go_at_call 115;refine HC.out.mono ?_;rintro e w2 ⟨lv',rfl,ho2,hb2⟩;obtain ⟨av',cv',rfl⟩:=ho2.rd.shape;have hB2:=hA.trans (hb2.mono hA.size))
          | (at_builtin;refine app_ownA _ rfl _ _ rfl w.heap.size _ _ Z ((nm,fr,no,st,ls),.slice av' ls.length cv') rfl rfl (World.ownsRow.alloc (Ho.out.below hB2 (Nat.le_refl _)) _) (Blk.new' _ _ (acC ((nm,fr,no,st,ls),.slice av' ls.length cv')) _ rfl) rfl (by omega) (by have:=hb.size;have:=hB2.size;simp;omega) ?_;intro v' w4 hrow hgr hnn hloc))
        have hB:Below w.heap.size w (w2.alloc (.cells #[.string nm,.int .i64 fr,.int .i64 no,.int .i64 st,.slice av' ls.length cv'] 131)):=(hb.trans (hB2.mono hb.size)).alloc (by have:=hb.size;have:=hB2.size;omega) _
        obtain ⟨g',c',rfl,hlv'⟩:=rowA_step (Hlv.out.below hB2 (Nat.le_refl _)) (ho2.mono (by have:=hb.size;have:=hA.size;omega)) (fun j hj=>by have:=ho2.ge j hj;have:=hA.size;omega)
          (fun i hi j hj e=>by have:=(Hlv.out.own i hi).lt j hj;have:=ho2.ge j e;have:=hA.size;omega) ((Below.refl _ w2).alloc (Nat.le_refl _) _) hgr hrow hnn hloc
        go_roundw
        case rel =>
          refine ⟨k+1,g',c',_,by omega,by go_num,by simp [hZl],HZ2.out _,hrow,hlv',hB.grown hgr (by have:=hb.size;have:=hB2.size;simp;omega) (fun j hj=>by cases hj;exact Ho.out.ge g rfl)⟩
        case measure=>simp [intOf];omega
      · have e:k=l.length:=by omega
        subst e
        rw [List.take_length] at hZ
        go_wp2
        go_ret
        have:=OwnA.of_row (cap:=c) (g:=g) (Z:=Z) (by rw [hZl];exact ho) hlv
        rw [hZ,hZl] at this
        exact ⟨_,rfl,this,hb⟩
theorem specCopy_any (v:Value) (l:List Ac) (w:World) (hr:RdA w v l) (hl:l.length<=4000000) (hall:∀ a ∈ l,a.2.2.2.2.length<=4000000) :
    Calls Tryz.prog 58 #[v] w fun e w'=>∃ v',e=.returned v'/\OwnA w.heap.size w' v' l/\Below w.heap.size w w':=by
  rcases hr with ⟨a,cap,rfl,rfl,-⟩ | ⟨b,off,cap,h0,rfl,h1,h2,h3,h4⟩
  · go_enter Tryz.func58,Tryz.ntmps58
    have hown:=row_nilA w w.heap.size (Nat.le_refl _)
    have hb1:Below w.heap.size w (w.alloc (.cells #[] 131)):=(Below.refl _ _).alloc (Nat.le_refl _) _
    go_wp2
    refine wp_loop_rounds 1 ?_
    rw [rounds_succ]
    go_wp2
    go_ret
    exact ⟨_,rfl,OwnA.of_row (Z:=[]) hown (Lvs.nil _ _ _),hb1⟩
  · have H4:=hide h4
    have Hall:=hide hall
    clear h4 hall
    go_enter Tryz.func58,Tryz.ntmps58
    have hown:=hide (row_nilA w w.heap.size (Nat.le_refl _))
    have hb1:Hid (Below w.heap.size w (w.alloc (.cells #[] 131))):=hide ((Below.refl _ _).alloc (Nat.le_refl _) _)
    go_wp2
    go_loopw [3,4] (fun ov iv wr=>∃ (k g c:Nat) (Z:List (Ac × Value)),k<=l.length/\iv=.int .i64 k/\ov=.slice (some ⟨g,0,none⟩) k c/\Z.map (·.1)=l.take k/\RowA w.heap.size wr ov Z/\Lvs w.heap.size wr g Z/\Below w.heap.size w wr) (fun _ iv _=>l.length - (intOf iv).toNat)
    case atStart=>exact ⟨0,_,_,[],Nat.zero_le _,rfl,rfl,rfl,hown.out,Lvs.nil _ _ _,hb1.out⟩
    case round =>
      obtain ⟨k,g,c,Z,hk,rfl,rfl,hZ,ho,hlv,hb⟩:=hrel
      clear hown hb1
      have hZl:Z.length=k:=by have:=congrArg List.length hZ;simp at this;omega
      by_cases hlt:k < l.length
      · obtain ⟨lv,hat,hrl⟩:=H4.out k hlt
        obtain ⟨c0,c1,c2,c3,c4⟩:=hat.below hb h3
        have hli:(k:Int) < (l.length:Int):=by omega
        have hbb:b < wr.heap.size:=Nat.lt_of_lt_of_le h3 hb.size
        have hgl:g < wr.heap.size:=ho.lt g rfl
        have hshape:=hrl.shape
        have Hrl:=hide (hrl.below hb (Nat.le_refl _))
        have hls:=Hall.out l[k] (List.getElem_mem _)
        have HZ2:Hid (∀ lv':Value,(Z ++ [(l[k],lv')]).map (·.1)=l.take (k+1)):=hide (fun lv'=>by rw [List.map_append,hZ,List.take_succ_eq_append_getElem hlt];rfl)
        have Ho:=hide ho
        have Hlv:=hide hlv
        clear hat hrl ho hlv hZ
        generalize l[k]=ak at c0 c1 c2 c3 hshape Hrl hls HZ2
        obtain ⟨nm,fr,no,st,ls⟩:=ak
        obtain ⟨av,cv,rfl⟩:=hshape
        simp only at c0 c1 c2 c3 Hrl hls
        obtain ⟨w1,hw1⟩:∃ w1,wr.alloc (.cells #[.string nm,.int .i64 fr,.int .i64 no,.int .i64 st,.slice av ls.length cv] 131)=w1:=⟨_,rfl⟩
        have hA:Below wr.heap.size wr w1:=by rw [<- hw1];exact (Below.refl _ wr).alloc (Nat.le_refl _) _
        have hk1:Blk w1 wr.heap.size 131 [.string nm,.int .i64 fr,.int .i64 no,.int .i64 st,.slice av ls.length cv]:=by rw [<- hw1];exact Blk.new wr _ _
        have hs1:w1.heap.size=wr.heap.size+1:=by rw [<- hw1];simp
        obtain ⟨w2,hw2⟩:∃ w2,w1.alloc (.cells #[] 133)=w2:=⟨_,rfl⟩
        have hA2:Below w1.heap.size w1 w2:=by rw [<- hw2];exact (Below.refl _ w1).alloc (Nat.le_refl _) _
        have hs2:w2.heap.size=wr.heap.size+2:=by rw [<- hw2];simp;omega
        have Ho3:Hid (OwnL (wr.heap.size+1) w2 (.slice (some ⟨wr.heap.size+1,0,none⟩) 0 0) []):=hide (by rw [<- hw2,<- hs1];exact own_nilL w1 _ (Nat.le_refl _))
        have Hr3:Hid (RdL w2 (.slice av ls.length cv) ls):=hide ((Hrl.out.below hA (Nat.le_refl _)).below hA2 (Nat.le_refl _))
        have HK:=hide (hk1.below hA2 (by omega))
        have HA2:Hid (Below wr.heap.size wr w2):=hide (hA.trans (hA2.mono hA.size))
        have e4:=HK.out.cell 4
        simp only [List.getElem?_cons_zero,List.getElem?_cons_succ] at e4
        clear hk1 hA hA2
        go_wp2_with (first
          | (at_builtin;refine app_ownL _ rfl _ _ rfl (wr.heap.size+1) _ _ [] ls rfl rfl Ho3.out Hr3.out (by simp;omega) (by omega) ?_;intro lv' w3 ho4 hb4;rw [List.nil_append] at ho4;obtain ⟨av',cv',rfl⟩:=ho4.rd.shape;have j1:=HK.out.below hb4 (by omega);have d0:=j1.cell 0;have d1:=j1.cell 1;have d2:=j1.cell 2;have d3:=j1.cell 3;have d4:=j1.cell 4;have f4:=j1.frozen 4;simp only [List.getElem?_cons_zero,List.getElem?_cons_succ] at d0 d1 d2 d3 d4;have hl4:=hb4.size;have hB2:=(HA2.out.trans (hb4.mono (by omega))).setCell (p:=⟨wr.heap.size,4,none⟩) (Nat.le_refl _) (.slice av' ls.length cv');have ho2:=row_set ho4 wr.heap.size 4 (.slice av' ls.length cv') (fun k hk=>by have:=ho4.ge k hk;omega))
          | (at_builtin;refine app_ownA _ rfl _ _ rfl w.heap.size _ _ Z ((nm,fr,no,st,ls),.slice av' ls.length cv') rfl rfl (World.ownsRow.alloc (Ho.out.below hB2 (Nat.le_refl _)) _) (Blk.new' _ _ (acC ((nm,fr,no,st,ls),.slice av' ls.length cv')) _ (by simp)) rfl (by omega) (by have:=hb.size;have:=hB2.size;simp at this ⊢;omega) ?_;intro v' w4 hrow hgr hnn hloc))
        have hB:Below w.heap.size w ((w3.setCell ⟨wr.heap.size,4,none⟩ (.slice av' ls.length cv')).alloc (.cells #[.string nm,.int .i64 fr,.int .i64 no,.int .i64 st,.slice av' ls.length cv'] 131)):=(hb.trans (hB2.mono hb.size)).alloc (by have:=hb.size;have:=hB2.size;omega) _
        have ho2:OwnL (wr.heap.size+1) (w3.setCell ⟨wr.heap.size,4,none⟩ (.slice av' ls.length cv')) (.slice av' ls.length cv') ls:=ho2
        obtain ⟨g',c',rfl,hlv'⟩:=rowA_step (q:=((nm,fr,no,st,ls),.slice av' ls.length cv')) (Hlv.out.below hB2 (Nat.le_refl _)) (OwnL.mono ho2 (by have:=hb.size;omega)) (fun j hj=>by have:=OwnL.ge ho2 j hj;omega)
          (fun i hi j hj e=>by have:=(Hlv.out.own i hi).lt j hj;have:=OwnL.ge ho2 j e;omega) ((Below.refl _ _).alloc (Nat.le_refl _) _) hgr hrow hnn hloc
        go_roundw
        case rel =>
          refine ⟨k+1,g',c',_,by omega,by go_num,by simp [hZl],HZ2.out _,hrow,hlv',hB.grown hgr (by have:=hb.size;have:=hB2.size;simp;omega) (fun j hj=>by cases hj;exact Ho.out.ge g rfl)⟩
        case measure=>simp [intOf];omega
      · have e:k=l.length:=by omega
        subst e
        rw [List.take_length] at hZ
        go_wp2
        go_ret
        have:=OwnA.of_row (cap:=c) (g:=g) (Z:=Z) (by rw [hZl];exact ho) hlv
        rw [hZ,hZl] at this
        exact ⟨_,rfl,this,hb⟩
theorem atF_get (s:ByteArray):∀ (l:List Ac) (n:Nat) (a:Ac),getA s l=some a->∃ (k:Nat) (h:k < l.length),atF s l n=((n+k:Nat):Int)/\l[k]=a/\a.1=s/\∀ j (hj:j < k),(l[j]'(by omega)).1 ≠ s
  | [],n,a,h=>by simp [getA] at h
  | x :: t,n,a,h=>by
    unfold getA at h
    split at h
    · rename_i he
      simp at h
      subst h
      exact ⟨0,by simp,by unfold atF;rw [if_pos he];simp,rfl,he,fun j hj=>by omega⟩
    · rename_i he
      obtain ⟨k,hk,h1,h2,h3,h4⟩:=atF_get s t (n+1) a h
      refine ⟨k+1,by simp;omega,by unfold atF;rw [if_neg he,h1];omega,by simpa using h2,h3,fun j hj=>?_⟩
      cases j with
      | zero=>exact he
      | succ j=>simpa using h4 j (by omega)
theorem at_get {s:ByteArray} {l:List Ac} {a:Ac} (h:getA s l=some a):∃ (k:Nat) (h:k < l.length),atA l s=(k:Int)/\l[k]=a/\a.1=s/\∀ j (hj:j < k),(l[j]'(by omega)).1 ≠ s:=by
  obtain ⟨k,hk,h1,r⟩:=atF_get s l 0 a h
  exact ⟨k,hk,by unfold atA;rw [h1];omega,r⟩
theorem at_not {s:ByteArray} {l:List Ac} (h:getA s l=none):atA l s=-1:=atF_none s l 0 (fun j hj=>getA_none h _ (List.getElem_mem _))
theorem getA_has {s:ByteArray}:∀ {l:List Ac},(∃ x ∈ l,x.1=s)->∃ a,getA s l=some a
  | [],h=>by simp at h
  | x :: t,h=>by
    unfold getA
    split
    · exact ⟨_,rfl⟩
    · rename_i he
      obtain ⟨y,hy,e⟩:=h
      rcases List.mem_cons.1 hy with rfl | hy
      · exact absurd e he
      · exact getA_has ⟨y,hy,e⟩
theorem with_has (l:List Ac) (s:ByteArray):∃ a,getA s (withA l s)=some a:=by
  unfold withA
  split
  · exact getA_has ⟨newAc s,by simp,rfl⟩
  · rename_i h
    cases hg:getA s l with
    | none=>exact absurd hg h
    | some a=>exact ⟨a,rfl⟩
theorem upA_set (s:ByteArray) (n:Int):∀ (l:List Ac) (k:Nat) (h:k < l.length),l[k].1=s->(∀ j (hj:j < k),(l[j]'(by omega)).1 ≠ s)->upA s n l=l.set k (l[k].1,wrap64 (l[k].2.1+n),l[k].2.2)
  | [],k,h,_,_=>by simp at h
  | x :: t,0,h,he,_=>by
    unfold upA
    rw [if_pos (by simpa using he)]
    rfl
  | x :: t,k+1,h,he,hn=>by
    unfold upA
    rw [if_neg (by simpa using hn 0 (by omega)),upA_set s n t k (by simpa using h) (by simpa using he) (fun j hj=>by simpa using hn (j+1) (by omega))]
    rfl
theorem upA_len (s:ByteArray) (n:Int):∀ l:List Ac,(upA s n l).length=l.length
  | []=>rfl
  | x :: t=>by
    unfold upA
    split
    · rfl
    · simp [upA_len s n t]
theorem withA_len (l:List Ac) (s:ByteArray):(withA l s).length<=l.length+1:=by
  unfold withA
  split
  · simp;omega
  · omega
def tlZ (q:Ac × Value):Value × List (Int × Int):=(q.2,q.1.2.2.2.2)
structure LvQ (base:Nat) (w:World) (g:Nat) (T:List (Value × List (Int × Int))):Prop where
  own:∀ t ∈ T,OwnL base w t.1 t.2
  far:∀ t ∈ T,∀ k,t.1.ownBlock=some k->k ≠ g
  apart:T.Pairwise (fun a b=>∀ k,a.1.ownBlock=some k->b.1.ownBlock ≠ some k)
theorem Lvs.heap {base:Nat} {w:World} {g:Nat} {Z:List (Ac × Value)} (h:Lvs base w g Z):LvQ base w g (Z.map tlZ):=by
  refine ⟨fun t ht=>?_,fun t ht=>?_,?_⟩
  · obtain ⟨q,hq,rfl⟩:=List.mem_map.1 ht
    obtain ⟨i,hi,rfl⟩:=List.mem_iff_getElem.1 hq
    exact h.own i hi
  · obtain ⟨q,hq,rfl⟩:=List.mem_map.1 ht
    obtain ⟨i,hi,rfl⟩:=List.mem_iff_getElem.1 hq
    exact h.far i hi
  · rw [List.pairwise_map]
    exact List.pairwise_iff_getElem.2 fun i j hi hj hij=>h.apart i j hi hj (by omega)
theorem LvQ.lvs {base:Nat} {w:World} {g:Nat} {Z:List (Ac × Value)} (h:LvQ base w g (Z.map tlZ)):Lvs base w g Z:=by
  have hp:=List.pairwise_iff_getElem.1 (List.pairwise_map.1 h.apart)
  refine ⟨fun i hi=>h.own _ (List.mem_map_of_mem (List.getElem_mem hi)),fun i hi=>h.far _ (List.mem_map_of_mem (List.getElem_mem hi)),fun i j hi hj hij k hk=>?_⟩
  by_cases hlt:i < j
  · exact hp i j hi hj hlt k hk
  · exact fun e=>hp j i hj hi (by omega) k e hk
theorem LvQ.perm {base:Nat} {w:World} {g:Nat} {T T':List (Value × List (Int × Int))} (h:LvQ base w g T) (hp:T.Perm T'):LvQ base w g T' :=
  ⟨fun t ht=>h.own t (hp.mem_iff.2 ht),fun t ht=>h.far t (hp.mem_iff.2 ht),(hp.pairwise_iff (fun {a b} hab k hk e=>hab k e hk)).1 h.apart⟩
theorem LvQ.cons_nil {base:Nat} {w:World} {g:Nat} {T:List (Value × List (Int × Int))} (h:LvQ base w g T):LvQ base w g ((.slice none 0 0,[]) :: T):=by
  refine ⟨fun t ht=>?_,fun t ht=>?_,List.pairwise_cons.2 ⟨fun t _ k hk=>by simp [Value.ownBlock] at hk,h.apart⟩⟩
  · rcases List.mem_cons.1 ht with rfl | ht
    · exact own_noneL _ _
    · exact h.own t ht
  · rcases List.mem_cons.1 ht with rfl | ht
    · intro k hk;simp [Value.ownBlock] at hk
    · exact h.far t ht
theorem Lvs.mid {base:Nat} {w:World} {g:Nat} {Z:List (Ac × Value)} (h:Lvs base w g Z) (q:Ac × Value) (hq:tlZ q=(.slice none 0 0,[])) (k:Nat):Lvs base w g (Z.take k ++ q :: Z.drop k):=by
  refine LvQ.lvs ?_
  have e:(Z.take k ++ q :: Z.drop k).map tlZ=(Z.take k).map tlZ ++ (.slice none 0 0,[]) :: (Z.drop k).map tlZ:=by rw [List.map_append,List.map_cons,hq]
  rw [e]
  refine (LvQ.cons_nil h.heap).perm ?_
  refine (List.Perm.trans ?_ List.perm_middle.symm)
  rw [<- List.map_append,List.take_append_drop]
theorem Lvs.same {base:Nat} {w:World} {g:Nat} {Z Z':List (Ac × Value)} (h:Lvs base w g Z) (e:Z'.map tlZ=Z.map tlZ):Lvs base w g Z':=LvQ.lvs (by rw [e];exact h.heap)
def midC (Z:List (Ac × Value)) (k:Nat) (x:List Value):List (List Value):=(Z.take k).map acC ++ x :: (Z.drop k).map acC
theorem midC_len (Z:List (Ac × Value)) (k:Nat) (x:List Value) (h:k<=Z.length):(midC Z k x).length=Z.length+1:=by simp [midC];omega
theorem midC_sz (Z:List (Ac × Value)) (k:Nat) (x:List Value) (hx:x.length=5):∀ y ∈ midC Z k x,y.length=5:=by
  intro y hy
  rcases List.mem_append.1 hy with h | h
  · exact acM_sz _ y h
  · rcases List.mem_cons.1 h with rfl | h
    · exact hx
    · exact acM_sz _ y h
theorem midC_set (Z:List (Ac × Value)) (k:Nat) (x y:List Value) (h:k<=Z.length):(midC Z k x).set k y=midC Z k y:=by
  unfold midC
  have e:((Z.take k).map acC).length=k:=by simp;omega
  rw [List.set_append_right _ _ (by omega),e,Nat.sub_self]
  rfl
theorem midC_at (Z:List (Ac × Value)) (k:Nat) (x:List Value) (h:k<=Z.length):(midC Z k x)[k]'(by rw [midC_len _ _ _ h];omega)=x:=by
  unfold midC
  rw [List.getElem_append_right (by simp;omega)]
  simp [show k - min k Z.length=0 from by omega]
theorem midC_prev (Z:List (Ac × Value)) (k:Nat) (x:List Value) (h:k+1<=Z.length):(midC Z (k+1) x)[k]'(by rw [midC_len _ _ _ h];omega)=acC (Z[k]'(by omega)):=by
  unfold midC
  rw [List.getElem_append_left (by simp;omega)]
  simp
theorem midC_down (Z:List (Ac × Value)) (k:Nat) (h:k < Z.length):midC Z (k+1) (acC Z[k])=midC Z k (acC Z[k]):=by
  unfold midC
  rw [List.take_succ_eq_append_getElem h,List.drop_eq_getElem_cons h,List.map_append,List.map_cons,List.append_assoc]
  rfl
theorem midC_end (Z:List (Ac × Value)) (q:Ac × Value):midC Z Z.length (acC q)=(Z ++ [q]).map acC:=by simp [midC]
theorem midC_put (Z:List (Ac × Value)) (k:Nat) (q:Ac × Value):midC Z k (acC q)=(Z.take k ++ q :: Z.drop k).map acC:=by simp [midC]
theorem RowA.shapeN {base:Nat} {w:World} {v:Value} {Z:List (Ac × Value)} (h:RowA base w v Z) (hn:v ≠ .slice none 0 0) (n:Nat) (hZ:Z.length=n):∃ g cap,v=.slice (some ⟨g,0,none⟩) n cap:=by
  obtain ⟨g,cap,e⟩:=h.shape hn
  exact ⟨g,cap,by rw [e,hZ]⟩
theorem plA_here {l:List Ac} {s:ByteArray} {k:Nat} (hk:k<=l.length) (h:k=0\/∃ h:k - 1 < l.length,¬ Lt s l[k - 1].1):plA l s k=k:=by
  cases k with
  | zero=>rfl
  | succ j =>
    rcases h with h | ⟨h1,h2⟩
    · omega
    · unfold plA
      have:l.getD j ac0=l[j]:=by rw [List.getD_eq_getElem?_getD,List.getElem?_eq_getElem (show j < l.length by omega)];rfl
      rw [this]
      exact if_neg h2
theorem plA_next {l:List Ac} {s:ByteArray} {k:Nat} (hk:k - 1 < l.length) (h0:0 < k) (h:Lt s l[k - 1].1):plA l s k=plA l s (k - 1):=by
  cases k with
  | zero=>omega
  | succ j =>
    show plA l s (j+1)=plA l s j
    have:l.getD j ac0=l[j]'(by omega):=by rw [List.getD_eq_getElem?_getD,List.getElem?_eq_getElem (show j < l.length by omega)];rfl
    rw [plA,this]
    exact if_pos h
theorem specWith_any (v:Value) (l:List Ac) (s:ByteArray) (w:World) (hr:RdA w v l) (hl:l.length<=4000000) (hall:∀ a ∈ l,a.2.2.2.2.length<=4000000) :
    Calls Tryz.prog 134 #[v,.string s] w fun e w'=>∃ v',e=.returned v'/\OwnA w.heap.size w' v' (withA l s)/\Below w.heap.size w w':=by
  have Hr:=hide hr
  have HC:=hide (specCopy_any v l w hr hl hall)
  have HA:=hide (fun w h=>specAcctAt_any v l s w h hl)
  clear hr hall
  go_enter Tryz.func134,Tryz.ntmps134
  go_wp2_with fail
  refine HC.out.mono ?_
  rintro e w1 ⟨v1,rfl,ho1,hb1⟩
  have HA1:=hide (HA.out w1 (Hr.out.below hb1 (Nat.le_refl _)))
  have Ho1:=hide ho1
  clear HA ho1 HC Hr
  cases hg:getA s l with
  | some a =>
    obtain ⟨k,hk,hat,-,-,-⟩:=at_get hg
    have Hw:Hid (withA l s=l):=hide (by unfold withA;rw [hg];exact if_neg (by simp))
    rw [hat] at HA1
    have hk0:(0:Int)<=(k:Int):=by omega
    clear hat hg
    go_wp2_with fail
    refine HA1.out.mono ?_
    rintro e w2 ⟨rfl,hb2⟩
    go_wp2
    go_ret
    exact ⟨v1,rfl,by rw [Hw.out];exact Ho1.out.below hb2 (Nat.le_refl _),hb1.trans (hb2.mono hb1.size)⟩
  | none =>
    have Hw:Hid (withA l s=l.take (plA l s l.length) ++ newAc s :: l.drop (plA l s l.length)):=hide (by unfold withA;rw [hg];exact if_pos rfl)
    rw [at_not hg] at HA1
    clear hg
    go_wp2_with fail
    refine HA1.out.mono ?_
    rintro e w2 ⟨rfl,hb2⟩
    have ho2:=Ho1.out.below hb2 (Nat.le_refl _)
    have hB2:Below w.heap.size w w2:=hb1.trans (hb2.mono hb1.size)
    obtain ⟨g,cap,Z,hZ,rfl,hrow,hlv⟩:=ho2
    have hZl:Z.length=l.length:=by rw [<- hZ];simp
    have HZ:=hide hZ
    have Hrow:Hid (RowA w.heap.size w2 (.slice (some ⟨g,0,none⟩) l.length cap) Z):=hide (by unfold RowA;rw [hZl];exact hrow)
    have Hlv:=hide hlv
    have hwg:w.heap.size<=g:=Hrow.out.ge g rfl
    have hs2:=hB2.size
    clear hZ hrow hlv Ho1 HA1 hb1 hb2
    go_wp2_with (at_builtin;refine app_ownA _ rfl _ _ rfl w.heap.size (.slice (some ⟨g,0,none⟩) l.length cap) _ Z ((ByteArray.empty,0,0,0,[]),.slice none 0 0) rfl rfl (World.ownsRow.alloc Hrow.out _) (Blk.new' _ _ (acC ((ByteArray.empty,0,0,0,[]),.slice none 0 0)) _ (by simp)) rfl (by omega) (by simp;omega) ?_;intro v3 w3 hrow3 hgr3 hnn3 hloc3;obtain ⟨g',c',rfl⟩:=hrow3.shapeN hnn3 (l.length+1) (by simp [hZl]))
    have hB3:Below w.heap.size w w3:=(hB2.alloc hs2 _).grown hgr3 (by simp;omega) (fun j hj=>by cases hj;exact hwg)
    have hlv3:Lvs w.heap.size w3 g' Z:=(Hlv.out.below ((Below.refl _ w2).alloc (Nat.le_refl _) _) (Nat.le_refl _)).move hgr3 (by
      rcases hloc3 with h | h
      · exact .inl (by simpa [Value.ownBlock] using h)
      · exact .inr (by simp [Value.ownBlock] at h ⊢;omega))
    have hr3:w3.ownsRow w.heap.size 131 5 (.slice (some ⟨g',0,none⟩) (l.length+1) c') (l.length+1) (midC Z l.length [.string { data:=#[] },.int .i64 0,.int .i64 0,.int .i64 0,.slice none 0 0]).flatten:=by
      have e:midC Z l.length [.string { data:=#[] },.int .i64 0,.int .i64 0,.int .i64 0,.slice none 0 0]=(Z ++ [(((ByteArray.empty,0,0,0,[]):Ac),Value.slice none 0 0)]).map acC:=by rw [<- hZl];exact midC_end Z ((ByteArray.empty,0,0,0,[]),.slice none 0 0)
      rw [e]
      have:=hrow3
      unfold RowA at this
      rwa [show (Z ++ [(((ByteArray.empty,0,0,0,[]):Ac),Value.slice none 0 0)]).length=l.length+1 from by simp [hZl]] at this
    clear hrow3 hgr3 hnn3 hloc3 Hrow Hlv
    go_loopw [6] (fun iv wr=>∃ (k:Nat) (x0 x1 x2 x3 x4:Value),k<=l.length/\iv=.int .i64 k/\plA l s l.length=plA l s k/\wr.ownsRow w.heap.size 131 5 (.slice (some ⟨g',0,none⟩) (l.length+1) c') (l.length+1) (midC Z k [x0,x1,x2,x3,x4]).flatten/\Lvs w.heap.size wr g' Z/\Below w.heap.size w wr) (fun iv _=>(intOf iv).toNat)
    case atStart=>exact ⟨l.length,_,_,_,_,_,Nat.le_refl _,by go_num,rfl,hr3,hlv3,hB3⟩
    case round =>
      obtain ⟨k,x0,x1,x2,x3,x4,hk,rfl,hpl,ho,hlv,hb⟩:=hrel
      clear hr3 hlv3 hB3
      have Hpl:=hide hpl
      have Hlv:=hide hlv
      have hgw:w.heap.size<=g':=(World.ownsRow.lt ho g' rfl).1
      have hkL:(k:Int) < ((l.length+1:Nat):Int):=by omega
      have hkN:k < l.length+1:=by omega
      have Hset:Hid (∀ y0 y1 y2 y3 y4:Value,((((((midC Z k [x0,x1,x2,x3,x4]).flatten.set (k * 5) y0).set (k * 5+1) y1).set (k * 5+2) y2).set (k * 5+3) y3).set (k * 5+4) y4)=(midC Z k [y0,y1,y2,y3,y4]).flatten):=hide (fun y0 y1 y2 y3 y4=>by
        rw [flat_put5 _ k _ _ _ _ _ (by rw [midC_len Z k _ (by omega)];omega) (midC_sz Z k _ rfl),midC_set Z k _ _ (by omega)])
      have Hat:Hid (∀ j,j < 5->(midC Z k [x0,x1,x2,x3,x4]).flatten[k * 5+j]?=[x0,x1,x2,x3,x4][j]?):=hide (fun j hj=>by
        rw [flat_get 5 _ k j (by rw [midC_len Z k _ (by omega)];omega) (midC_sz Z k _ rfl) hj,midC_at Z k _ (by omega)])
      have q0:=ho.cellAt (k * 5) (by omega)
      have q1:=ho.cellAt (k * 5+1) (by omega)
      have q2:=ho.cellAt (k * 5+2) (by omega)
      have q3:=ho.cellAt (k * 5+3) (by omega)
      have q4:=ho.cellAt (k * 5+4) (by omega)
      have f0:=ho.frozenAt (k * 5)
      have f1:=ho.frozenAt (k * 5+1)
      have f2:=ho.frozenAt (k * 5+2)
      have f3:=ho.frozenAt (k * 5+3)
      have f4:=ho.frozenAt (k * 5+4)
      rw [<- Nat.add_zero (k * 5),Hat.out 0 (by omega)] at q0
      rw [Nat.add_zero] at q0
      rw [Hat.out 1 (by omega)] at q1
      rw [Hat.out 2 (by omega)] at q2
      rw [Hat.out 3 (by omega)] at q3
      rw [Hat.out 4 (by omega)] at q4
      simp only [List.getElem?_cons_zero,List.getElem?_cons_succ] at q0 q1 q2 q3 q4
      have Hend:Hid (plA l s k=k->∀ wz:World,wz.ownsRow w.heap.size 131 5 (.slice (some ⟨g',0,none⟩) (l.length+1) c') (l.length+1) (midC Z k (acC (newAc s,.slice none 0 0))).flatten->Lvs w.heap.size wz g' Z->OwnA w.heap.size wz (.slice (some ⟨g',0,none⟩) (l.length+1) c') (withA l s)):=hide (fun hp wz hz hlz=>by
        rw [Hw.out,Hpl.out,hp]
        rw [midC_put] at hz
        have hm:(Z.take k ++ (newAc s,Value.slice none 0 0) :: Z.drop k).map (·.1)=l.take k ++ newAc s :: l.drop k:=by rw [List.map_append,List.map_cons,List.map_take,List.map_drop,HZ.out]
        have hlen:(l.take k ++ newAc s :: l.drop k).length=l.length+1:=by simp;omega
        exact ⟨g',c',_,hm,by rw [hlen],by rw [hlen];exact hz,hlz.mid _ rfl k⟩)
      have Ho:=hide ho
      clear ho hlv hpl
      by_cases hk0:0 < k
      · have hj:k - 1 < l.length:=by omega
        have hpos:(0:Int) < (k:Int):=by omega
        have hix:((k:Int) - 1).toNat=k - 1:=by omega
        have hix1:(0:Int)<=(k:Int) - 1:=by omega
        have hix2:(k:Int) - 1 < ((l.length+1:Nat):Int):=by omega
        have hZk:(Z[k - 1]'(by omega)).1=l[k - 1]:=by have:=HZ.out;subst this;simp
        have Hpv:Hid (∀ j,j < 5->(midC Z k [x0,x1,x2,x3,x4]).flatten[(k - 1) * 5+j]?=(acC (Z[k - 1]'(by omega)))[j]?):=hide (fun j hj=>by
          rw [flat_get 5 _ (k - 1) j (by rw [midC_len Z k _ (by omega)];omega) (midC_sz Z k _ rfl) hj]
          obtain ⟨m,rfl⟩:∃ m,k=m+1:=⟨k - 1,by omega⟩
          simp only [Nat.add_sub_cancel]
          rw [midC_prev Z m _ (by omega)])
        have c0:=Ho.out.cellAt ((k - 1) * 5) (by omega)
        have c1:=Ho.out.cellAt ((k - 1) * 5+1) (by omega)
        have c2:=Ho.out.cellAt ((k - 1) * 5+2) (by omega)
        have c3:=Ho.out.cellAt ((k - 1) * 5+3) (by omega)
        have c4:=Ho.out.cellAt ((k - 1) * 5+4) (by omega)
        rw [<- Nat.add_zero ((k - 1) * 5),Hpv.out 0 (by omega)] at c0
        rw [Nat.add_zero] at c0
        rw [Hpv.out 1 (by omega)] at c1
        rw [Hpv.out 2 (by omega)] at c2
        rw [Hpv.out 3 (by omega)] at c3
        rw [Hpv.out 4 (by omega)] at c4
        have Hdn:Hid (∀ wz:World,wz.ownsRow w.heap.size 131 5 (.slice (some ⟨g',0,none⟩) (l.length+1) c') (l.length+1) (midC Z k (acC (Z[k - 1]'(by omega)))).flatten->wz.ownsRow w.heap.size 131 5 (.slice (some ⟨g',0,none⟩) (l.length+1) c') (l.length+1) (midC Z (k - 1) (acC (Z[k - 1]'(by omega)))).flatten):=hide (fun wz h=>by
          obtain ⟨m,rfl⟩:∃ m,k=m+1:=⟨k - 1,by omega⟩
          simp only [Nat.add_sub_cancel] at h ⊢
          rw [<- midC_down Z m (by omega)];exact h)
        have Hnx:Hid (Lt s l[k - 1].1->plA l s k=plA l s (k - 1)):=hide (plA_next hj hk0)
        have Hst:Hid (¬ Lt s l[k - 1].1->plA l s k=k):=hide (fun h=>plA_here hk (.inr ⟨hj,h⟩))
        have hshape:∃ a' n' c'',(Z[k - 1]'(by omega)).2=.slice a' n' c'':=by
          obtain ⟨a',c'',e⟩:=(Hlv.out.own (k - 1) (by omega)).rd.shape
          exact ⟨a',_,c'',e⟩
        have hcs:acC (Z[k - 1]'(by omega))=[.string l[k - 1].1,.int .i64 l[k - 1].2.1,.int .i64 l[k - 1].2.2.1,.int .i64 l[k - 1].2.2.2.1,(Z[k - 1]'(by omega)).2]:=by unfold acC;rw [hZk]
        rw [hcs] at c0 c1 c2 c3 c4 Hdn
        simp only [List.getElem?_cons_zero,List.getElem?_cons_succ] at c0 c1 c2 c3 c4
        clear hcs hZk Hpv
        generalize (Z[k - 1]'(by omega)).2=lw at c4 hshape Hdn
        generalize l[k - 1]=ak at c0 c1 c2 c3 Hdn Hnx Hst
        obtain ⟨nm,fr,no,st,ls⟩:=ak
        obtain ⟨a',n',c'',rfl⟩:=hshape
        simp only at c0 c1 c2 c3 Hdn Hnx Hst
        by_cases hlt:Lt s nm
        · have Hp2:=hide (Hnx.out hlt)
          have b1:Op.bytesLess nm.toList s.toList=false:=lt_false (lt_as hlt)
          have b2:(nm.toList == s.toList)=false:=bytes_ne (fun e=>by rw [e] at hlt;exact lt_no _ hlt)
          clear hlt Hnx Hst Hend
          go_wp2
          go_roundw
          case rel =>
            refine ⟨k - 1,.string nm,.int .i64 fr,.int .i64 no,.int .i64 st,.slice a' n' c'',by omega,by go_num,Hpl.out.trans Hp2.out,?_,((((Hlv.out.set _ _).set _ _).set _ _).set _ _).set _ _,?_⟩
            · have s1:=(Ho.out.stored (k * 5) (.string nm)).1
              have s2:=(s1.stored (k * 5+1) (.int .i64 fr)).1
              have s3:=(s2.stored (k * 5+2) (.int .i64 no)).1
              have s4:=(s3.stored (k * 5+3) (.int .i64 st)).1
              have s5:=(s4.stored (k * 5+4) (.slice a' n' c'')).1
              rw [Hset.out] at s5
              exact Hdn.out _ s5
            · exact ((((hb.setCell (p:=⟨g',k * 5,none⟩) hgw _).setCell (p:=⟨g',k * 5+1,none⟩) hgw _).setCell (p:=⟨g',k * 5+2,none⟩) hgw _).setCell (p:=⟨g',k * 5+3,none⟩) hgw _).setCell (p:=⟨g',k * 5+4,none⟩) hgw _
          case measure=>simp [intOf];omega
        · have Hp2:=hide (Hst.out hlt)
          by_cases he:nm=s
          · subst he
            have b1:Op.bytesLess nm.toList nm.toList=false:=lt_false (lt_no _)
            clear hlt Hnx Hst Hdn
            go_wp2
            go_ret
            have s1:=(Ho.out.stored (k * 5) (.string nm)).1
            have s2:=(s1.stored (k * 5+1) (.int .i64 0)).1
            have s3:=(s2.stored (k * 5+2) (.int .i64 0)).1
            have s4:=(s3.stored (k * 5+3) (.int .i64 0)).1
            have s5:=(s4.stored (k * 5+4) (.slice none 0 0)).1
            rw [Hset.out] at s5
            exact ⟨_,rfl,Hend.out Hp2.out _ s5 (((((Hlv.out.set _ _).set _ _).set _ _).set _ _).set _ _),((((hb.setCell (p:=⟨g',k * 5,none⟩) hgw _).setCell (p:=⟨g',k * 5+1,none⟩) hgw _).setCell (p:=⟨g',k * 5+2,none⟩) hgw _).setCell (p:=⟨g',k * 5+3,none⟩) hgw _).setCell (p:=⟨g',k * 5+4,none⟩) hgw _⟩
          · have b1:Op.bytesLess nm.toList s.toList=true:=lt_or hlt (fun e=>he e.symm)
            clear hlt he Hnx Hst Hdn
            go_wp2
            go_ret
            have s1:=(Ho.out.stored (k * 5) (.string s)).1
            have s2:=(s1.stored (k * 5+1) (.int .i64 0)).1
            have s3:=(s2.stored (k * 5+2) (.int .i64 0)).1
            have s4:=(s3.stored (k * 5+3) (.int .i64 0)).1
            have s5:=(s4.stored (k * 5+4) (.slice none 0 0)).1
            rw [Hset.out] at s5
            exact ⟨_,rfl,Hend.out Hp2.out _ s5 (((((Hlv.out.set _ _).set _ _).set _ _).set _ _).set _ _),((((hb.setCell (p:=⟨g',k * 5,none⟩) hgw _).setCell (p:=⟨g',k * 5+1,none⟩) hgw _).setCell (p:=⟨g',k * 5+2,none⟩) hgw _).setCell (p:=⟨g',k * 5+3,none⟩) hgw _).setCell (p:=⟨g',k * 5+4,none⟩) hgw _⟩
      · have hneg:¬ (0:Int) < (k:Int):=by omega
        have Hp2:Hid (plA l s k=k):=hide (plA_here hk (.inl (by omega)))
        go_wp2
        go_ret
        have s1:=(Ho.out.stored (k * 5) (.string s)).1
        have s2:=(s1.stored (k * 5+1) (.int .i64 0)).1
        have s3:=(s2.stored (k * 5+2) (.int .i64 0)).1
        have s4:=(s3.stored (k * 5+3) (.int .i64 0)).1
        have s5:=(s4.stored (k * 5+4) (.slice none 0 0)).1
        rw [Hset.out] at s5
        exact ⟨_,rfl,Hend.out Hp2.out _ s5 (((((Hlv.out.set _ _).set _ _).set _ _).set _ _).set _ _),((((hb.setCell (p:=⟨g',k * 5,none⟩) hgw _).setCell (p:=⟨g',k * 5+1,none⟩) hgw _).setCell (p:=⟨g',k * 5+2,none⟩) hgw _).setCell (p:=⟨g',k * 5+3,none⟩) hgw _).setCell (p:=⟨g',k * 5+4,none⟩) hgw _⟩
theorem crA_no {l:List Ac} {s:ByteArray} {n:Int} (h:(acsB l && nmB s && inB n 0 1000000)=false):crA l s n=(l,false):=by unfold crA;rw [h];rfl
theorem crA_bad {l:List Ac} {s:ByteArray} {n:Int} (h:(acsB l && nmB s && inB n 0 1000000)=true) (h':acsB (insA (aftA l s n) l)=false):crA l s n=(l,false):=by unfold crA;rw [h,h'];rfl
theorem crA_yes {l:List Ac} {s:ByteArray} {n:Int} (h:(acsB l && nmB s && inB n 0 1000000)=true) (h':acsB (insA (aftA l s n) l)=true):crA l s n=(insA (aftA l s n) l,true):=by unfold crA;rw [h,h'];rfl
theorem set_tl (Z:List (Ac × Value)) (k:Nat) (q:Ac × Value) (hk:k < Z.length) (h:tlZ q=tlZ Z[k]):(Z.set k q).map tlZ=Z.map tlZ:=by
  apply List.ext_getElem (by simp)
  intro i h1 h2
  simp only [List.getElem_map,List.getElem_set]
  by_cases e:k=i
  · subst e;simp [h]
  · simp [e]
theorem OwnA.mono {base base':Nat} {w:World} {v:Value} {l:List Ac} (h:OwnA base w v l) (hB:base'<=base):OwnA base' w v l:=by
  obtain ⟨g,cap,Z,h1,h2,h3,h4⟩:=h
  refine ⟨g,cap,Z,h1,h2,⟨h3.1,?_⟩,h4.mono hB⟩
  rcases h3.2 with h' | ⟨g',cap',cur,hv,hbb,r⟩
  · exact .inl h'
  · exact .inr ⟨g',cap',cur,hv,by omega,r⟩
theorem fst_at {Z:List (Ac × Value)} {L:List Ac} {k:Nat} (hZ:Z.map (·.1)=L) (hk:k < L.length):(Z[k]'(by rw [<- hZ] at hk;simpa using hk)).1=L[k]:=by subst hZ;simp
theorem up_row {base:Nat} {w:World} {g cap:Nat} {Z:List (Ac × Value)} {L:List Ac} {s:ByteArray} {n:Int} {k:Nat} (hZ:Z.map (·.1)=L) (hk:k < L.length) (he:L[k].1=s) (hn:∀ j (hj:j < k),(L[j]'(by omega)).1 ≠ s)
    (hrow:w.ownsRow base 131 5 (.slice (some ⟨g,0,none⟩) L.length cap) L.length (Z.map acC).flatten) (hlv:Lvs base w g Z) :
    OwnA base (w.setCell ⟨g,k * 5+1,none⟩ (.int .i64 (wrap64 (L[k].2.1+n)))) (.slice (some ⟨g,0,none⟩) L.length cap) (upA s n L):=by
  have hZl:Z.length=L.length:=by rw [<- hZ];simp
  have hZk:(Z[k]'(by omega)).1=L[k]:=by subst hZ;simp
  have hst:=(hrow.stored (k * 5+1) (.int .i64 (wrap64 (L[k].2.1+n)))).1
  have e:(Z.map acC).flatten.set (k * 5+1) (.int .i64 (wrap64 (L[k].2.1+n)))=((Z.set k ((L[k].1,wrap64 (L[k].2.1+n),L[k].2.2),(Z[k]'(by omega)).2)).map acC).flatten:=by
    rw [flat_set 5 _ (Z.map acC) k 1 (by simp;omega) (acM_sz Z) (by omega),List.map_set]
    congr 2
    simp [acC,hZk]
  rw [e] at hst
  have hup:=upA_set s n L k hk he hn
  have hm:(Z.set k ((L[k].1,wrap64 (L[k].2.1+n),L[k].2.2),(Z[k]'(by omega)).2)).map (·.1)=upA s n L:=by rw [hup,List.map_set,hZ]
  refine ⟨g,cap,_,hm,by rw [upA_len],by rw [upA_len];exact hst,((hlv.set _ _).same ?_)⟩
  exact set_tl Z k _ (by omega) (by unfold tlZ;simp [hZk])
structure Btw (lo hi:Nat) (w w':World):Prop where
  os:w'.os=w.os
  tape:w'.tape=w.tape
  output:w'.output=w.output
  size:w.heap.size<=w'.heap.size
  block:∀ k,k < w.heap.size->(k < lo\/hi<=k)->w'.heap[k]?=w.heap[k]?
theorem Btw.of_grown {lo hi:Nat} {w w':World} {row:Option Nat} (h:w.grownBy w' row) (hr:∀ k,row=some k->lo<=k/\k < hi):Btw lo hi w w' :=
  ⟨h.os,h.tape,h.output,h.size,fun k hk ho=>h.block k hk (fun e=>by have:=hr k e.symm;omega)⟩
theorem row_btw {lo hi base:Nat} {w w':World} {e:TypeId} {size:Nat} {v:Value} {n:Nat} {xs:List Value} (h:w.ownsRow base e size v n xs) (hb:Btw lo hi w w') (hn:∀ k,v.ownBlock=some k->k < lo\/hi<=k):w'.ownsRow base e size v n xs:=by
  refine ⟨h.1,?_⟩
  rcases h.2 with h' | ⟨g,cap,cur,hv,hbb,hg,r⟩
  · exact .inl h'
  · refine .inr ⟨g,cap,cur,hv,hbb,?_,r⟩
    have hlt:g < w.heap.size:=(Array.getElem?_eq_some_iff.1 hg).1
    rw [hb.block g hlt (hn g (by rw [hv];rfl))]
    exact hg
def OwnX (base hi:Nat) (w:World) (v:Value) (l:List Ac):Prop :=
  ∃ (g cap:Nat) (Z:List (Ac × Value)),Z.map (·.1)=l/\v=.slice (some ⟨g,0,none⟩) l.length cap/\w.ownsRow base 131 5 v l.length (Z.map acC).flatten/\Lvs base w g Z/\g < hi/\∀ q ∈ Z,∀ k,q.2.ownBlock=some k->k < hi
theorem OwnA.ox {base:Nat} {w:World} {v:Value} {l:List Ac} (h:OwnA base w v l):OwnX base w.heap.size w v l:=by
  obtain ⟨g,cap,Z,h1,rfl,h3,h4⟩:=h
  exact ⟨g,cap,Z,h1,rfl,h3,h4,(World.ownsRow.lt h3 g rfl).2,fun q hq k hk=>by
    obtain ⟨i,hi,rfl⟩:=List.mem_iff_getElem.1 hq
    exact (h4.own i hi).lt k hk⟩
theorem OwnX.own {base hi:Nat} {w:World} {v:Value} {l:List Ac} (h:OwnX base hi w v l):OwnA base w v l:=by
  obtain ⟨g,cap,Z,h1,h2,h3,h4,_⟩:=h
  exact ⟨g,cap,Z,h1,h2,h3,h4⟩
theorem OwnX.rd {base hi:Nat} {w:World} {v:Value} {l:List Ac} (h:OwnX base hi w v l):RdA w v l:=h.own.rd
theorem OwnX.below {B base hi:Nat} {w w':World} {v:Value} {l:List Ac} (h:OwnX base hi w v l) (hb:Below B w w') (hB:w.heap.size<=B):OwnX base hi w' v l:=by
  obtain ⟨g,cap,Z,h1,h2,h3,h4,h5,h6⟩:=h
  exact ⟨g,cap,Z,h1,h2,row_below h3 hb hB,h4.below hb hB,h5,h6⟩
theorem OwnX.btw {lo hi' base hi:Nat} {w w':World} {v:Value} {l:List Ac} (h:OwnX base hi w v l) (hb:Btw lo hi' w w') (hd:hi<=lo\/hi'<=base):OwnX base hi w' v l:=by
  obtain ⟨g,cap,Z,h1,rfl,h3,h4,h5,h6⟩:=h
  have hg:=(World.ownsRow.lt h3 g rfl).1
  refine ⟨g,cap,Z,h1,rfl,row_btw h3 hb (fun k hk=>by have:g=k:=(by simpa [Value.ownBlock] using hk);subst this;omega),⟨fun i hi=>row_btw (h4.own i hi) hb (fun k hk=>?_),h4.far,h4.apart⟩,h5,h6⟩
  have:=(h4.own i hi).ge k hk
  have:=h6 _ (List.getElem_mem hi) k hk
  omega
def mkL (k n:Nat):List (Int × Int):=(List.range n).map (fun i=>(((k+2 * i:Nat):Int),((k+2 * i+1:Nat):Int)))
def mkA (k:Nat) (a:Ac):Ac:=(mtx k,((k+1:Nat):Int),((k+2:Nat):Int),((k+3:Nat):Int),mkL (k+4) a.2.2.2.2.length)
def nx (k:Nat) (a:Ac):Nat:=k+4+2 * a.2.2.2.2.length
def mkAs:Nat->List Ac->List Ac
  | _,[]=>[]
  | k,a :: t=>mkA k a :: mkAs (nx k a) t
def nxs:Nat->List Ac->Nat
  | k,[]=>k
  | k,a :: t=>nxs (nx k a) t
def mkZ:Nat->List (Ac × Value)->List (Ac × Value)
  | _,[]=>[]
  | k,q :: t=>(mkA k q.1,q.2) :: mkZ (nx k q.1) t
def mkP (k:Nat) (Z:List (Ac × Value)) (j:Nat):List (Ac × Value):=mkZ k (Z.take j) ++ Z.drop j
end Go.Proofs.YteefibiikampbaaGreatDoor
