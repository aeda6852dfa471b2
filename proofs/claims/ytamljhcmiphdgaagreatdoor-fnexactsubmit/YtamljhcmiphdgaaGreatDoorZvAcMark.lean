/- The laws' marks on accounts. -/
import Derived.Test.YtamljhcmiphdgaaGreatDoorZvAcPut
set_option maxRecDepth 20000
set_option maxHeartbeats 1000000
namespace Go.Proofs.YtamljhcmiphdgaaGreatDoor
open Go.RowKit
set_option linter.unusedVariables false
theorem ej_ (a:Ac) (lv:Value) (w:World) (hr:RdL w lv a.2.2.2.2) (hl:a.2.2.2.2.length<=4000000) :
  Calls Tryz.prog 171 #[acV a lv] w fun e w'=>∃ lv',e=.returned (acV a lv')/\OwnL w.heap.size w' lv' a.2.2.2.2/\Below w.heap.size w w':=by
 obtain ⟨nm,fr,no,st,ls⟩:=a
 obtain ⟨av,cv,rfl⟩:=hr.shape
 simp only [acV] at *
 obtain ⟨w1,hw1⟩:∃ w1,w.alloc (.cells #[.string nm,.int .i64 fr,.int .i64 no,.int .i64 st,.slice av ls.length cv] 186)=w1:=⟨_,rfl⟩
 have hs1:w1.heap.size=w.heap.size+1:=by rw [<- hw1];simp
 have hb1:Below w.heap.size w w1:=by rw [<- hw1];exact (br_ _ w).alloc (nr_ _) _
 have k1:Blk w1 w.heap.size 186 [.string nm,.int .i64 fr,.int .i64 no,.int .i64 st,.slice av ls.length cv]:=by rw [<- hw1];exact Blk.new w _ _
 obtain ⟨w2,hw2⟩:∃ w2,w1.alloc (.cells #[.string { data:=#[] },.int .i64 0,.int .i64 0,.int .i64 0,.slice none 0 0] 186)=w2:=⟨_,rfl⟩
 have hs2:w2.heap.size=w.heap.size+2:=by rw [<- hw2];simp;omega
 have hb2:Below w1.heap.size w1 w2:=by rw [<- hw2];exact (br_ _ w1).alloc (nr_ _) _
 have k2:Blk w2 (w.heap.size+1) 186 acZ:=by rw [<- hw2,<- hs1];exact Blk.new w1 _ _
 have k1':=k1.below hb2 (by omega)
 obtain ⟨w3,hw3⟩:∃ w3,w2.alloc (.cells #[] 214)=w3:=⟨_,rfl⟩
 have hs3:w3.heap.size=w.heap.size+3:=by rw [<- hw3];simp;omega
 have hb3:Below w2.heap.size w2 w3:=by rw [<- hw3];exact (br_ _ w2).alloc (nr_ _) _
 have HB3:Hid (Below w.heap.size w w3):=a_ ((hb1.trans (hb2.mono (by omega))).trans (hb3.mono (by omega)))
 have Hr3:Hid (RdL w3 (.slice av ls.length cv) ls):=a_ (hr.below HB3.out (nr_ _))
 have Ho3:Hid (OwnL (w.heap.size+2) w3 (.slice (some ⟨w.heap.size+2,0,none⟩) 0 0) []):=a_ (by rw [<- hw3,<- hs2];exact eQ_ w2 _ (nr_ _))
 have K1:=a_ (k1'.below hb3 (by omega))
 have K2:=a_ (k2.below hb3 (by omega))
 have c4:=K1.out.cell 4
 simp only [gz_,gs_] at c4
 clear hr k1 k1' k2 hb1 hb2 hb3
 go_enter Tryz.func171,Tryz.ntmps171
 go_wp2_with (at_builtin;refine gj_ _ rfl _ _ rfl (w.heap.size+2) _ _ [] ls rfl rfl Ho3.out Hr3.out (by simp;omega) (by omega) ?_;intro lv' w4 ho4 hb4;rw [List.nil_append] at ho4;obtain ⟨av',cv',rfl⟩:=ho4.rd.shape;have j1:=K1.out.below hb4 (by omega);have j2:=K2.out.below hb4 (by omega);have d0:=j1.cell 0;have d1:=j1.cell 1;have d2:=j1.cell 2;have d3:=j1.cell 3;have d4:=j1.cell 4;have f4:=j1.frozen 4;have e0:=j2.cell 0;have e1:=j2.cell 1;have e2:=j2.cell 2;have e3:=j2.cell 3;have e4:=j2.cell 4;have g0:=j2.frozen 0;have g1:=j2.frozen 1;have g2:=j2.frozen 2;have g3:=j2.frozen 3;have g4:=j2.frozen 4;simp only [acZ,gz_,gs_] at d0 d1 d2 d3 d4 e0 e1 e2 e3 e4;have hl4:=hb4.size)
 refine bodyPost_ret (v:=.agg #[.string nm,.int .i64 fr,.int .i64 no,.int .i64 st,.slice av' ls.length cv']) (by simp [results,Tryz.f171,go_sem,e0,e1,e2,e3,e4]) rfl ?_
 have n1:∀ k,(Value.slice av' ls.length cv').ownBlock=some k->k ≠ w.heap.size:=fun k hk=>by have:=ho4.ge k hk;omega
 have n2:∀ k,(Value.slice av' ls.length cv').ownBlock=some k->k ≠ w.heap.size+1:=fun k hk=>by have:=ho4.ge k hk;omega
 have HB4:=HB3.out.trans (hb4.mono (by omega))
 refine ⟨_,rfl,p_ (p_ (p_ (p_ (p_ (p_ (ho4.mono (by omega)) _ _ _ n1) _ _ _ n2) _ _ _ n2) _ _ _ n2) _ _ _ n2) _ _ _ n2,?_⟩
 exact (((((HB4.setCell (p:=⟨w.heap.size,4,none⟩) (by show w.heap.size<=w.heap.size;omega) _).setCell (p:=⟨w.heap.size+1,0,none⟩) (by show w.heap.size<=w.heap.size+1;omega) _).setCell (p:=⟨w.heap.size+1,1,none⟩) (by show w.heap.size<=w.heap.size+1;omega) _).setCell (p:=⟨w.heap.size+1,2,none⟩) (by show w.heap.size<=w.heap.size+1;omega) _).setCell (p:=⟨w.heap.size+1,3,none⟩) (by show w.heap.size<=w.heap.size+1;omega) _).setCell (p:=⟨w.heap.size+1,4,none⟩) (by show w.heap.size<=w.heap.size+1;omega) _
theorem dh_ (v:Value) (l:List Ac) (w:World) (hr:RdA w v l) (hl:l.length<=4000000) (hall:∀ a ∈ l,a.2.2.2.2.length<=4000000) :
  Calls Tryz.prog 141 #[v] w fun e w'=>∃ v',e=.returned v'/\OwnA w.heap.size w' v' l/\Below w.heap.size w w':=by
 obtain ⟨i0,hi,hz0,hz1,hz2⟩:=info_parts Tryz.infoAc
 rcases hr with ⟨a,cap,rfl,rfl,-⟩ | ⟨b,off,cap,h0,rfl,h1,h2,h3,h4⟩
 ·go_enter Tryz.func141,Tryz.ntmps141
  go_wp2_with (refine wpList_make_own _ rfl _ _ 43 rfl w.heap.size 186 i0 (.agg #[.string { data:=#[] },.int .i64 0,.int .i64 0,.int .i64 0,.slice none 0 0]) 5 Tryz.underlying43 hi hz0 hz1 .i64 .i64 _ 0 rfl rfl rfl (by omega) (by unfold maxLen;omega) (nr_ _) ?_;intro w1 hown hgrow)
  have hb1:Below w.heap.size w w1:=(br_ _ _).grown hgrow (nr_ _) (by intro k hk;cases hk)
  refine wp_loop_rounds 1 ?_
  rw [rounds_succ]
  go_wp2
  go_ret
  exact ⟨_,rfl,OwnA.of_row (Z:=[]) hown (Lvs.nil _ _ _),hb1⟩
 ·have H4:=a_ h4
  have Hall:=a_ hall
  clear h4 hall
  go_enter Tryz.func141,Tryz.ntmps141
  go_wp2_with (refine wpList_make_own _ rfl _ _ 43 rfl w.heap.size 186 i0 (.agg #[.string { data:=#[] },.int .i64 0,.int .i64 0,.int .i64 0,.slice none 0 0]) 5 Tryz.underlying43 hi hz0 hz1 .i64 .i64 _ l.length rfl rfl rfl (by rw [hz2];omega) (by unfold maxLen;omega) (nr_ _) ?_;intro w1 hown hgrow)
  have hb1:Below w.heap.size w w1:=(br_ _ _).grown hgrow (nr_ _) (by intro k hk;cases hk)
  go_loopw [3,11] (fun ov iv wr=>∃ (k g c:Nat) (Z:List (Ac × Value)),k<=l.length/\iv=.int .i64 k/\ov=.slice (some ⟨g,0,none⟩) k c/\Z.map (·.1)=l.take k/\RowA w.heap.size wr ov Z/\Lvs w.heap.size wr g Z/\Below w.heap.size w wr) (fun _ iv _=>l.length - (intOf iv).toNat)
  case atStart=>exact ⟨0,_,_,[],Nat.zero_le _,rfl,rfl,rfl,hown,Lvs.nil _ _ _,hb1⟩
  case round =>
   obtain ⟨k,g,c,Z,hk,rfl,rfl,hZ,ho,hlv,hb⟩:=hrel
   clear hown hgrow hb1
   have hZl:Z.length=k:=by have:=congrArg List.length hZ;simp at this;omega
   by_cases hlt:k < l.length
   ·obtain ⟨lv,hat,hrl⟩:=H4.out k hlt
    obtain ⟨c0,c1,c2,c3,c4⟩:=hat.below hb h3
    have hli:(k:Int) < (l.length:Int):=by omega
    have hbb:b < wr.heap.size:=Nat.lt_of_lt_of_le h3 hb.size
    have hgl:g < wr.heap.size:=ho.lt g rfl
    have hshape:=hrl.shape
    have Hrl:=a_ (hrl.below hb (nr_ _))
    have hls:=Hall.out l[k] (List.getElem_mem _)
    have HZ2:Hid (∀ lv':Value,(Z ++ [(l[k],lv')]).map (·.1)=l.take (k+1)):=a_ (fun lv'=>by rw [List.map_append,hZ,List.take_succ_eq_append_getElem hlt];rfl)
    have Ho:=a_ ho
    have Hlv:=a_ hlv
    clear hat hrl ho hlv hZ
    generalize l[k]=ak at c0 c1 c2 c3 hshape Hrl hls HZ2
    obtain ⟨nm,fr,no,st,ls⟩:=ak
    obtain ⟨av,cv,rfl⟩:=hshape
    simp only at c0 c1 c2 c3 Hrl hls
    obtain ⟨w1,hw1⟩:∃ w1,wr.alloc (.cells #[.string nm,.int .i64 fr,.int .i64 no,.int .i64 st,.slice av ls.length cv] 186)=w1:=⟨_,rfl⟩
    have hA:Below wr.heap.size wr w1:=by rw [<- hw1];exact (br_ _ wr).alloc (nr_ _) _
    have hk1:Blk w1 wr.heap.size 186 [.string nm,.int .i64 fr,.int .i64 no,.int .i64 st,.slice av ls.length cv]:=by rw [<- hw1];exact Blk.new wr _ _
    have HC:=a_ (ej_ (nm,fr,no,st,ls) (.slice av ls.length cv) w1 (Hrl.out.below hA (nr_ _)) hls)
    simp only [acV] at HC
    have hlt1:=hk1.lt
    have e0:=hk1.cell 0
    have e1:=hk1.cell 1
    have e2:=hk1.cell 2
    have e3:=hk1.cell 3
    have e4:=hk1.cell 4
    simp only [gz_,gs_] at e0 e1 e2 e3 e4
    go_wp2_with (first
     | (go_at_call 171;refine HC.out.mono ?_;rintro e w2 ⟨lv',rfl,ho2,hb2⟩;obtain ⟨av',cv',rfl⟩:=ho2.rd.shape;have hB2:=hA.trans (hb2.mono hA.size))
     | (at_builtin;refine fI_ _ rfl _ _ rfl w.heap.size _ _ Z ((nm,fr,no,st,ls),.slice av' ls.length cv') rfl rfl (World.ownsRow.alloc (Ho.out.below hB2 (nr_ _)) _) (Blk.new' _ _ (acC ((nm,fr,no,st,ls),.slice av' ls.length cv')) _ rfl) rfl (by omega) (by have:=hb.size;have:=hB2.size;simp;omega) ?_;intro v' w4 hrow hgr hnn hloc))
    have hB:Below w.heap.size w (w2.alloc (.cells #[.string nm,.int .i64 fr,.int .i64 no,.int .i64 st,.slice av' ls.length cv'] 186)):=(hb.trans (hB2.mono hb.size)).alloc (by have:=hb.size;have:=hB2.size;omega) _
    obtain ⟨g',c',rfl,hlv'⟩:=eu_ (Hlv.out.below hB2 (nr_ _)) (ho2.mono (by have:=hb.size;have:=hA.size;omega)) (fun j hj=>by have:=ho2.ge j hj;have:=hA.size;omega)
     (fun i hi j hj e=>by have:=(Hlv.out.own i hi).lt j hj;have:=ho2.ge j e;have:=hA.size;omega) ((br_ _ w2).alloc (nr_ _) _) hgr hrow hnn hloc
    go_roundw
    case rel =>
     refine ⟨k+1,g',c',_,by omega,by go_num,by simp [hZl],HZ2.out _,hrow,hlv',hB.grown hgr (by have:=hb.size;have:=hB2.size;simp;omega) (fun j hj=>by cases hj;exact Ho.out.ge g rfl)⟩
    case measure=>simp [intOf];omega
   ·have e:k=l.length:=by omega
    subst e
    rw [List.take_length] at hZ
    go_wp2
    go_ret
    have:=OwnA.of_row (cap:=c) (g:=g) (Z:=Z) (by rw [hZl];exact ho) hlv
    rw [hZ,hZl] at this
    exact ⟨_,rfl,this,hb⟩
theorem gg_ (v:Value) (l:List Ac) (w:World) (hr:RdA w v l) (hl:l.length<=4000000) (hall:∀ a ∈ l,a.2.2.2.2.length<=4000000) :
  Calls Tryz.prog 122 #[v] w fun e w'=>∃ v',e=.returned v'/\OwnA w.heap.size w' v' l/\Below w.heap.size w w':=by
 rcases hr with ⟨a,cap,rfl,rfl,-⟩ | ⟨b,off,cap,h0,rfl,h1,h2,h3,h4⟩
 ·go_enter Tryz.func122,Tryz.ntmps122
  have hown:=fu_ w w.heap.size (nr_ _)
  have hb1:Below w.heap.size w (w.alloc (.cells #[] 186)):=(br_ _ _).alloc (nr_ _) _
  go_wp2
  refine wp_loop_rounds 1 ?_
  rw [rounds_succ]
  go_wp2
  go_ret
  exact ⟨_,rfl,OwnA.of_row (Z:=[]) hown (Lvs.nil _ _ _),hb1⟩
 ·have H4:=a_ h4
  have Hall:=a_ hall
  clear h4 hall
  go_enter Tryz.func122,Tryz.ntmps122
  have hown:=a_ (fu_ w w.heap.size (nr_ _))
  have hb1:Hid (Below w.heap.size w (w.alloc (.cells #[] 186))):=a_ ((br_ _ _).alloc (nr_ _) _)
  go_wp2
  go_loopw [3,4] (fun ov iv wr=>∃ (k g c:Nat) (Z:List (Ac × Value)),k<=l.length/\iv=.int .i64 k/\ov=.slice (some ⟨g,0,none⟩) k c/\Z.map (·.1)=l.take k/\RowA w.heap.size wr ov Z/\Lvs w.heap.size wr g Z/\Below w.heap.size w wr) (fun _ iv _=>l.length - (intOf iv).toNat)
  case atStart=>exact ⟨0,_,_,[],Nat.zero_le _,rfl,rfl,rfl,hown.out,Lvs.nil _ _ _,hb1.out⟩
  case round =>
   obtain ⟨k,g,c,Z,hk,rfl,rfl,hZ,ho,hlv,hb⟩:=hrel
   clear hown hb1
   have hZl:Z.length=k:=by have:=congrArg List.length hZ;simp at this;omega
   by_cases hlt:k < l.length
   ·obtain ⟨lv,hat,hrl⟩:=H4.out k hlt
    obtain ⟨c0,c1,c2,c3,c4⟩:=hat.below hb h3
    have hli:(k:Int) < (l.length:Int):=by omega
    have hbb:b < wr.heap.size:=Nat.lt_of_lt_of_le h3 hb.size
    have hgl:g < wr.heap.size:=ho.lt g rfl
    have hshape:=hrl.shape
    have Hrl:=a_ (hrl.below hb (nr_ _))
    have hls:=Hall.out l[k] (List.getElem_mem _)
    have HZ2:Hid (∀ lv':Value,(Z ++ [(l[k],lv')]).map (·.1)=l.take (k+1)):=a_ (fun lv'=>by rw [List.map_append,hZ,List.take_succ_eq_append_getElem hlt];rfl)
    have Ho:=a_ ho
    have Hlv:=a_ hlv
    clear hat hrl ho hlv hZ
    generalize l[k]=ak at c0 c1 c2 c3 hshape Hrl hls HZ2
    obtain ⟨nm,fr,no,st,ls⟩:=ak
    obtain ⟨av,cv,rfl⟩:=hshape
    simp only at c0 c1 c2 c3 Hrl hls
    obtain ⟨w1,hw1⟩:∃ w1,wr.alloc (.cells #[.string nm,.int .i64 fr,.int .i64 no,.int .i64 st,.slice av ls.length cv] 186)=w1:=⟨_,rfl⟩
    have hA:Below wr.heap.size wr w1:=by rw [<- hw1];exact (br_ _ wr).alloc (nr_ _) _
    have hk1:Blk w1 wr.heap.size 186 [.string nm,.int .i64 fr,.int .i64 no,.int .i64 st,.slice av ls.length cv]:=by rw [<- hw1];exact Blk.new wr _ _
    have hs1:w1.heap.size=wr.heap.size+1:=by rw [<- hw1];simp
    obtain ⟨w2,hw2⟩:∃ w2,w1.alloc (.cells #[] 214)=w2:=⟨_,rfl⟩
    have hA2:Below w1.heap.size w1 w2:=by rw [<- hw2];exact (br_ _ w1).alloc (nr_ _) _
    have hs2:w2.heap.size=wr.heap.size+2:=by rw [<- hw2];simp;omega
    have Ho3:Hid (OwnL (wr.heap.size+1) w2 (.slice (some ⟨wr.heap.size+1,0,none⟩) 0 0) []):=a_ (by rw [<- hw2,<- hs1];exact eQ_ w1 _ (nr_ _))
    have Hr3:Hid (RdL w2 (.slice av ls.length cv) ls):=a_ ((Hrl.out.below hA (nr_ _)).below hA2 (nr_ _))
    have HK:=a_ (hk1.below hA2 (by omega))
    have HA2:Hid (Below wr.heap.size wr w2):=a_ (hA.trans (hA2.mono hA.size))
    have e4:=HK.out.cell 4
    simp only [gz_,gs_] at e4
    clear hk1 hA hA2
    go_wp2_with (first
     | (at_builtin;refine gj_ _ rfl _ _ rfl (wr.heap.size+1) _ _ [] ls rfl rfl Ho3.out Hr3.out (by simp;omega) (by omega) ?_;intro lv' w3 ho4 hb4;rw [List.nil_append] at ho4;obtain ⟨av',cv',rfl⟩:=ho4.rd.shape;have j1:=HK.out.below hb4 (by omega);have d0:=j1.cell 0;have d1:=j1.cell 1;have d2:=j1.cell 2;have d3:=j1.cell 3;have d4:=j1.cell 4;have f4:=j1.frozen 4;simp only [gz_,gs_] at d0 d1 d2 d3 d4;have hl4:=hb4.size;have hB2:=(HA2.out.trans (hb4.mono (by omega))).setCell (p:=⟨wr.heap.size,4,none⟩) (nr_ _) (.slice av' ls.length cv');have ho2:=p_ ho4 wr.heap.size 4 (.slice av' ls.length cv') (fun k hk=>by have:=ho4.ge k hk;omega))
     | (at_builtin;refine fI_ _ rfl _ _ rfl w.heap.size _ _ Z ((nm,fr,no,st,ls),.slice av' ls.length cv') rfl rfl (World.ownsRow.alloc (Ho.out.below hB2 (nr_ _)) _) (Blk.new' _ _ (acC ((nm,fr,no,st,ls),.slice av' ls.length cv')) _ (by simp)) rfl (by omega) (by have:=hb.size;have:=hB2.size;simp at this ⊢;omega) ?_;intro v' w4 hrow hgr hnn hloc))
    have hB:Below w.heap.size w ((w3.setCell ⟨wr.heap.size,4,none⟩ (.slice av' ls.length cv')).alloc (.cells #[.string nm,.int .i64 fr,.int .i64 no,.int .i64 st,.slice av' ls.length cv'] 186)):=(hb.trans (hB2.mono hb.size)).alloc (by have:=hb.size;have:=hB2.size;omega) _
    have ho2:OwnL (wr.heap.size+1) (w3.setCell ⟨wr.heap.size,4,none⟩ (.slice av' ls.length cv')) (.slice av' ls.length cv') ls:=ho2
    obtain ⟨g',c',rfl,hlv'⟩:=eu_ (q:=((nm,fr,no,st,ls),.slice av' ls.length cv')) (Hlv.out.below hB2 (nr_ _)) (OwnL.mono ho2 (by have:=hb.size;omega)) (fun j hj=>by have:=OwnL.ge ho2 j hj;omega)
     (fun i hi j hj e=>by have:=(Hlv.out.own i hi).lt j hj;have:=OwnL.ge ho2 j e;omega) ((br_ _ _).alloc (nr_ _) _) hgr hrow hnn hloc
    go_roundw
    case rel =>
     refine ⟨k+1,g',c',_,by omega,by go_num,by simp [hZl],HZ2.out _,hrow,hlv',hB.grown hgr (by have:=hb.size;have:=hB2.size;simp;omega) (fun j hj=>by cases hj;exact Ho.out.ge g rfl)⟩
    case measure=>simp [intOf];omega
   ·have e:k=l.length:=by omega
    subst e
    rw [List.take_length] at hZ
    go_wp2
    go_ret
    have:=OwnA.of_row (cap:=c) (g:=g) (Z:=Z) (by rw [hZl];exact ho) hlv
    rw [hZ,hZl] at this
    exact ⟨_,rfl,this,hb⟩
def tlZ (q:Ac × Value):Value × List (Int × Int):=(q.2,q.1.2.2.2.2)
structure LvQ (base:Nat) (w:World) (g:Nat) (T:List (Value × List (Int × Int))):Prop where
 own:∀ t ∈ T,OwnL base w t.1 t.2
 far:∀ t ∈ T,∀ k,t.1.ownBlock=some k->k ≠ g
 apart:T.Pairwise (fun a b=>∀ k,a.1.ownBlock=some k->b.1.ownBlock ≠ some k)
def midC (Z:List (Ac × Value)) (k:Nat) (x:List Value):List (List Value):=(Z.take k).map acC ++ x :: (Z.drop k).map acC
theorem OwnA.mono {base base':Nat} {w:World} {v:Value} {l:List Ac} (h:OwnA base w v l) (hB:base'<=base):OwnA base' w v l:=by
 obtain ⟨g,cap,Z,h1,h2,h3,h4⟩:=h
 refine ⟨g,cap,Z,h1,h2,⟨h3.1,?_⟩,h4.mono hB⟩
 rcases h3.2 with h' | ⟨g',cap',cur,hv,hbb,r⟩
 ·exact .inl h'
 ·exact .inr ⟨g',cap',cur,hv,by omega,r⟩
theorem fst_at {Z:List (Ac × Value)} {L:List Ac} {k:Nat} (hZ:Z.map (·.1)=L) (hk:k < L.length):(Z[k]'(by rw [<- hZ] at hk;simpa using hk)).1=L[k]:=by subst hZ;simp
structure Btw (lo hi:Nat) (w w':World):Prop where
 os:w'.os=w.os
 tape:w'.tape=w.tape
 output:w'.output=w.output
 size:w.heap.size<=w'.heap.size
 block:∀ k,k < w.heap.size->(k < lo\/hi<=k)->w'.heap[k]?=w.heap[k]?
theorem Btw.refl (lo hi:Nat) (w:World):Btw lo hi w w:=⟨rfl,rfl,rfl,nr_ _,fun _ _ _=>rfl⟩
theorem Btw.trans {lo hi:Nat} {a b c:World} (h:Btw lo hi a b) (k:Btw lo hi b c):Btw lo hi a c :=
 ⟨k.os.trans h.os,k.tape.trans h.tape,k.output.trans h.output,Nat.le_trans h.size k.size,fun i hi' ho=>(k.block i (Nat.lt_of_lt_of_le hi' h.size) ho).trans (h.block i hi' ho)⟩
theorem Btw.of_below {lo hi:Nat} {w w':World} (h:Below w.heap.size w w'):Btw lo hi w w':=⟨h.os,h.tape,h.output,h.size,fun k hk _=>h.block k hk⟩
theorem Btw.of_grown {lo hi:Nat} {w w':World} {row:Option Nat} (h:w.grownBy w' row) (hr:∀ k,row=some k->lo<=k/\k < hi):Btw lo hi w w' :=
 ⟨h.os,h.tape,h.output,h.size,fun k hk ho=>h.block k hk (fun e=>by have:=hr k e.symm;omega)⟩
theorem gS_ {lo hi base:Nat} {w w':World} {e:TypeId} {size:Nat} {v:Value} {n:Nat} {xs:List Value} (h:w.ownsRow base e size v n xs) (hb:Btw lo hi w w') (hn:∀ k,v.ownBlock=some k->k < lo\/hi<=k):w'.ownsRow base e size v n xs:=by
 refine ⟨h.1,?_⟩
 rcases h.2 with h' | ⟨g,cap,cur,hv,hbb,hg,r⟩
 ·exact .inl h'
 ·refine .inr ⟨g,cap,cur,hv,hbb,?_,r⟩
  have hlt:g < w.heap.size:=(Array.getElem?_eq_some_iff.1 hg).1
  rw [hb.block g hlt (hn g (by rw [hv];rfl))]
  exact hg
def OwnX (base hi:Nat) (w:World) (v:Value) (l:List Ac):Prop :=
 ∃ (g cap:Nat) (Z:List (Ac × Value)),Z.map (·.1)=l/\v=.slice (some ⟨g,0,none⟩) l.length cap/\w.ownsRow base 186 5 v l.length (Z.map acC).flatten/\Lvs base w g Z/\g < hi/\∀ q ∈ Z,∀ k,q.2.ownBlock=some k->k < hi
theorem OwnA.ox {base:Nat} {w:World} {v:Value} {l:List Ac} (h:OwnA base w v l):OwnX base w.heap.size w v l:=by
 obtain ⟨g,cap,Z,h1,rfl,h3,h4⟩:=h
 exact ⟨g,cap,Z,h1,rfl,h3,h4,(World.ownsRow.lt h3 g rfl).2,fun q hq k hk=>by
  obtain ⟨i,hi,rfl⟩:=List.mem_iff_getElem.1 hq
  exact (h4.own i hi).lt k hk⟩
theorem OwnX.own {base hi:Nat} {w:World} {v:Value} {l:List Ac} (h:OwnX base hi w v l):OwnA base w v l:=by
 obtain ⟨g,cap,Z,h1,h2,h3,h4,_⟩:=h
 exact ⟨g,cap,Z,h1,h2,h3,h4⟩
theorem OwnX.rd {base hi:Nat} {w:World} {v:Value} {l:List Ac} (h:OwnX base hi w v l):RdA w v l:=h.own.rd
theorem OwnX.below {B base hi:Nat} {w w':World} {v:Value} {l:List Ac} (h:OwnX base hi w v l) (hb:Below B w w') (hB:w.heap.size<=B):OwnX base hi w' v l:=by
 obtain ⟨g,cap,Z,h1,h2,h3,h4,h5,h6⟩:=h
 exact ⟨g,cap,Z,h1,h2,j_ h3 hb hB,h4.below hb hB,h5,h6⟩
theorem OwnX.btw {lo hi' base hi:Nat} {w w':World} {v:Value} {l:List Ac} (h:OwnX base hi w v l) (hb:Btw lo hi' w w') (hd:hi<=lo\/hi'<=base):OwnX base hi w' v l:=by
 obtain ⟨g,cap,Z,h1,rfl,h3,h4,h5,h6⟩:=h
 have hg:=(World.ownsRow.lt h3 g rfl).1
 refine ⟨g,cap,Z,h1,rfl,gS_ h3 hb (fun k hk=>by have:g=k:=(by simpa [Value.ownBlock] using hk);subst this;omega),⟨fun i hi=>gS_ (h4.own i hi) hb (fun k hk=>?_),h4.far,h4.apart⟩,h5,h6⟩
 have:=(h4.own i hi).ge k hk
 have:=h6 _ (List.getElem_mem hi) k hk
 omega
def mkL (k n:Nat):List (Int × Int):=(List.range n).map (fun i=>(((k+2 * i:Nat):Int),((k+2 * i+1:Nat):Int)))
theorem dY_ (k n:Nat):(mkL k n).length=n:=by simp [mkL]
theorem ie_ (k n j:Nat) (h:j < (mkL k n).length):(mkL k n)[j]=(((k+2 * j:Nat):Int),((k+2 * j+1:Nat):Int)):=by simp [mkL]
def mkA (k:Nat) (a:Ac):Ac:=(mtx k,((k+1:Nat):Int),((k+2:Nat):Int),((k+3:Nat):Int),mkL (k+4) a.2.2.2.2.length)
def nx (k:Nat) (a:Ac):Nat:=k+4+2 * a.2.2.2.2.length
def mkAs:Nat->List Ac->List Ac
 | _,[]=>[]
 | k,a :: t=>mkA k a :: mkAs (nx k a) t
def nxs:Nat->List Ac->Nat
 | k,[]=>k
 | k,a :: t=>nxs (nx k a) t
def mkZ:Nat->List (Ac × Value)->List (Ac × Value)
 | _,[]=>[]
 | k,q :: t=>(mkA k q.1,q.2) :: mkZ (nx k q.1) t
theorem mkZ_fst:∀ (k:Nat) (Z:List (Ac × Value)),(mkZ k Z).map (·.1)=mkAs k (Z.map (·.1))
 | _,[]=>rfl
 | k,q :: t=>by simp [mkZ,mkAs,mkZ_fst]
theorem mkZ_snd:∀ (k:Nat) (Z:List (Ac × Value)),(mkZ k Z).map (·.2)=Z.map (·.2)
 | _,[]=>rfl
 | k,q :: t=>by simp [mkZ,mkZ_snd]
theorem mkZ_len:∀ (k:Nat) (Z:List (Ac × Value)),(mkZ k Z).length=Z.length
 | _,[]=>rfl
 | k,q :: t=>by simp [mkZ,mkZ_len]
theorem mkAs_len:∀ (k:Nat) (l:List Ac),(mkAs k l).length=l.length
 | _,[]=>rfl
 | k,q :: t=>by simp [mkAs,mkAs_len]
theorem mkZ_snoc:∀ (k:Nat) (A:List (Ac × Value)) (q:Ac × Value),mkZ k (A ++ [q])=mkZ k A ++ [(mkA (nxs k (A.map (·.1))) q.1,q.2)]
 | _,[],_=>rfl
 | k,x :: A,q=>by simp [mkZ,nxs,mkZ_snoc]
theorem nxs_snoc:∀ (k:Nat) (A:List Ac) (a:Ac),nxs k (A ++ [a])=nx (nxs k A) a
 | _,[],_=>rfl
 | k,x :: A,q=>by simp [nxs,nxs_snoc]
theorem mkAs_app:∀ (k:Nat) (A B:List Ac),mkAs k (A ++ B)=mkAs k A ++ mkAs (nxs k A) B
 | _,[],_=>rfl
 | k,x :: A,B=>by simp [mkAs,nxs,mkAs_app]
theorem nxs_app:∀ (k:Nat) (A B:List Ac),nxs k (A ++ B)=nxs (nxs k A) B
 | _,[],_=>rfl
 | k,x :: A,B=>by simp [nxs,nxs_app]
theorem nxs_ge:∀ (k:Nat) (l:List Ac),k<=nxs k l
 | _,[]=>nr_ _
 | k,x :: t=>by have:=nxs_ge (nx k x) t;unfold nx at this;simp only [nxs,nx];omega
theorem eP_ (k:Nat) (l:List Ac) (j:Nat):nxs k (l.take j)<=nxs k l:=by
 have:=nxs_app k (l.take j) (l.drop j)
 rw [List.take_append_drop] at this
 rw [this]
 exact nxs_ge _ _
theorem eR_ (k:Nat) (l:List Ac) (j:Nat) (h:j < l.length):nxs k (l.take (j+1))=nx (nxs k (l.take j)) l[j]:=by rw [List.take_succ_eq_append_getElem h,nxs_snoc]
theorem kG_ (k:Nat) (l:List Ac) (j:Nat) (h:j < l.length):(mkAs k l)[j]'(by rw [mkAs_len];exact h)=mkA (nxs k (l.take j)) l[j]:=by
 have e:l=l.take j ++ l[j] :: l.drop (j+1):=by rw [<- List.drop_eq_getElem_cons h,List.take_append_drop]
 have e2:mkAs k l=mkAs k (l.take j) ++ mkA (nxs k (l.take j)) l[j] :: mkAs (nx (nxs k (l.take j)) l[j]) (l.drop (j+1)):=by
  conv=>lhs;rw [e]
  rw [mkAs_app]
  rfl
 have hlen:(mkAs k (l.take j)).length=j:=by rw [mkAs_len];simp;omega
 simp only [e2]
 rw [List.getElem_append_right (by omega)]
 simp [hlen]
def mkP (k:Nat) (Z:List (Ac × Value)) (j:Nat):List (Ac × Value):=mkZ k (Z.take j) ++ Z.drop j
theorem fv_ (k:Nat) (Z:List (Ac × Value)):mkP k Z 0=Z:=by simp [mkP,mkZ]
theorem kl_ (k:Nat) (Z:List (Ac × Value)):mkP k Z Z.length=mkZ k Z:=by simp [mkP]
theorem hf_ (k:Nat) (Z:List (Ac × Value)) (j:Nat) (h:j<=Z.length):(mkP k Z j).length=Z.length:=by simp [mkP,mkZ_len];omega
theorem mkP_at (k:Nat) (Z:List (Ac × Value)) (j:Nat) (h:j < Z.length):(mkP k Z j)[j]'(by rw [hf_ _ _ _ (by omega)];exact h)=Z[j]:=by
 unfold mkP
 rw [List.getElem_append_right (by rw [mkZ_len];simp;omega)]
 simp [mkZ_len,show j - min j Z.length=0 from by omega]
theorem jL_ (k:Nat) (Z:List (Ac × Value)) (j:Nat) (h:j < Z.length):(mkP k Z j).set j (mkA (nxs k ((Z.map (·.1)).take j)) Z[j].1,Z[j].2)=mkP k Z (j+1):=by
 have hlen:(mkZ k (Z.take j)).length=j:=by rw [mkZ_len];simp;omega
 unfold mkP
 rw [List.drop_eq_getElem_cons h,List.set_append_right _ _ (by omega),hlen,Nat.sub_self,sz_,List.take_succ_eq_append_getElem h,mkZ_snoc,List.map_take,List.append_assoc]
 rfl
theorem jM_ {α β:Type} (M l:List α) (f:α->β) (j:Nat) (hM:M.length=l.length) (hj:j < M.length):((M.take j ++ l.drop j).map f).set j (f M[j])=(M.take (j+1) ++ l.drop (j+1)).map f:=by
 have e1:((M.take j).map f).length=j:=by simp;omega
 rw [List.map_append,List.set_append_right _ _ (by omega),e1,Nat.sub_self,List.drop_eq_getElem_cons (show j < l.length by omega),List.map_cons,sz_,List.take_succ_eq_append_getElem hj,List.map_append,List.map_append,List.append_assoc]
 rfl
theorem dV_ (v:Value) (l:List (Int × Int)) (k base:Nat) (w:World) (ho:OwnL base w v l) (hl:l.length<=10000000) (hk:k<=100000000) :
  Calls Tryz.prog 144 #[v,.int .i64 (k:Int)] w fun e w'=>e=.returned (.int .i64 ((k+2 * l.length:Nat):Int))/\OwnL base w' v (mkL k l.length)/\w.grownBy w' v.ownBlock:=by
 have hML:=dY_ k l.length
 have hMA:=ie_ k l.length
 generalize hMd:mkL k l.length=M at hML hMA
 clear hMd
 rcases ho.2 with ⟨rfl,hn⟩ | ⟨g,cap,cur,rfl,_,_,_,hcm,_,_⟩
 ·have e:l=[]:=List.length_eq_zero_iff.1 hn
  subst e
  have e2:M=[]:=List.length_eq_zero_iff.1 hML
  subst e2
  have Ho:=a_ ho
  clear ho
  go_enter Tryz.func144,Tryz.ntmps144
  go_wp2
  refine wp_loop_rounds 1 ?_
  rw [rounds_succ]
  go_wp2
  go_ret
  exact ⟨rfl,Ho.out,World.grownBy.refl _ _⟩
 ·have Ho:=a_ ho
  have HML:=a_ hML
  have HMA:=a_ hMA
  have hMl:l.length<=M.length:=by omega
  have hMg:M.length<=l.length:=by omega
  clear ho hML hMA
  go_enter Tryz.func144,Tryz.ntmps144
  go_wp2
  go_loopw [1,5] (fun kv iv wr=>∃ j:Nat,j<=l.length/\iv=.int .i64 (j:Int)/\kv=.int .i64 ((k+2 * j:Nat):Int)/\wr.ownsRow base 214 2 (.slice (some ⟨g,0,none⟩) l.length cap) l.length ((M.take j ++ l.drop j).map lvC).flatten/\w.grownBy wr (some g))
   (fun _ iv _=>l.length - (intOf iv).toNat)
  case atStart=>exact ⟨0,Nat.zero_le _,rfl,rfl,by simpa [OwnL] using Ho.out,World.grownBy.refl _ _⟩
  case round =>
   obtain ⟨j,hj,rfl,rfl,hown,hgr⟩:=hrel
   by_cases hlt:j < l.length
   ·have hjM:j < M.length:=by omega
    obtain ⟨K,hK⟩:∃ K:Nat,k+2 * j=K:=⟨_,rfl⟩
    have hK2:K<=200000000:=by omega
    have eM:lvC M[j]=[.int .i64 ((K:Nat):Int),.int .i64 ((K+1:Nat):Int)]:=by rw [HMA.out j hjM,hK];rfl
    have hsz:=aV_ (M.take j ++ l.drop j)
    have hlen:((M.take j ++ l.drop j).map lvC).length=l.length:=by simp;omega
    obtain ⟨u0,hu0⟩:∃ u,((M.take j ++ l.drop j).map lvC).flatten[j * 2]?=some u:=⟨_,List.getElem?_eq_getElem (by rw [s_ 2 _ hsz];omega)⟩
    obtain ⟨u1,hu1⟩:∃ u,((M.take j ++ l.drop j).map lvC).flatten[j * 2+1]?=some u:=⟨_,List.getElem?_eq_getElem (by rw [s_ 2 _ hsz];omega)⟩
    have d0:=hown.cellAt (j * 2) (by omega)
    have d1:=hown.cellAt (j * 2+1) (by omega)
    have f0:=hown.frozenAt (j * 2)
    have f1:=hown.frozenAt (j * 2+1)
    rw [hu0] at d0
    rw [hu1] at d1
    have hst:=hown.stored (j * 2) (.int .i64 ((K:Nat):Int))
    have hst2:=hst.1.stored (j * 2+1) (.int .i64 ((K+1:Nat):Int))
    rw [aQ_ _ j _ _ (by rw [hlen];exact hlt) hsz,<- eM,jM_ M l lvC j HML.out hjM] at hst2
    have Hst:=a_ hst2.1
    have Hgr2:=a_ (H_ (H_ hgr hst.2) hst2.2)
    have hli:(j:Int) < (l.length:Int):=by omega
    rw [hK]
    have HK:=a_ hK
    clear hK hst hst2 hown hgr eM hu0 hu1
    go_wp2
    go_roundw
    case rel=>exact ⟨j+1,by omega,by go_num,by rw [show k+2 * (j+1)=K+2 from by have:=HK.out;omega];go_num,Hst.out,Hgr2.out⟩
    case measure=>simp [intOf];omega
   ·have e:M.take j ++ l.drop j=M:=by rw [List.take_of_length_le (by omega),List.drop_of_length_le (by omega),List.append_nil]
    rw [e] at hown
    have ho':OwnL base wr (.slice (some ⟨g,0,none⟩) l.length cap) M:=by
     unfold OwnL
     rw [HML.out]
     exact hown
    have e2:j=l.length:=by omega
    have Ho':=a_ ho'
    have Hgr:=a_ hgr
    clear ho' hgr hown e
    subst e2
    go_wp2
    go_ret
    exact ⟨rfl,Ho'.out,Hgr.out⟩
end Go.Proofs.YtamljhcmiphdgaaGreatDoor
