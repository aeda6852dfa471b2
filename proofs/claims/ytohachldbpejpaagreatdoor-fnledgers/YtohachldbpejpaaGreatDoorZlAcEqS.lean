/- Accounts held against each other; their size. -/
import Derived.Test.YtohachldbpejpaaGreatDoorZlDrawTr
set_option maxRecDepth 20000
set_option maxHeartbeats 2000000
namespace Go.Proofs.YtohachldbpejpaaGreatDoor
open Go.RowKit
set_option linter.unusedVariables false
theorem step_appL {ops:Array Oper} {o:Oper} {a:Act} {w:World} {K:Act->World->Prop} {Q:Exit->Act->World->Prop} {E:Prop} (hgd:o.guard=none) (s x:Operand)
    (ho:o.op=.call { callee:=.builtin .append,args:=#[s,x],argTypes:=#[103,103] })
    (base:Nat) (v:Value) (B:Nat) (l:List (Int × Int)) (p:Int × Int) (hs:a.eval s=v) (hx:a.eval x=.slice (some ⟨B,0,none⟩) 1 1) (hown:OwnL base w v l) (hblk:Blk w B 107 (lvC p))
    (hlen:l.length<=100000000) (hbase:base<=w.heap.size)
    (h:∀ v' w',OwnL base w' v' (l ++ [p])->w.grownBy w' v.ownBlock->K (a.put o.dst v') w'):if Region.wanted o (yielded ops a.tmps)=true then Oper.wp Tryz.prog o a w K Q else E:=by
  have hw:Region.wanted o (yielded ops a.tmps)=true:=by simp [Region.wanted,hgd]
  rw [if_pos hw]
  obtain ⟨i0,hi,hz0,hz1,hz2⟩:=info_parts Tryz.infoLv
  refine wp_append_own w s x 103 ho base 107 i0 (.agg #[.int .i64 0,.int .i64 0]) 2 16 Tryz.underlying103 hi hz0 hz1 hz2 rfl (by decide) v l.length (l.map lvC).flatten hs hown ⟨B,0,none⟩ 1 1 (lvC p) hx rfl ?_ ?_ (by unfold maxLen;omega) (by omega) hbase ?_
  · intro j u hj
    rw [add_flat,Nat.zero_add,hblk.cell j]
    exact hj
  · intro u hu
    simp only [lvC,List.mem_cons,List.not_mem_nil,or_false] at hu
    rcases hu with rfl | rfl <;> rfl
  · intro v' w' ho' hg _
    exact h v' w' (by unfold OwnL;rw [List.length_append,List.map_append,List.flatten_append];simpa using ho') hg
theorem OwnL.notg {base:Nat} {w w':World} {v:Value} {l:List (Int × Int)} {g:Nat} (h:OwnL base w v l) (hg:w.grownBy w' (some g)) (hb:g < base):OwnL base w' v l :=
  h.kept hg (.inr fun e=>by have:=h.ge g e;omega)
theorem Blk.notg {w w':World} {B g:Nat} {t:TypeId} {cs:List Value} (h:Blk w B t cs) (hg:w.grownBy w' (some g)) (hne:B ≠ g):Blk w' B t cs :=
  (hg.block B h.lt (fun e=>hne (by injection e))).trans h
theorem Blk.setD {w:World} {B:Nat} {t:TypeId} {cs:List Value} (h:Blk w B t cs) (j:Nat) (u:Value) (hj:j < cs.length):Blk (w.setCell ⟨B,j,none⟩ u) B t (cs.set j u):=by
  have e:=heap_setCell_same w B j cs.toArray t u h
  unfold Blk
  rw [e]
  simp
theorem Blk.setOther {w:World} {B b:Nat} {t:TypeId} {cs:List Value} (h:Blk w B t cs) (j:Nat) (u:Value) (hne:B ≠ b):Blk (w.setCell ⟨b,j,none⟩ u) B t cs :=
  h.notg (grown_set w b j u) hne
theorem Blk.grown {w w':World} {B:Nat} {t:TypeId} {cs:List Value} {row:Option Nat} (h:Blk w B t cs) (hg:w.grownBy w' row) (hne:row ≠ some B):Blk w' B t cs:=(hg.block B h.lt (fun e=>hne e.symm)).trans h
theorem Blk.allocD {w:World} {B:Nat} {t:TypeId} {cs:List Value} (h:Blk w B t cs) (o:Obj):Blk (w.alloc o) B t cs:=h.below ((Below.refl _ w).alloc (Nat.le_refl _) o) h.lt
theorem Blk.drew {w:World} {B:Nat} {t:TypeId} {cs:List Value} (h:Blk w B t cs):Blk w.drew B t cs:=h
theorem OwnL.shapeN {base:Nat} {w:World} {v:Value} {l:List (Int × Int)} (h:OwnL base w v l) (n:Nat) (hn:l.length=n):∃ a c,v=.slice a n c:=by
  obtain ⟨a,c,e⟩:=h.rd.shape
  exact ⟨a,c,by rw [e,hn]⟩
theorem l4Acct_any (w0 w:World) (g:Nat) (cv:Value) (code:List UInt8) (s:ByteArray) (hc:Cur w0 w g cv code) (hl:code.length<=1048576) :
    Calls Tryz.prog 159 #[.pointer (some ⟨g,0,none⟩),.string s] w fun e w'=>∃ (a:Ac) (lv:Value),e=.returned (acV a lv)/\a.1=s/\a.2.2.2.2.length<=3/\OwnL w.heap.size w' lv a.2.2.2.2/\Cur w0 w' g cv code/\w.grownBy w' (some g):=by
  have hgl:=hc.lt
  obtain ⟨w1,hw1⟩:∃ w1,w.alloc (.cells #[.string { data:=#[] },.int .i64 0,.int .i64 0,.int .i64 0,.slice none 0 0] 105)=w1:=⟨_,rfl⟩
  have hs1:w1.heap.size=w.heap.size+1:=by rw [<- hw1];simp
  have hb1:Below w.heap.size w w1:=by rw [<- hw1];exact (Below.refl _ w).alloc (Nat.le_refl _) _
  have k1:Blk w1 w.heap.size 105 acZ:=by rw [<- hw1];exact Blk.new w _ _
  obtain ⟨w2,hw2⟩:∃ w2,w1.alloc (.cells #[.int .i64 0,.int .i64 10,.int .i64 100,.int .i64 5] 3)=w2:=⟨_,rfl⟩
  have hs2:w2.heap.size=w.heap.size+2:=by rw [<- hw2];simp;omega
  have hb2:Below w1.heap.size w1 w2:=by rw [<- hw2];exact (Below.refl _ w1).alloc (Nat.le_refl _) _
  have HI2:Hid (IntsAt w2 (w.heap.size+1) [0,10,100,5]):=hide (by rw [<- hw2,<- hs1];exact ints_new w1 [0,10,100,5] 3)
  have Hc2:=hide ((hc.below hb1 hgl).below hb2 (by omega))
  have K2:=hide (k1.below hb2 (by omega))
  have HG2:=hide (grw_of_below (some g) (hb1.trans (hb2.mono (by omega))) (Nat.le_refl _))
  clear hc k1 hb1 hb2
  go_enter Tryz.func159,Tryz.ntmps159
  go_wp2_with fail
  refine (l1Int_any w0 _ g (w.heap.size+1) cv code [0,10,100,5] Hc2.out hl HI2.out (by omega) (by simp) (by simp) 4).mono ?_
  rintro e w3 ⟨fr,rfl,-,hc3,hg3⟩
  have K3:=hide (K2.out.notg hg3 (by omega))
  have HG3:=hide (grw_trans HG2.out hg3)
  have hs3:=hg3.size
  clear hg3 HI2 Hc2 K2 HG2
  go_wp2_with fail
  refine (l1Below_any _ _ _ _ _ _ hc3 hl (by omega) (by omega)).mono ?_
  rintro e w4 ⟨no,rfl,-,-,hc4,hg4⟩
  have K4:=hide (K3.out.notg hg4 (by omega))
  have HG4:=hide (grw_trans HG3.out hg4)
  have hs4:=hg4.size
  obtain ⟨w5,hw5⟩:∃ w5,w4.alloc (.cells #[.int .i64 10,.int .i64 10,.int .i64 0,.int .i64 4,.int .i64 5,.int .i64 30] 3)=w5:=⟨_,rfl⟩
  have hb5:Below w4.heap.size w4 w5:=by rw [<- hw5];exact (Below.refl _ w4).alloc (Nat.le_refl _) _
  have hs5:w5.heap.size=w4.heap.size+1:=by rw [<- hw5];simp
  have HI5:Hid (IntsAt w5 w4.heap.size [10,10,0,4,5,30]):=hide (by rw [<- hw5];exact ints_new w4 [10,10,0,4,5,30] 3)
  have Hc5:=hide (hc4.below hb5 (by omega))
  have K5:=hide (K4.out.below hb5 (by omega))
  have HG5:=hide (grw_trans HG4.out (grw_of_below (some g) hb5 (Nat.le_refl _)))
  clear hg4 hc3 hc4 K3 K4 HG3 HG4 hb5
  go_wp2_with fail
  refine (l1Int_any w0 _ g w4.heap.size cv code [10,10,0,4,5,30] Hc5.out hl HI5.out (by omega) (by simp) (by simp) 6).mono ?_
  rintro e w6 ⟨st,rfl,-,hc6,hg6⟩
  have hs6:=hg6.size
  go_wp2
  obtain ⟨w7,hw7⟩:∃ w7,w6.alloc (.cells #[.string s,.int .i64 fr,.int .i64 (no:Int),.int .i64 st,.slice none 0 0] 105)=w7:=⟨_,rfl⟩
  rw [hw7]
  have hb7:Below w6.heap.size w6 w7:=by rw [<- hw7];exact (Below.refl _ w6).alloc (Nat.le_refl _) _
  have hs7:w7.heap.size=w6.heap.size+1:=by rw [<- hw7];simp
  have KA7:Hid (Blk w7 w6.heap.size 105 [.string s,.int .i64 fr,.int .i64 (no:Int),.int .i64 st,.slice none 0 0]):=hide (by rw [<- hw7];exact Blk.new w6 _ _)
  have K7:=hide ((K5.out.notg hg6 (by omega)).below hb7 (by omega))
  have HG7:=hide (grw_trans (grw_trans HG5.out hg6) (grw_of_below (some g) hb7 (Nat.le_refl _)))
  have Hc7:=hide (hc6.below hb7 (by omega))
  clear hg6 hc6 K5 HG5 HI5 Hc5 hb7
  go_loopw [6] (fun iv wr=>∃ (k:Nat) (a':Option Addr) (c':Nat) (ls:List (Int × Int)),k<=3/\iv=.int .i64 (k:Int)/\ls.length<=k/\Blk wr w6.heap.size 105 [.string s,.int .i64 fr,.int .i64 (no:Int),.int .i64 st,.slice a' ls.length c']/\OwnL (w6.heap.size+1) wr (.slice a' ls.length c') ls/\Blk wr w.heap.size 105 acZ/\Cur w0 wr g cv code/\w.grownBy wr (some g)) (fun iv _=>3 - (intOf iv).toNat)
  case atStart=>exact ⟨0,none,0,[],Nat.zero_le _,rfl,Nat.le_refl _,KA7.out,own_noneL _ _,K7.out,Hc7.out,HG7.out⟩
  case round =>
    obtain ⟨k,a',c',ls,hk,rfl,hll,hkA,hoL,hkR,hcr,hgr⟩:=hrel
    clear KA7 K7 Hc7 HG7
    have HkA:=hide hkA
    have HoL:=hide hoL
    have HkR:=hide hkR
    have Hcr:=hide hcr
    have Hgr:=hide hgr
    have hAl:=hkA.lt
    clear hkA hoL hkR hcr hgr
    by_cases hlt:k < 3
    · go_wp2_with fail
      refine (l1Once_any _ _ _ _ _ _ Hcr.out hl (by omega) (by omega)).mono ?_
      rintro e w8 ⟨bb,rfl,hc8,hg8⟩
      have hkA8:=HkA.out.notg hg8 (by omega)
      have hkR8:=HkR.out.notg hg8 (by omega)
      have hoL8:=HoL.out.notg hg8 (by omega)
      have hgr8:=grw_trans Hgr.out hg8
      have hs8:=hg8.size
      clear hg8 HkA HkR HoL Hgr Hcr
      cases bb
      · have HkA:=hide hkA8
        have HkR:=hide hkR8
        have HoL:=hide hoL8
        have Hgr:=hide hgr8
        have Hcr:=hide hc8
        clear hkA8 hkR8 hoL8 hgr8 hc8
        go_wp2
        go_roundw
        case rel=>exact ⟨k+1,a',c',ls,by omega,by go_num,by omega,HkA.out,HoL.out,HkR.out,Hcr.out,Hgr.out⟩
        case measure=>simp [intOf];omega
      · have HoLd:=hide (hoL8.below (below_drewN (Below.refl w8.heap.size w8) 1) (Nat.le_refl _))
        have e4:=hkA8.cell 4
        have f4:=hkA8.frozen 4
        simp only [List.getElem?_cons_zero,List.getElem?_cons_succ] at e4
        have HkA:=hide hkA8
        have HkR:=hide hkR8
        have HoL:=hide hoL8
        have Hgr:=hide hgr8
        have Hcr:=hide hc8
        clear hkA8 hkR8 hoL8 hgr8 hc8
        go_wp2_with fail
        go_region_law (first
          | (refine step_appL rfl _ _ rfl (w6.heap.size+1) (.slice a' ls.length c') _ ls (_,_) rfl rfl (OwnL.alloc (OwnL.notg HoLd.out hg9 (by omega)) _) (Blk.new' _ _ (lvC (_,_)) _ (by simp)) (by omega) (by have:=hg9.size;simp at this ⊢;omega) ?_;intro v10 w10 ho10x hg10;obtain ⟨L10,hL10,ho10⟩:∃ L:List (Int × Int),L.length=ls.length+1/\OwnL (w6.heap.size+1) w10 v10 L:=⟨_,by simp,ho10x⟩;clear ho10x;obtain ⟨a10,c10,rfl⟩:=ho10.shapeN (ls.length+1) hL10;have kA10:=hide (Blk.grown (Blk.allocD (Blk.notg (Blk.drew HkA.out) hg9 (by omega)) _) hg10 (fun e=>by have:=HoL.out.ge _ e;omega));have q4:=kA10.out.cell 4;have g4:=kA10.out.frozen 4;simp only [List.getElem?_cons_zero,List.getElem?_cons_succ] at q4)
          | (go_simp;go_at_call 68;refine (l1Below_any w0 _ g cv code 9 (by first | exact Hcr.out.drew | exact Hcr.out) hl (by omega) (by omega)).mono ?_;rintro e w9 ⟨x9,rfl,hx9,-,hc9,hg9⟩;have hx9':x9 < 9:=(by have:=hx9 (by omega);omega);have k9:=hide (Blk.notg (Blk.drew HkA.out) hg9 (by omega));have q9:=k9.out.cell 4;simp only [List.getElem?_cons_zero,List.getElem?_cons_succ] at q9;have hA9:=k9.out.lt))
        all_goals
          have hA9:w6.heap.size < w9.heap.size:=(Blk.notg (Blk.drew HkA.out) hg9 (by omega)).lt
          have hb11:Below w6.heap.size w9 (w10.setCell ⟨w6.heap.size,4,none⟩ (.slice a10 (ls.length+1) c10)):=(((Below.refl w6.heap.size w9).alloc (by omega) _).grown hg10 (by simp;omega) (fun j hj=>by have:=HoL.out.ge j hj;omega)).setCell (p:=⟨w6.heap.size,4,none⟩) (Nat.le_refl _) _
          have HkA11:=hide (kA10.out.setD 4 (.slice a10 (ls.length+1) c10) (by simp))
          have HoL11:=hide (row_set ho10 w6.heap.size 4 (.slice a10 (ls.length+1) c10) (fun j hj=>by have:=OwnL.ge ho10 j hj;omega))
          have HkR11:=hide ((HkR.out.drew.notg hg9 (by omega)).below hb11 (by omega))
          have Hc11:=hide (hc9.below hb11 (by omega))
          have Hgr11:=hide (grw_below (grw_trans (grw_drewN Hgr.out 1) hg9) hb11 (by omega))
          clear hb11 ho10 kA10 hg10 hg9 hc9 q4 g4
          go_wp2
          go_roundw
          case rel=>exact ⟨k+1,a10,c10,L10,by omega,by go_num,by omega,by rw [hL10];exact HkA11.out,by rw [hL10];exact HoL11.out,HkR11.out,Hc11.out,Hgr11.out⟩
          case measure=>simp [intOf];omega
    · have c0:=HkA.out.cell 0
      have c1:=HkA.out.cell 1
      have c2:=HkA.out.cell 2
      have c3:=HkA.out.cell 3
      have c4:=HkA.out.cell 4
      have d0:=HkR.out.cell 0
      have d1:=HkR.out.cell 1
      have d2:=HkR.out.cell 2
      have d3:=HkR.out.cell 3
      have d4:=HkR.out.cell 4
      have f0:=HkR.out.frozen 0
      have f1:=HkR.out.frozen 1
      have f2:=HkR.out.frozen 2
      have f3:=HkR.out.frozen 3
      have f4:=HkR.out.frozen 4
      simp only [acZ,List.getElem?_cons_zero,List.getElem?_cons_succ] at c0 c1 c2 c3 c4 d0 d1 d2 d3 d4
      have hRl:=HkR.out.lt
      have hne:w.heap.size < w6.heap.size:=by omega
      go_wp2
      refine bodyPost_ret (v:=.agg #[.string s,.int .i64 fr,.int .i64 (no:Int),.int .i64 st,.slice a' ls.length c']) (by simp [results,Tryz.f159,go_sem,d0,d1,d2,d3,d4]) rfl ?_
      have n1:∀ j,(Value.slice a' ls.length c').ownBlock=some j->j ≠ w.heap.size:=fun j hj=>by have:=HoL.out.ge j hj;omega
      have hbR:Below w.heap.size wr (((((wr.setCell ⟨w.heap.size,0,none⟩ (.string s)).setCell ⟨w.heap.size,1,none⟩ (.int .i64 fr)).setCell ⟨w.heap.size,2,none⟩ (.int .i64 (no:Int))).setCell ⟨w.heap.size,3,none⟩ (.int .i64 st)).setCell ⟨w.heap.size,4,none⟩ (.slice a' ls.length c')) :=
        (((((Below.refl _ wr).setCell (p:=⟨w.heap.size,0,none⟩) (Nat.le_refl _) _).setCell (p:=⟨w.heap.size,1,none⟩) (Nat.le_refl _) _).setCell (p:=⟨w.heap.size,2,none⟩) (Nat.le_refl _) _).setCell (p:=⟨w.heap.size,3,none⟩) (Nat.le_refl _) _).setCell (p:=⟨w.heap.size,4,none⟩) (Nat.le_refl _) _
      refine ⟨(s,fr,(no:Int),st,ls),   .slice a' ls.length c',rfl,rfl,(show ls.length<=3 by omega),?_,Hcr.out.below hbR hgl,grw_below Hgr.out hbR (Nat.le_refl _)⟩
      exact row_set (row_set (row_set (row_set (row_set (HoL.out.mono (show w.heap.size<=w6.heap.size+1 by omega)) _ _ _ n1) _ _ _ n1) _ _ _ n1) _ _ _ n1) _ _ _ n1
theorem RowA.notg {base:Nat} {w w':World} {v:Value} {Z:List (Ac × Value)} {g:Nat} (h:RowA base w v Z) (hg:w.grownBy w' (some g)) (hb:g < base):RowA base w' v Z :=
  World.ownsRow.kept h hg (.inr fun e=>by have:=h.ge g e;omega)
theorem Lvs.notg {base:Nat} {w w':World} {b:Nat} {Z:List (Ac × Value)} {g:Nat} (h:Lvs base w b Z) (hg:w.grownBy w' (some g)) (hb:g < base):Lvs base w' b Z :=
  ⟨fun i hi=>(h.own i hi).notg hg hb,h.far,h.apart⟩
def Small (l:List Ac):Prop:=l.length<=100/\∀ a ∈ l,a.1.size<=9/\a.2.2.2.2.length<=4
theorem rd_row {base:Nat} {w:World} {g cap:Nat} {Z:List (Ac × Value)} (ho:RowA base w (.slice (some ⟨g,0,none⟩) Z.length cap) Z) (hl:∀ q ∈ Z,RdL w q.2 q.1.2.2.2.2):RdA w (.slice (some ⟨g,0,none⟩) Z.length cap) (Z.map (·.1)):=by
  by_cases hn:Z=[]
  · subst hn;exact .inl ⟨_,_,rfl,rfl,fun h=>by cases h⟩
  · rcases ho.2 with ⟨hv,_⟩ | ⟨g',cap',cur,hv,hb,hg,hnc,hcm,hcs,ht⟩
    · cases hv
    · simp only [Value.slice.injEq,Option.some.injEq,Addr.mk.injEq,and_true,true_and] at hv
      obtain ⟨rfl,rfl⟩:=hv
      refine .inr ⟨g,0,cap,by simpa using hn,by simp,by simpa using hnc,hcm,(Array.getElem?_eq_some_iff.1 hg).1,fun i hi=>?_⟩
      have hi':i < Z.length:=by simpa using hi
      have e:(Z.map (·.1))[i]=Z[i].1:=by simp
      refine ⟨Z[i].2,?_,by rw [e];exact hl _ (List.getElem_mem hi')⟩
      have cell:∀ j,j < 5->w.cell? ⟨g,0+i * 5+j,none⟩=(acC Z[i])[j]?:=fun j hj=>by
        rw [Nat.zero_add,World.ownsRow.cellAt ho (i * 5+j) (by omega),flat_get 5 (Z.map acC) i j (by simpa using hi') (acM_sz Z) hj]
        simp
      rw [e]
      exact ⟨by have:=cell 0 (by omega);simpa [acC] using this,by have:=cell 1 (by omega);simpa [acC] using this,by have:=cell 2 (by omega);simpa [acC] using this,by have:=cell 3 (by omega);simpa [acC] using this,by have:=cell 4 (by omega);simpa [acC] using this⟩
theorem l4Draw_any (w0 w:World) (g:Nat) (cv:Value) (code:List UInt8) (hc:Cur w0 w g cv code) (hl:code.length<=1048576) :
    Calls Tryz.prog 103 #[.pointer (some ⟨g,0,none⟩)] w fun e w'=>∃ (G cap:Nat) (Z:List (Ac × Value)),e=.returned (.slice (some ⟨G,0,none⟩) Z.length cap)/\RowA w.heap.size w' (.slice (some ⟨G,0,none⟩) Z.length cap) Z/\Lvs w.heap.size w' G Z/\Z.length<=5/\(∀ q ∈ Z,q.1.1.size<=9/\q.1.2.2.2.2.length<=3)/\Cur w0 w' g cv code/\w.grownBy w' (some g):=by
  have hgl:=hc.lt
  obtain ⟨w1,hw1⟩:∃ w1,w.alloc (.cells #[] 105)=w1:=⟨_,rfl⟩
  have hb1:Below w.heap.size w w1:=by rw [<- hw1];exact (Below.refl _ w).alloc (Nat.le_refl _) _
  have hs1:w1.heap.size=w.heap.size+1:=by rw [<- hw1];simp
  have Ho1:Hid (RowA w.heap.size w1 (.slice (some ⟨w.heap.size,0,none⟩) 0 0) []):=hide (by rw [<- hw1];exact row_nilA w _ (Nat.le_refl _))
  have Hc1:=hide (hc.below hb1 hgl)
  have HG1:=hide (grw_of_below (some g) hb1 (Nat.le_refl _))
  clear hc hb1
  go_enter Tryz.func103,Tryz.ntmps103
  go_wp2_with fail
  refine (l1Names_any w0 _ g cv code Hc1.out hl).mono ?_
  rintro e w2 ⟨v2,ns,rfl,ho2,hn5,hsz,hc2,hg2⟩
  have Ho2:=hide (Ho1.out.notg hg2 hgl)
  have HG2:=hide (grw_trans HG1.out hg2)
  have Hc2:=hide hc2
  have Hns:=hide ho2
  have Hsz:=hide hsz
  have hs2:=hg2.size
  obtain ⟨av,cvv,hv2⟩:∃ a c,v2=.slice a ns.length c:=by
    rcases ho2.rd with ⟨a,cap,h1,h2,-⟩ | ⟨b,off,cap,h0,h1,_⟩
    · subst h2;exact ⟨a,cap,h1⟩
    · exact ⟨_,cap,h1⟩
  subst hv2
  clear hc2 ho2 hg2 hsz Ho1 HG1 Hc1
  go_wp2
  go_loopw [3,5] (fun ov iv wr=>∃ (k G c:Nat) (Z:List (Ac × Value)),k<=ns.length/\iv=.int .i64 (k:Int)/\ov=.slice (some ⟨G,0,none⟩) k c/\Z.length=k/\RowA w.heap.size wr ov Z/\Lvs w.heap.size wr G Z/\(∀ q ∈ Z,q.1.1.size<=9/\q.1.2.2.2.2.length<=3)/\OwnS w1.heap.size wr (.slice av ns.length cvv) ns/\(∀ j,(Value.slice av ns.length cvv).ownBlock=some j->j ≠ G)/\Cur w0 wr g cv code/\w.grownBy wr (some g)) (fun _ iv _=>ns.length - (intOf iv).toNat)
  case atStart =>
    refine ⟨0,_,_,[],Nat.zero_le _,rfl,rfl,rfl,Ho2.out,Lvs.nil _ _ _,by simp,Hns.out,fun j hj=>?_,Hc2.out,HG2.out⟩
    have:=(World.ownsRow.lt Hns.out j hj).1
    omega
  case round =>
    obtain ⟨k,G,c,Z,hk,rfl,rfl,hZk,ho,hlv,hsm,hns,hne,hcr,hgr⟩:=hrel
    clear Ho2 HG2 Hc2 Hns
    by_cases hlt:k < ns.length
    · have hs1':=Hsz.out ns[k] (List.getElem_mem _)
      have hrd:=hns.rd
      rcases hrd with ⟨_,_,_,e,_⟩ | ⟨b,off,cap,h0,hv,h1,h2,h3,h4⟩
      · subst e;simp at hlt
      injection hv with ha _ hcap
      subst ha hcap
      have hc0:=h4 k hlt
      have hli:(k:Int) < (ns.length:Int):=by omega
      have hGw:w.heap.size<=G:=ho.ge G rfl
      have hGl:G < wr.heap.size:=ho.lt G rfl
      have Ho:=hide ho
      have Hlv:=hide hlv
      have Hsm:=hide hsm
      have Hns:=hide hns
      have Hne:=hide hne
      have HA:=hide (l4Acct_any w0 wr g cv code ns[k] hcr hl)
      have Hgr:=hide hgr
      clear ho hlv hsm hns hne hcr hgr h4
      generalize ns[k]=nm at hc0 HA hs1'
      go_wp2_with fail
      refine HA.out.mono ?_
      rintro e w3 ⟨a3,lv3,rfl,ha3,hl3,ho3,hc3,hg3⟩
      have hs3:=hg3.size
      obtain ⟨⟨nm3,fr,no,st,ls⟩⟩:Nonempty Ac:=⟨a3⟩
      obtain ⟨nm3,fr,no,st,ls⟩:=a3
      simp only at ha3 hl3
      subst ha3
      obtain ⟨a',c',rfl⟩:=OwnL.shapeN ho3 ls.length rfl
      have Ho3:=hide (Ho.out.notg hg3 hgl)
      have Hlv3:=hide (Hlv.out.notg hg3 hgl)
      have HoL3:=hide ho3
      have Hc3:=hide hc3
      have Hgr3:=hide (grw_trans Hgr.out hg3)
      have Hns3:=hide (Hns.out.notg hg3 (by omega))
      clear ho3 hc3 hg3
      simp only [acV]
      go_wp2_with (at_builtin;refine app_ownA _ rfl _ _ rfl w.heap.size (.slice (some ⟨G,0,none⟩) k c) _ Z ((nm3,fr,no,st,ls),.slice a' ls.length c') rfl rfl (World.ownsRow.alloc Ho3.out _) (Blk.new' _ _ (acC ((nm3,fr,no,st,ls),.slice a' ls.length c')) _ (by simp)) rfl (by omega) (by simp;omega) ?_;intro v4 w4 hrow4 hgr4 hnn4 hloc4;obtain ⟨G',c'',rfl⟩:=hrow4.shapeN hnn4 (k+1) (by simp [hZk]))
      have hlv4:Lvs w.heap.size w4 G' (Z ++ [((nm3,fr,no,st,ls),.slice a' ls.length c')]):=by
        obtain ⟨g',cap',e,h⟩:=rowA_step (q:=((nm3,fr,no,st,ls),.slice a' ls.length c')) Hlv3.out (HoL3.out.mono (by omega)) (fun j hj=>by have:=HoL3.out.ge j hj;omega)
          (fun i hi j hj e=>by have:=(Hlv.out.own i hi).lt j hj;have:=HoL3.out.ge j e;omega) ((Below.refl _ w3).alloc (Nat.le_refl _) _) hgr4 hrow4 hnn4 hloc4
        injection e with e1
        injection e1 with e2
        injection e2 with e3
        subst e3
        exact h
      have hB4:Below w.heap.size w3 w4:=((Below.refl _ w3).alloc (by omega) _).grown hgr4 (by simp;omega) (fun j hj=>by cases hj;exact hGw)
      have hns4:OwnS w1.heap.size w4 (.slice (some ⟨b,off,none⟩) ns.length cvv) ns:=World.ownsRow.kept (World.ownsRow.alloc Hns3.out _) hgr4 (.inr fun e=>Hne.out G e rfl)
      have Hc4:=hide (Hc3.out.below hB4 hgl)
      have Hgr4:=hide (grw_below Hgr3.out hB4 (Nat.le_refl _))
      have hG':∀ j,(Value.slice (some ⟨b,off,none⟩) ns.length cvv).ownBlock=some j->j ≠ G':=fun j hj=>by
        have h1:=Hne.out j hj
        have h2:=(World.ownsRow.lt Hns3.out j hj).2
        rcases hloc4 with h | h
        · have:G'=G:=by simpa [Value.ownBlock] using h
          omega
        · have:G'=w3.heap.size+1:=by simpa [Value.ownBlock] using h
          omega
      go_roundw
      case rel =>
        refine ⟨k+1,G',c'',_,by omega,by go_num,rfl,by simp [hZk],hrow4,hlv4,fun q hq=>?_,hns4,hG',Hc4.out,Hgr4.out⟩
        rcases List.mem_append.1 hq with hq | hq
        · exact Hsm.out q hq
        · simp at hq;subst hq;exact ⟨(show nm3.size<=9 by omega),hl3⟩
      case measure=>simp [intOf];omega
    · go_wp2
      go_ret
      subst hZk
      exact ⟨G,c,Z,rfl,ho,hlv,by omega,hsm,hcr,hgr⟩
def DrA (base:Nat) (w:World) (v:Value) (Z:List (Ac × Value)):Prop:=(∃ G cap,v=.slice (some ⟨G,0,none⟩) Z.length cap)/\RowA base w v Z/\∀ q ∈ Z,OwnL base w q.2 q.1.2.2.2.2
theorem DrA.of {base:Nat} {w:World} {G cap:Nat} {Z:List (Ac × Value)} (h:RowA base w (.slice (some ⟨G,0,none⟩) Z.length cap) Z) (hl:Lvs base w G Z):DrA base w (.slice (some ⟨G,0,none⟩) Z.length cap) Z :=
  ⟨⟨G,cap,rfl⟩,h,fun q hq=>by
    obtain ⟨i,hi,rfl⟩:=List.mem_iff_getElem.1 hq
    exact hl.own i hi⟩
theorem DrA.notg {base:Nat} {w w':World} {v:Value} {Z:List (Ac × Value)} {g:Nat} (h:DrA base w v Z) (hg:w.grownBy w' (some g)) (hb:g < base):DrA base w' v Z :=
  ⟨h.1,h.2.1.notg hg hb,fun q hq=>(h.2.2 q hq).notg hg hb⟩
theorem DrA.below {B base:Nat} {w w':World} {v:Value} {Z:List (Ac × Value)} (h:DrA base w v Z) (hb:Below B w w') (hB:w.heap.size<=B):DrA base w' v Z :=
  ⟨h.1,h.2.1.below hb hB,fun q hq=>(h.2.2 q hq).below hb hB⟩
theorem DrA.rd {base:Nat} {w:World} {v:Value} {Z:List (Ac × Value)} (h:DrA base w v Z):RdA w v (Z.map (·.1)):=by
  obtain ⟨⟨G,cap,rfl⟩,h1,h2⟩:=h
  exact rd_row h1 (fun q hq=>(h2 q hq).rd)
def SmallZ (Z:List (Ac × Value)):Prop:=Z.length<=6/\∀ q ∈ Z,q.1.1.size<=9/\q.1.2.2.2.2.length<=4
def Drawn (w0 w:World) (g:Nat) (cv:Value) (code:List UInt8) (e:Ending) (w':World):Prop:=∃ (v:Value) (Z:List (Ac × Value)),e=.returned v/\DrA w.heap.size w' v Z/\SmallZ Z/\Cur w0 w' g cv code/\w.grownBy w' (some g)
def wgA (a:Ac):Nat:=a.1.size+a.2.2.2.2.length
def totA (l:List Ac):Nat:=(l.map wgA).sum
end Go.Proofs.YtohachldbpejpaaGreatDoor
