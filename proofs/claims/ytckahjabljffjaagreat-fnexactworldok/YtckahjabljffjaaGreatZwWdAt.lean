/- Whether a world has a node of a name, on both sides. -/
import Derived.Test.YtckahjabljffjaaGreatZwBkSameI
import Derived.Test.YtckahjabljffjaaGreatZwBkSameS
import Derived.Deep.Cut
set_option maxRecDepth 20000
set_option maxHeartbeats 4000000
namespace Go.Proofs.YtckahjabljffjaaGreat
open Go.RowKit Go.Sort
set_option linter.unusedVariables false
theorem infoBk14:(Tryz.prog.info? 94).map (·.size)=some 14:=by kernel_rfl
theorem infoWd7:(Tryz.prog.info? 36).map (·.size)=some 7:=by kernel_rfl
theorem implIsPlace_any (a:Option Addr) (n c:Nat) (x:Int) (w:World) (hn:n<=4000000) :
    Calls Tryz.prog 218 #[.slice a n c,.int .i64 x] w fun e w'=>e=.returned (.bool (inB x 0 ((n:Int) - 1)))/\w'=w:=by
  have hw:IntKind.i64.wrap ((n:Int) - 1)=(n:Int) - 1:=by rw [IntKind.wrap_i64];omega
  go_enter Tryz.func218,Tryz.ntmps218
  go_wp2_with fail
  refine (implWithinC_any _ _ _ _).mono ?_
  rintro e w ⟨rfl,rfl⟩
  go_wp2
  go_ret
  exact ⟨rfl,rfl⟩
theorem implHas_any (ep:Int) (va vf vn vs vm:Value) (adb:Option Addr) (cpb:Nat) (bs:List Bk) (b:Bk) (v:Bv) (w:World) (hB:RdKs w (.slice adb bs.length cpb) bs) (hl:bs.length<=4000000) (hfb:∀ x ∈ bs,FewK x) (hr:RdK w b v) (hf:FewK b) :
    Calls Tryz.prog 181 #[.agg #[.int .i64 ep,va,vf,vn,.slice adb bs.length cpb,vs,vm],bkV b v] w fun e w'=>e=.returned (.bool (hasB bs b))/\Below w.heap.size w w':=by
  obtain ⟨w1,hw1⟩:∃ x,w.alloc (.cells #[.int .i64 ep,va,vf,vn,.slice adb bs.length cpb,vs,vm] 36)=x:=⟨_,rfl⟩
  obtain ⟨w2,hw2⟩:∃ x,w1.alloc (.cells (bkC b v).toArray 94)=x:=⟨_,rfl⟩
  have b1:Below w.heap.size w w1:=by rw [<- hw1];exact (Below.refl _ w).alloc (Nat.le_refl _) _
  have s1:w1.heap.size=w.heap.size+1:=by rw [<- hw1];simp
  have b2:Below w1.heap.size w1 w2:=by rw [<- hw2];exact (Below.refl _ w1).alloc (Nat.le_refl _) _
  have b02:Below w.heap.size w w2:=b1.trans (b2.mono b1.size)
  have k1:Blk w2 w.heap.size 36 [.int .i64 ep,va,vf,vn,.slice adb bs.length cpb,vs,vm]:=by rw [<- hw2];exact (show Blk w1 w.heap.size 36 [.int .i64 ep,va,vf,vn,.slice adb bs.length cpb,vs,vm] from by rw [<- hw1];exact Blk.new w _ _).below ((Below.refl _ w1).alloc (Nat.le_refl _) _) (by omega)
  have k2:Blk w2 (w.heap.size+1) 94 (bkC b v):=by rw [<- hw2,<- s1];exact Blk.new w1 _ _
  have x4:=k1.cell 4
  have y0:=k2.cell 0
  simp only [List.getElem?_cons_zero,List.getElem?_cons_succ,bkC] at x4 y0
  have g4:=cell_regrown x4
  have g0:=cell_regrown y0
  have HC2:=hide (range_regrown (blk_range k2) k2.lt)
  have HI2:=hide (show (Tryz.prog.info? 94).map (·.size)=some (bkC b v).length from infoBk14)
  have HP:=hide (fun (d:Nat) (os:Array Obj)=>sameC_regrown (implIsPlace_any adb bs.length cpb b.id (grow (redrawn w2 d) os) hl))
  have HS:=hide (fun (x:Bk) (u:Bv) (hx:RdK w x u) (hfx:FewK x) (d:Nat) (os:Array Obj)=>Calls.regrown_of (implSameBlock_any x b u v (grow (redrawn w2 d) os) ((hx.below b02 (Nat.le_refl _)).below (below_regrown w2 d os) (Nat.le_refl _)) ((hr.below b02 (Nat.le_refl _)).below (below_regrown w2 d os) (Nat.le_refl _)) hfx hf))
  have HB:=hide hB
  have Hb02:=hide b02
  have HF:=hide hfb
  clear k1 k2 x4 y0 hB hr b1 b2 b02 hfb
  have ev:bkV b v=.agg (bkC b v).toArray:=rfl
  rw [ev] at HS ⊢
  cases hin:inB b.id 0 ((bs.length:Int) - 1)
  · rw [hasB_out hin]
    rw [hin] at HP
    clear hin HS HF
    generalize b.id=id at g0 HP
    generalize bkC b v=cs at hw2 HC2 HI2 ⊢
    go_enter Tryz.func181,Tryz.ntmps181
    go_upto_region 1 with fail
    (try rw [hw1])
    (try rw [hw2])
    clear hw1 hw2
    refine wp_region_quiet_below (by kernel_rfl) (by kernel_rfl) ?_
    (try dsimp only [List.append])
    repeat (first | go_big_quiet_step (first | (go_at_call 218;exact HP.out _ _)))
    refine wpQuiet_nil ?_
    intro _ hw'
    obtain ⟨⟨dq,osq⟩,hw''⟩:=hw'
    subst hw''
    go_wp2
    go_ret
    exact ⟨rfl,Hb02.out.trans ((below_regrown w2 dq osq).mono Hb02.out.size)⟩
  · obtain ⟨k,hk,hid,hh⟩:=hasB_in hin
    rw [hh]
    rw [hin] at HP
    obtain ⟨b0,off,rfl,hlt,hat⟩:=HB.out.parts14 (by omega)
    obtain ⟨u,hu,hru⟩:=hat k hk
    have hfx:=HF.out _ (List.getElem_mem hk)
    have HS:=hide (HS.out bs[k] u hru hfx)
    have HR:=hide (range_regrown (w:=w2) (b:=b0) (o:=off+k * 14) (cs:=bkC bs[k] u) (fun j x hx=>by
      have hj:j < 14:=(List.getElem?_eq_some_iff.1 hx).1
      exact ((hu.below Hb02.out hlt) j hj).trans hx) (by have:=Hb02.out.size;omega))
    have HI3:=hide (show (Tryz.prog.info? 94).map (·.size)=some (bkC bs[k] u).length from infoBk14)
    have hki:(k:Int) < (bs.length:Int):=by omega
    have hk0:(0:Int)<=(k:Int):=by omega
    rw [show bkV bs[k] u=.agg (bkC bs[k] u).toArray from rfl] at HS
    rw [hid] at g0 HP
    clear hin hh hat hu hru HB HF hfx
    generalize sb9 bs[k] b=X at HS ⊢
    generalize bkC bs[k] u=ds at HS HR HI3
    clear hid
    generalize bkC b v=cs at hw2 HC2 HI2 HS ⊢
    go_enter Tryz.func181,Tryz.ntmps181
    go_upto_region 1 with fail
    (try rw [hw1])
    (try rw [hw2])
    clear hw1 hw2
    refine wp_region_quiet_below (by kernel_rfl) (by kernel_rfl) ?_
    (try dsimp only [List.append])
    repeat (first | (refine quiet_load_mid 94 _ rfl b0 (off+k * 14) rfl ds _ HR.out Tryz.underlying94 rfl HI3.out (by rfl) ?_;change wpQuiet _ _ _ _ _ (Act.put _ (some 16) _);simp only [Act.put,List.setIfInBounds_toArray,List.set_cons_zero,List.set_cons_succ]) | (refine quiet_load_mid 94 _ rfl (w.heap.size+1) (0) rfl cs _ HC2.out Tryz.underlying94 rfl HI2.out (by rfl) ?_;change wpQuiet _ _ _ _ _ (Act.put _ (some 17) _);simp only [Act.put,List.setIfInBounds_toArray,List.set_cons_zero,List.set_cons_succ]) | go_big_quiet_step (first | (go_at_call 218;exact HP.out _ _) | (go_at_call 219;exact HS.out _ _)))
    refine wpQuiet_nil ?_
    intro _ hw'
    obtain ⟨⟨dq,osq⟩,hw''⟩:=hw'
    subst hw''
    go_wp2
    go_ret
    exact ⟨rfl,Hb02.out.trans ((below_regrown w2 dq osq).mono Hb02.out.size)⟩
theorem implHasAll_any (ep:Int) (va vf vn vs vm:Value) (adb:Option Addr) (cpb:Nat) (bs:List Bk) (al:Option Addr) (cl:Nat) (l:List Bk) (w:World) (hB:RdKs w (.slice adb bs.length cpb) bs) (hl:bs.length<=4000000) (hfb:∀ x ∈ bs,FewK x) (hL:RdKs w (.slice al l.length cl) l) (hll:l.length<=4000000) (hfl:∀ x ∈ l,FewK x) :
    Calls Tryz.prog 121 #[.agg #[.int .i64 ep,va,vf,vn,.slice adb bs.length cpb,vs,vm],.slice al l.length cl] w fun e w'=>e=.returned (.bool (realB bs l))/\Below w.heap.size w w':=by
  obtain ⟨w1,hw1⟩:∃ x,w.alloc (.cells #[.int .i64 ep,va,vf,vn,.slice adb bs.length cpb,vs,vm] 36)=x:=⟨_,rfl⟩
  have b1:Below w.heap.size w w1:=by rw [<- hw1];exact (Below.refl _ w).alloc (Nat.le_refl _) _
  have K1:=hide (show Blk w1 w.heap.size 36 [.int .i64 ep,va,vf,vn,.slice adb bs.length cpb,vs,vm] from by rw [<- hw1];exact Blk.new w _ _)
  have HH:=hide (fun (b:Bk) (v:Bv) (V:World) (hV:Below w.heap.size w V) (hr:RdK V b v) (hf:FewK b)=>implHas_any ep va vf vn vs vm adb cpb bs b v V (hB.below hV (Nat.le_refl _)) hl hfb hr hf)
  have HX:Hid (realB bs l=l.all (hasB bs)):=hide rfl
  have IW:=hide (show (Tryz.prog.info? 36).map (·.size)=some ([.int .i64 ep,va,vf,vn,.slice adb bs.length cpb,vs,vm]:List Value).length from infoWd7)
  have HL:=hide hL
  have HF:=hide hfl
  have B1:=hide b1
  obtain ⟨cw,hcw⟩:∃ x,([.int .i64 ep,va,vf,vn,.slice adb bs.length cpb,vs,vm]:List Value)=x:=⟨_,rfl⟩
  have hcw2:(.agg #[.int .i64 ep,va,vf,vn,.slice adb bs.length cpb,vs,vm]:Value)=.agg cw.toArray:=by rw [<- hcw]
  rw [hcw] at K1 IW
  rw [hcw2] at HH ⊢
  rw [show (w.alloc (.cells #[.int .i64 ep,va,vf,vn,.slice adb bs.length cpb,vs,vm] 36))=w.alloc (.cells cw.toArray 36) from by rw [<- hcw]] at hw1
  clear hB hfb hL hfl b1 hcw hcw2
  generalize realB bs l=X at HX ⊢
  go_enter Tryz.func121,Tryz.ntmps121
  go_upto_region 1 with fail
  (try rw [hw1])
  clear hw1
  go_wp2
  go_loopw [9] (fun iv wr=>∃ k:Nat,k<=l.length/\iv=.int .i64 (k:Int)/\(∀ j (h:j < l.length),j < k->hasB bs l[j]=true)/\Below w1.heap.size w1 wr) (fun iv _=>l.length - (intOf iv).toNat)
  case atStart=>exact ⟨0,Nat.zero_le _,rfl,(fun j _ h=>by omega),Below.refl _ _⟩
  case round =>
    obtain ⟨k,hk,rfl,hlo,hb⟩:=hrel
    have Hlo:=hide hlo
    clear hlo
    by_cases hlt:k < l.length
    · obtain ⟨b0,off,rfl,h3,hcell⟩:=HL.out.parts14 (by omega)
      obtain ⟨u,hat,hrl⟩:=hcell k hlt
      have hBr:=B1.out.trans (hb.mono B1.out.size)
      have hz1:=K1.out.lt
      have Hrg:=hide (show wr.rangeAt b0 (off+k * 14) (bkC l[k] u) from fun j x hx=>by
        have hj:j < 14:=(List.getElem?_eq_some_iff.1 hx).1
        exact ((hat.below hBr h3) j hj).trans hx)
      have hrw:=hrl.below hBr (Nat.le_refl _)
      have Hno:Hid (hasB bs l[k]=false->X=false):=hide (fun h=>by rw [HX.out];exact allW_no hlt h)
      have Hyes:Hid (hasB bs l[k]=true->∀ j (h:j < l.length),j < k+1->hasB bs l[j]=true):=hide (fun h j hj hjk=>by
        by_cases e:j=k
        · subst e;exact h
        · exact Hlo.out j hj (by omega))
      have hki:(k:Int) < (l.length:Int):=by omega
      have hk0:(0:Int)<=(k:Int):=by omega
      have zb:Blk (wr.alloc (.cells #[.int .i64 0,.int .i64 0,.int .i64 0,.string { data:=#[] },.int .i64 0,.int .i64 0,.slice none 0 0,.int .i64 0,.slice none 0 0,.slice none 0 0,.slice none 0 0,.bool false,.slice none 0 0,.string { data:=#[] }] 94)) wr.heap.size 94 [.int .i64 0,.int .i64 0,.int .i64 0,.string { data:=#[] },.int .i64 0,.int .i64 0,.slice none 0 0,.int .i64 0,.slice none 0 0,.slice none 0 0,.slice none 0 0,.bool false,.slice none 0 0,.string { data:=#[] }]:=Blk.new wr _ _
      have H1:=hide (show (bkC l[k] u).toArray.all (·.oneCell')=true from by rw [List.all_toArray];exact bkC_one hrw)
      have IE:=hide (show (Tryz.prog.info? 94).map (·.size)=some (bkC l[k] u).length from infoBk14)
      have Hth:=hide (show (wr.alloc (.cells #[.int .i64 0,.int .i64 0,.int .i64 0,.string { data:=#[] },.int .i64 0,.int .i64 0,.slice none 0 0,.int .i64 0,.slice none 0 0,.slice none 0 0,.slice none 0 0,.bool false,.slice none 0 0,.string { data:=#[] }] 94)).there wr.heap.size 0 (bkC l[k] u).toArray.size from zb.there rfl)
      obtain ⟨w3,hw3⟩:∃ x,(wr.alloc (.cells #[.int .i64 0,.int .i64 0,.int .i64 0,.string { data:=#[] },.int .i64 0,.int .i64 0,.slice none 0 0,.int .i64 0,.slice none 0 0,.slice none 0 0,.slice none 0 0,.bool false,.slice none 0 0,.string { data:=#[] }] 94)).setCells wr.heap.size 0 (bkC l[k] u)=x:=⟨_,rfl⟩
      have J3:=hide (show Blk w3 wr.heap.size 94 (bkC l[k] u) from by rw [<- hw3];exact blk_all zb rfl)
      have b3:Below wr.heap.size wr w3:=by rw [<- hw3];exact ((Below.refl _ wr).alloc (Nat.le_refl _) _).trans (putC_below (Nat.le_refl _) _ _ _)
      have HT:=hide (HH.out l[k] u w3 (hBr.trans (b3.mono hBr.size)) (hrw.below b3 (Nat.le_refl _)) (HF.out _ (List.getElem_mem hlt)))
      have RW:=hide (range_below (range_below (blk_range K1.out) hb K1.out.lt) b3 (by have:=hb.size;omega))
      have B3:=hide (hb.trans (b3.mono hb.size))
      rw [show bkV l[k] u=.agg (bkC l[k] u).toArray from rfl] at HT
      have Hw3:=hide hw3
      clear hat hrl hcell hb hrw b3 zb hw3 hBr hz1 Hlo
      generalize hasB bs l[k]=Y at HT Hno Hyes
      generalize bkC l[k] u=cs at Hrg H1 IE Hth Hw3 J3 HT
      have RJ:=hide (blk_range J3.out)
      clear J3
      go_wp2_with (first
        | (refine load_mid 94 _ rfl b0 (off+k * 14) rfl cs _ Hrg.out Tryz.underlying94 rfl IE.out (by rfl) ?_)
        | (refine wpList_store_mid rfl 94 _ _ rfl wr.heap.size 0 cs.toArray rfl rfl Hth.out (by simpa using IE.out) H1.out ?_;rw [Hw3.out])
        | (refine load_mid 36 _ rfl w.heap.size (0) rfl cw _ RW.out Tryz.underlying36 rfl IW.out (by rfl) ?_)
        | (refine load_mid 94 _ rfl wr.heap.size (0) rfl cs _ RJ.out Tryz.underlying94 rfl IE.out (by rfl) ?_)
        | fail)
      refine HT.out.mono ?_
      rintro e w4 ⟨rfl,hb4⟩
      have B4:=hide (B3.out.trans (hb4.mono B3.out.size))
      clear hb4 HT Hrg RW RJ
      cases Y
      · have hn:=Hno.out rfl
        clear Hno Hyes
        go_wp2
        go_ret
        exact ⟨ret_bool hn.symm,B1.out.trans (B4.out.mono B1.out.size)⟩
      · have Hy:=hide (Hyes.out rfl)
        clear Hno Hyes
        go_wp2
        go_roundw
        case rel=>exact ⟨k+1,by omega,by go_num,Hy.out,B4.out⟩
        case measure=>simp [intOf];omega
    · have hf:=hide (show X=true from by rw [HX.out];exact allW_yes (fun j hj=>Hlo.out j hj (by omega)))
      go_wp2
      go_ret
      exact ⟨ret_bool hf.out.symm,B1.out.trans (hb.mono B1.out.size)⟩
theorem specL15Real_any (ep:Int) (va vf vn vs vm:Value) (adb:Option Addr) (cpb:Nat) (bs:List Bk) (al:Option Addr) (cl:Nat) (l:List Bk) (w:World) (hB:RdKs w (.slice adb bs.length cpb) bs) (hl:bs.length<=4000000) (hfb:∀ x ∈ bs,FewK x) (hL:RdKs w (.slice al l.length cl) l) (hll:l.length<=4000000) (hfl:∀ x ∈ l,FewK x) :
    Calls Tryz.prog 58 #[.agg #[.int .i64 ep,va,vf,vn,.slice adb bs.length cpb,vs,vm],.slice al l.length cl] w fun e w'=>e=.returned (.bool (realB bs l))/\Below w.heap.size w w':=by
  obtain ⟨w1,hw1⟩:∃ x,w.alloc (.cells #[.int .i64 ep,va,vf,vn,.slice adb bs.length cpb,vs,vm] 36)=x:=⟨_,rfl⟩
  have b1:Below w.heap.size w w1:=by rw [<- hw1];exact (Below.refl _ w).alloc (Nat.le_refl _) _
  have K1:=hide (show Blk w1 w.heap.size 36 [.int .i64 ep,va,vf,vn,.slice adb bs.length cpb,vs,vm] from by rw [<- hw1];exact Blk.new w _ _)
  have HX:Hid (realB bs l=l.all (hasB bs)):=hide rfl
  have HB:=hide hB
  have HL:=hide hL
  have HF:=hide hfl
  have HFb:=hide hfb
  have B1:=hide b1
  clear hB hfb hL hfl b1
  generalize realB bs l=X at HX ⊢
  go_enter Tryz.func58,Tryz.ntmps58
  go_upto_region 1 with fail
  (try rw [hw1])
  clear hw1
  obtain ⟨M,hM⟩:∃ x,(.agg #[.int .i64 ep,va,vf,vn,.slice adb bs.length cpb,vs,vm]:Value)=x:=⟨_,rfl⟩
  rw [hM]
  clear hM
  go_wp2
  go_loopw [5] (fun iv wr=>∃ k:Nat,k<=l.length/\iv=.int .i64 (k:Int)/\(∀ j (h:j < l.length),j < k->hasB bs l[j]=true)/\Below w1.heap.size w1 wr) (fun iv _=>l.length - (intOf iv).toNat)
  case atStart=>exact ⟨0,Nat.zero_le _,rfl,(fun j _ h=>by omega),Below.refl _ _⟩
  case round =>
    obtain ⟨k,hk,rfl,hlo,hb⟩:=hrel
    have Hlo:=hide hlo
    clear hlo
    by_cases hlt:k < l.length
    · obtain ⟨b0,off,rfl,h3,hcell⟩:=HL.out.parts14 (by omega)
      obtain ⟨u,hat,hrl⟩:=hcell k hlt
      have hBr:=B1.out.trans (hb.mono B1.out.size)
      have hrw:=hrl.below hBr (Nat.le_refl _)
      have Hno:Hid (hasB bs l[k]=false->X=false):=hide (fun h=>by rw [HX.out];exact allW_no hlt h)
      have Hyes:Hid (hasB bs l[k]=true->∀ j (h:j < l.length),j < k+1->hasB bs l[j]=true):=hide (fun h j hj hjk=>by
        by_cases e:j=k
        · subst e;exact h
        · exact Hlo.out j hj (by omega))
      have hki:(k:Int) < (l.length:Int):=by omega
      have hk0:(0:Int)<=(k:Int):=by omega
      have hz1:=K1.out.lt
      have k1:=K1.out.below hb K1.out.lt
      have x4:=k1.cell 4
      simp only [List.getElem?_cons_zero,List.getElem?_cons_succ] at x4
      have y0:=(hat.below hBr h3).cells.1
      have g4:=cell_regrown x4
      have g0:=cell_regrown y0
      have HE:=hide (range_regrown (w:=wr) (b:=b0) (o:=off+k * 14) (cs:=bkC l[k] u) (fun j x hx=>by
        have hj:j < 14:=(List.getElem?_eq_some_iff.1 hx).1
        exact ((hat.below hBr h3) j hj).trans hx) (by have:=hBr.size;omega))
      have IE:=hide (show (Tryz.prog.info? 94).map (·.size)=some (bkC l[k] u).length from infoBk14)
      have HI:=hide (fun (d:Nat) (os:Array Obj)=>sameC_regrown (l1In_any l[k].id 0 ((bs.length:Int) - 1) (grow (redrawn wr d) os)))
      have HS:=hide (fun (x:Bk) (t:Bv) (hx:RdK wr x t) (hfx:FewK x) (d:Nat) (os:Array Obj)=>Calls.regrown_of (specSameBlock_any x l[k] t u (grow (redrawn wr d) os) (hx.below (below_regrown wr d os) (Nat.le_refl _)) (hrw.below (below_regrown wr d os) (Nat.le_refl _)) hfx (HF.out _ (List.getElem_mem hlt))))
      have hwr:IntKind.i64.wrap ((bs.length:Int) - 1)=(bs.length:Int) - 1:=by rw [IntKind.wrap_i64];omega
      have HBr:=hide hBr
      have Hb:=hide hb
      rw [show bkV l[k] u=.agg (bkC l[k] u).toArray from rfl] at HS
      clear hat hrl hcell hb hrw k1 x4 y0 hBr hz1 Hlo
      cases hin:inB l[k].id 0 ((bs.length:Int) - 1)
      · have hn:=Hno.out (hasB_out hin)
        rw [hin] at HI
        clear hin Hno Hyes HS HE IE
        generalize l[k].id=id at g0 HI
        go_wp2
        refine wp_region_quiet_below (by kernel_rfl) (by kernel_rfl) ?_
        (try dsimp only [List.append])
        repeat (first | go_big_quiet_step (first | (go_at_call 68;exact HI.out _ _)))
        refine wpQuiet_nil ?_
        intro _ hw'
        obtain ⟨⟨dq,osq⟩,hw''⟩:=hw'
        subst hw''
        go_wp2
        go_ret
        exact ⟨ret_bool hn.symm,HBr.out.trans ((below_regrown wr dq osq).mono HBr.out.size)⟩
      · obtain ⟨q,hq,hid,hh⟩:=hasB_in hin
        rw [hin] at HI
        obtain ⟨b2,off2,rfl,hlt2,hat2⟩:=HB.out.parts14 (by omega)
        obtain ⟨t,ht,hrt⟩:=hat2 q hq
        have HS:=hide (HS.out bs[q] t (hrt.below HBr.out (Nat.le_refl _)) (HFb.out _ (List.getElem_mem hq)))
        have HR:=hide (range_regrown (w:=wr) (b:=b2) (o:=off2+q * 14) (cs:=bkC bs[q] t) (fun j x hx=>by
          have hj:j < 14:=(List.getElem?_eq_some_iff.1 hx).1
          exact ((ht.below HBr.out hlt2) j hj).trans hx) (by have:=HBr.out.size;omega))
        have IR:=hide (show (Tryz.prog.info? 94).map (·.size)=some (bkC bs[q] t).length from infoBk14)
        have hqi:(q:Int) < (bs.length:Int):=by omega
        have hq0:(0:Int)<=(q:Int):=by omega
        rw [show bkV bs[q] t=.agg (bkC bs[q] t).toArray from rfl] at HS
        rw [hh] at Hno Hyes
        rw [hid] at g0 HI
        clear hin hh hat2 ht hrt hid
        generalize sb9 bs[q] l[k]=Y at HS Hno Hyes
        generalize bkC bs[q] t=ds at HS HR IR
        generalize bkC l[k] u=cs at HS HE IE
        cases Y
        · have hn:=Hno.out rfl
          clear Hno Hyes
          go_wp2
          refine wp_region_quiet_below (by kernel_rfl) (by kernel_rfl) ?_
          (try dsimp only [List.append])
          repeat (first | (refine quiet_load_mid 94 _ rfl b2 (off2+q * 14) rfl ds _ HR.out Tryz.underlying94 rfl IR.out (by rfl) ?_;change wpQuiet _ _ _ _ _ (Act.put _ (some 32) _);simp only [Act.put,List.setIfInBounds_toArray,List.set_cons_zero,List.set_cons_succ]) | (refine quiet_load_mid 94 _ rfl b0 (off+k * 14) rfl cs _ HE.out Tryz.underlying94 rfl IE.out (by rfl) ?_;change wpQuiet _ _ _ _ _ (Act.put _ (some 36) _);simp only [Act.put,List.setIfInBounds_toArray,List.set_cons_zero,List.set_cons_succ]) | go_big_quiet_step (first | (go_at_call 68;exact HI.out _ _) | (go_at_call 113;exact HS.out _ _)))
          refine wpQuiet_nil ?_
          intro _ hw'
          obtain ⟨⟨dq,osq⟩,hw''⟩:=hw'
          subst hw''
          go_wp2
          go_ret
          exact ⟨ret_bool hn.symm,HBr.out.trans ((below_regrown wr dq osq).mono HBr.out.size)⟩
        · have Hy:=hide (Hyes.out rfl)
          clear Hno Hyes
          go_wp2
          refine wp_region_quiet_below (by kernel_rfl) (by kernel_rfl) ?_
          (try dsimp only [List.append])
          repeat (first | (refine quiet_load_mid 94 _ rfl b2 (off2+q * 14) rfl ds _ HR.out Tryz.underlying94 rfl IR.out (by rfl) ?_;change wpQuiet _ _ _ _ _ (Act.put _ (some 32) _);simp only [Act.put,List.setIfInBounds_toArray,List.set_cons_zero,List.set_cons_succ]) | (refine quiet_load_mid 94 _ rfl b0 (off+k * 14) rfl cs _ HE.out Tryz.underlying94 rfl IE.out (by rfl) ?_;change wpQuiet _ _ _ _ _ (Act.put _ (some 36) _);simp only [Act.put,List.setIfInBounds_toArray,List.set_cons_zero,List.set_cons_succ]) | go_big_quiet_step (first | (go_at_call 68;exact HI.out _ _) | (go_at_call 113;exact HS.out _ _)))
          refine wpQuiet_nil ?_
          intro _ hw'
          obtain ⟨⟨dq,osq⟩,hw''⟩:=hw'
          subst hw''
          go_wp2
          go_roundw
          case rel=>exact ⟨k+1,by omega,by go_num,Hy.out,Hb.out.trans ((below_regrown wr dq osq).mono Hb.out.size)⟩
          case measure=>simp [intOf];omega
    · have hf:=hide (show X=true from by rw [HX.out];exact allW_yes (fun j hj=>Hlo.out j hj (by omega)))
      go_wp2
      go_ret
      exact ⟨ret_bool hf.out.symm,B1.out.trans (hb.mono B1.out.size)⟩
end Go.Proofs.YtckahjabljffjaaGreat
namespace Go.Proofs.YtckahjabljffjaaGreat
open Go.RowKit Go.Sort
set_option linter.unusedVariables false
theorem infoNd20:(Tryz.prog.info? 75).map (·.size)=some 20:=by kernel_rfl
theorem RdNs.at20 {w:World} {a:Option Addr} {cap n:Nat} {l:List Nd} (h:RdNs w (.slice a n cap) l) (hl:0 < l.length):∃ b off,a=some ⟨b,off,none⟩/\b < w.heap.size/\∀ i (h:i < l.length),∃ u,w.rangeAt b (off+i * 20) (noC l[i] u)/\RdNd w l[i] u:=by
  obtain ⟨Z,rfl,h⟩:=h
  rcases h with ⟨a',cap',e,rfl,hn⟩ | ⟨b,off,cap',h0,e,h1,h2,h3,h4⟩
  · simp at hl
  · simp only [Value.slice.injEq] at e
    refine ⟨b,off,e.1,h3,fun i hi=>?_⟩
    have hi':i < Z.length:=by simpa using hi
    refine ⟨Z[i].2,?_,?_⟩
    · simpa using (h4 i hi').1
    · simpa using (h4 i hi').2
theorem atB_yes {ns:List Nd} {s:ByteArray} {k:Nat} (hk:k < ns.length) (h:ns[k].nm=s):atB ns s=true:=anyW_yes hk (by simp [h])
theorem atB_no {ns:List Nd} {s:ByteArray} (h:∀ j (hj:j < ns.length),ns[j].nm ≠ s):atB ns s=false:=anyW_no (fun j hj=>by simp [h j hj])
theorem placeAsk_any (n:Nd) (u:Nv) (s:ByteArray) (B:Nat) (w:World) (hB:w.cell? ⟨B,0,none⟩=some (.string s)) :
    Calls Tryz.prog 183 #[noV n u,.pointer (some ⟨B,0,none⟩)] w fun e w'=>e=.returned (.bool (decide (n.nm=s)))/\Below w.heap.size w w':=by
  obtain ⟨w1,hw1⟩:∃ x,w.alloc (.cells (noC n u).toArray 75)=x:=⟨_,rfl⟩
  have b1:Below w.heap.size w w1:=by rw [<- hw1];exact (Below.refl _ w).alloc (Nat.le_refl _) _
  have k1:Blk w1 w.heap.size 75 (noC n u):=by rw [<- hw1];exact Blk.new w _ _
  have x0:=(blk_range k1) 0 (.string n.nm) rfl
  rw [Nat.add_zero] at x0
  have e0:=(b1.cell (p:=⟨B,0,none⟩) (World.block_lt_of_cell? w _ hB)).trans hB
  have B1:=hide b1
  rw [show noV n u=.agg (noC n u).toArray from rfl]
  clear b1 k1 hB
  generalize noC n u=cs at hw1 ⊢
  generalize n.nm=t at x0 ⊢
  by_cases h:t=s
  · subst h
    rw [decide_eq_true rfl]
    go_enter Tryz.func183,Tryz.ntmps183
    go_upto_region 1 with fail
    (try rw [hw1])
    clear hw1
    go_wp2
    go_ret
    exact ⟨by first | rfl | simp,B1.out⟩
  · have hq:=bytes_ne h
    rw [decide_eq_false h]
    clear h
    go_enter Tryz.func183,Tryz.ntmps183
    go_upto_region 1 with fail
    (try rw [hw1])
    clear hw1
    go_wp2
    go_ret
    exact ⟨by first | rfl | simp,B1.out⟩
theorem placeFind_any (adn:Option Addr) (cpn:Nat) (ns:List Nd) (s:ByteArray) (B:Nat) (w:World) (hN:RdNs w (.slice adn ns.length cpn) ns) (hl:ns.length<=4000000) (hB:w.cell? ⟨B,0,none⟩=some (.string s)) :
    Calls Tryz.prog 182 #[.slice adn ns.length cpn,.func (.func 183) #[] #[.pointer (some ⟨B,0,none⟩)]] w fun e w'=>∃ i:Int,e=.returned (.int .i64 i)/\atB ns s=decide (0<=i)/\Below w.heap.size w w':=by
  have HN:=hide hN
  have HB:=hide hB
  have hBl:=World.block_lt_of_cell? w _ hB
  clear hN hB
  go_enter Tryz.func182,Tryz.ntmps182
  go_wp2
  go_loopw [8] (fun iv wr=>∃ k:Nat,k<=ns.length/\iv=.int .i64 (k:Int)/\(∀ j (h:j < ns.length),j < k->ns[j].nm ≠ s)/\Below w.heap.size w wr) (fun iv _=>ns.length - (intOf iv).toNat)
  case atStart=>exact ⟨0,Nat.zero_le _,rfl,(fun j _ h=>by omega),Below.refl _ _⟩
  case round =>
    obtain ⟨k,hk,rfl,hlo,hb⟩:=hrel
    have Hlo:=hide hlo
    clear hlo
    by_cases hlt:k < ns.length
    · obtain ⟨b0,off,rfl,h3,hcell⟩:=HN.out.at20 (by omega)
      obtain ⟨u,hat,-⟩:=hcell k hlt
      have Hrg:=hide (range_below hat hb h3)
      have IE:=hide (show (Tryz.prog.info? 75).map (·.size)=some (noC ns[k] u).length from infoNd20)
      have HC:=hide (placeAsk_any ns[k] u s B wr ((hb.cell (p:=⟨B,0,none⟩) hBl).trans HB.out))
      have hki:(k:Int) < (ns.length:Int):=by omega
      have hk0:(0:Int)<=(k:Int):=by omega
      have Hno:Hid (ns[k].nm ≠ s->∀ j (h:j < ns.length),j < k+1->ns[j].nm ≠ s):=hide (fun h j hj hjk=>by
        by_cases e:j=k
        · subst e;exact h
        · exact Hlo.out j hj (by omega))
      have Hyes:Hid (ns[k].nm=s->atB ns s=true):=hide (fun h=>atB_yes hlt h)
      have Hb:=hide hb
      rw [show noV ns[k] u=.agg (noC ns[k] u).toArray from rfl] at HC
      clear hat hcell Hlo hb
      generalize noC ns[k] u=cs at HC Hrg IE
      generalize ns[k].nm=t at HC Hno Hyes
      by_cases h:t=s
      · have hy:=hide (Hyes.out h)
        rw [decide_eq_true h] at HC
        clear Hno Hyes h
        go_wp2_with (first
          | (refine load_mid 75 _ rfl b0 (off+k * 20) rfl cs _ Hrg.out Tryz.underlying75 rfl IE.out (by rfl) ?_)
          | fail)
        refine HC.out.mono ?_
        rintro e w2 ⟨rfl,hb2⟩
        go_wp2
        go_ret
        exact ⟨_,rfl,by rw [hy.out,decide_eq_true (by omega)],Hb.out.trans (hb2.mono Hb.out.size)⟩
      · have hn:=hide (Hno.out h)
        rw [decide_eq_false h] at HC
        clear Hno Hyes h
        go_wp2_with (first
          | (refine load_mid 75 _ rfl b0 (off+k * 20) rfl cs _ Hrg.out Tryz.underlying75 rfl IE.out (by rfl) ?_)
          | fail)
        refine HC.out.mono ?_
        rintro e w2 ⟨rfl,hb2⟩
        go_wp2
        go_roundw
        case rel=>exact ⟨k+1,by omega,by go_num,hn.out,Hb.out.trans (hb2.mono Hb.out.size)⟩
        case measure=>simp [intOf];omega
    · have hf:=hide (atB_no (ns:=ns) (s:=s) (fun j hj=>Hlo.out j hj (by omega)))
      go_wp2
      go_ret
      exact ⟨-1,rfl,by rw [hf.out];rfl,hb⟩
theorem implPlaceOf_any (ep:Int) (va vf vb vs vm:Value) (adn:Option Addr) (cpn:Nat) (ns:List Nd) (s:ByteArray) (w:World) (hN:RdNs w (.slice adn ns.length cpn) ns) (hl:ns.length<=4000000) :
    Calls Tryz.prog 122 #[.agg #[.int .i64 ep,va,vf,.slice adn ns.length cpn,vb,vs,vm],.string s] w fun e w'=>∃ i:Int,e=.returned (.int .i64 i)/\atB ns s=decide (0<=i)/\Below w.heap.size w w':=by
  have hmf:∀ (fn:Fn) (first cap:Array Value) (w:World),(Instr.makeFunc fn first cap).run Tryz.prog w=.ok (.func fn first cap) w:=fun _ _ _ _=>rfl
  obtain ⟨w1,hw1⟩:∃ x,w.alloc (.cells #[.int .i64 ep,va,vf,.slice adn ns.length cpn,vb,vs,vm] 36)=x:=⟨_,rfl⟩
  obtain ⟨w2,hw2⟩:∃ x,w1.alloc (.cells #[.string s] 9)=x:=⟨_,rfl⟩
  have b1:Below w.heap.size w w1:=by rw [<- hw1];exact (Below.refl _ w).alloc (Nat.le_refl _) _
  have s1:w1.heap.size=w.heap.size+1:=by rw [<- hw1];simp
  have b2:Below w1.heap.size w1 w2:=by rw [<- hw2];exact (Below.refl _ w1).alloc (Nat.le_refl _) _
  have b02:=b1.trans (b2.mono b1.size)
  have k1:Blk w2 w.heap.size 36 [.int .i64 ep,va,vf,.slice adn ns.length cpn,vb,vs,vm]:=(show Blk w1 w.heap.size 36 [.int .i64 ep,va,vf,.slice adn ns.length cpn,vb,vs,vm] from by rw [<- hw1];exact Blk.new w _ _).below b2 (by omega)
  have k2:Blk w2 (w.heap.size+1) 9 [.string s]:=by rw [<- hw2,<- s1];exact Blk.new w1 _ _
  have x3:=k1.cell 3
  have y0:=k2.cell 0
  simp only [List.getElem?_cons_zero,List.getElem?_cons_succ] at x3
  simp only [List.getElem?_cons_zero] at y0
  have HF:=hide (placeFind_any adn cpn ns s (w.heap.size+1) w2 (hN.below b02 (Nat.le_refl _)) hl y0)
  have B2:=hide b02
  clear hN b1 b2 b02 k1 k2 y0
  go_enter Tryz.func122,Tryz.ntmps122
  go_upto_region 1 with fail
  (try rw [hw1])
  (try rw [hw2])
  clear hw1 hw2
  go_wp2_with fail
  refine HF.out.mono ?_
  rintro e w3 ⟨i,rfl,hi,hb3⟩
  have Hi:=hide hi
  clear hi
  go_wp2
  go_ret
  exact ⟨i,rfl,Hi.out,B2.out.trans (hb3.mono B2.out.size)⟩
end Go.Proofs.YtckahjabljffjaaGreat
