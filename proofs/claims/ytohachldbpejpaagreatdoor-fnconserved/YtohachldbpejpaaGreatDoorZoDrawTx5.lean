/- Drawn orders. -/
import Derived.Test.YtohachldbpejpaaGreatDoorZoNames
set_option maxRecDepth 20000
set_option maxHeartbeats 2000000
namespace Go.Proofs.YtohachldbpejpaaGreatDoor
open Go.RowKit
set_option linter.unusedVariables false
abbrev Tx5:=Int × ByteArray × ByteArray × Int × Int
def txV (t:Tx5):Value:=.agg #[.int .i64 t.1,.string t.2.1,.string t.2.2.1,.int .i64 t.2.2.2.1,.int .i64 t.2.2.2.2]
def txB (t:Tx5):Bool:=nmB t.2.1 && (inB t.2.2.2.1 1 1000000 && (inB t.2.2.2.2 0 10000 && (if t.1=1 then nmB t.2.2.1 else (inB t.1 2 3 && decide (t.2.2.1=ByteArray.empty)))))
def lessT (a b:Tx5):Bool :=
  if a.2.1 ≠ b.2.1 then Op.bytesLess a.2.1.toList b.2.1.toList
  else if a.2.2.2.2 ≠ b.2.2.2.2 then decide (a.2.2.2.2 < b.2.2.2.2)
  else if a.1 ≠ b.1 then decide (a.1 < b.1)
  else if a.2.2.1 ≠ b.2.2.1 then Op.bytesLess a.2.2.1.toList b.2.2.1.toList
  else decide (a.2.2.2.1 < b.2.2.2.1)
def szT (t:Tx5) (m:Int):Int:=if m - t.2.1.size < 0 then -1 else if m - t.2.1.size - t.2.2.1.size < 0 then -1 else m - t.2.1.size - t.2.2.1.size
theorem blk_notg5 {w w':World} {B g:Nat} {t:TypeId} {cs:List Value} (h:Blk w B t cs) (hg:w.grownBy w' (some g)) (hne:B ≠ g):Blk w' B t cs :=
  (hg.block B h.lt (fun e=>hne (by injection e))).trans h
theorem below_put5 (W:World) (b:Nat) (y0 y1 y2 y3 y4:Value):Below b W (((((W.setCell ⟨b,0,none⟩ y0).setCell ⟨b,1,none⟩ y1).setCell ⟨b,2,none⟩ y2).setCell ⟨b,3,none⟩ y3).setCell ⟨b,4,none⟩ y4) :=
  (((((Below.refl _ W).setCell (p:=⟨b,0,none⟩) (Nat.le_refl _) _).setCell (p:=⟨b,1,none⟩) (Nat.le_refl _) _).setCell (p:=⟨b,2,none⟩) (Nat.le_refl _) _).setCell (p:=⟨b,3,none⟩) (Nat.le_refl _) _).setCell (p:=⟨b,4,none⟩) (Nat.le_refl _) _
def SmT (t:Tx5):Prop:=t.2.1.size<=9/\t.2.2.1.size<=9/\(-10000000<=t.1/\t.1<=10000000)/\(-10000000<=t.2.2.2.1/\t.2.2.2.1<=10000000)/\(-10000000<=t.2.2.2.2/\t.2.2.2.2<=10000000)
def DrT (w0 w:World) (g:Nat) (cv:Value) (code:List UInt8) (e:Ending) (w':World):Prop:=∃ t:Tx5,e=.returned (txV t)/\SmT t/\Cur w0 w' g cv code/\w.grownBy w' (some g)
theorem l5Tx_any (w0 w:World) (g:Nat) (cv:Value) (code:List UInt8) (hc:Cur w0 w g cv code) (hl:code.length<=1048576) :
    Calls Tryz.prog 160 #[.pointer (some ⟨g,0,none⟩)] w fun e w'=>DrT w0 w g cv code e w':=by
  have hgl:=hc.lt
  obtain ⟨w1,hw1⟩:∃ w1,w.alloc (.cells #[.int .i64 0,.string { data:=#[] },.string { data:=#[] },.int .i64 0,.int .i64 0] 35)=w1:=⟨_,rfl⟩
  have hb1:Below w.heap.size w w1:=by rw [<- hw1];exact (Below.refl _ w).alloc (Nat.le_refl _) _
  have hs1:w1.heap.size=w.heap.size+1:=by rw [<- hw1];simp
  have K1:Hid (Blk w1 w.heap.size 35 [.int .i64 0,.string { data:=#[] },.string { data:=#[] },.int .i64 0,.int .i64 0]):=hide (by rw [<- hw1];exact Blk.new w _ _)
  have Hc1:=hide (hc.below hb1 hgl)
  have HG1:=hide (grw_of_below (some g) hb1 (Nat.le_refl _))
  clear hc hb1
  go_enter Tryz.func160,Tryz.ntmps160
  go_wp2_with fail
  refine (l1Below_any w0 _ g cv code 3 Hc1.out hl (by omega) (by omega)).mono ?_
  rintro e w2 ⟨x,rfl,hx,-,hc2,hg2⟩
  have hx3:(x:Int) < 3:=hx (by omega)
  have K2:=hide (blk_notg5 K1.out hg2 (by omega))
  have HG2:=hide (grw_trans HG1.out hg2)
  have hs2:=hg2.size
  clear hg2 hx K1 HG1 Hc1
  go_wp2_with fail
  refine (l1Name_any w0 _ g cv code hc2 hl).mono ?_
  rintro e w3 ⟨f,rfl,hf9,hc3,hg3⟩
  have K3:=hide (blk_notg5 K2.out hg3 (by omega))
  have HG3:=hide (grw_trans HG2.out hg3)
  have hs3:=hg3.size
  obtain ⟨w4,hw4⟩:∃ w4,w3.alloc (.cells #[.int .i64 1,.int .i64 5,.int .i64 10,.int .i64 3,.int .i64 200] 3)=w4:=⟨_,rfl⟩
  have hb4:Below w3.heap.size w3 w4:=by rw [<- hw4];exact (Below.refl _ w3).alloc (Nat.le_refl _) _
  have HI4:Hid (IntsAt w4 w3.heap.size [1,5,10,3,200]):=hide (by rw [<- hw4];exact ints_new w3 [1,5,10,3,200] 3)
  have Hc4:=hide (hc3.below hb4 hc3.lt)
  have K4:=hide (K3.out.below hb4 (by omega))
  have HG4:=hide (grw_trans HG3.out (grw_of_below (some g) hb4 (Nat.le_refl _)))
  have hs4:=hb4.size
  clear hc2 hc3 hg3 hb4 K2 K3 HG2 HG3
  go_wp2_with fail
  refine (l1Int_any w0 _ g w3.heap.size cv code [1,5,10,3,200] Hc4.out hl HI4.out (by omega) (by simp) (by simp) 5).mono ?_
  rintro e w5 ⟨am,rfl,ham,hc5,hg5⟩
  have hamb:0<=am/\am<=200:=by simp at ham;omega
  have K5:=hide (blk_notg5 K4.out hg5 (by omega))
  have HG5:=hide (grw_trans HG4.out hg5)
  have hs5:=hg5.size
  clear ham hg5 K4 HG4 Hc4 HI4
  go_wp2_with fail
  refine (l1Below_any w0 _ g cv code 4 hc5 hl (by omega) (by omega)).mono ?_
  rintro e w6 ⟨no,rfl,hno,-,hc6,hg6⟩
  have hno4:(no:Int) < 4:=hno (by omega)
  have hk6:=blk_notg5 K5.out hg6 (by omega)
  have hG6:=grw_trans HG5.out hg6
  have hs6:=hg6.size
  have hT7:=Blk.new w6 35 [.int .i64 (1+(x:Int)),.string f,.string { data:=#[] },.int .i64 am,.int .i64 (no:Int)]
  have hb7:Below w6.heap.size w6 (w6.alloc (.cells #[.int .i64 (1+(x:Int)),.string f,.string { data:=#[] },.int .i64 am,.int .i64 (no:Int)] 35)):=(Below.refl _ w6).alloc (Nat.le_refl _) _
  have hk7:=hk6.below hb7 (by omega)
  have Hc7:=hide (hc6.below hb7 hc6.lt)
  have HG7:=hide (grw_trans hG6 (grw_of_below (some g) hb7 (Nat.le_refl _)))
  clear hc5 hg6 hno K5 HG5 hc6 hG6 hk6 hb7
  by_cases hx0:x=0
  · subst hx0
    have HK:=hide hk7
    have HT:=hide hT7
    clear hk7 hT7
    go_wp2_with fail
    refine (l1Name_any w0 _ g cv code Hc7.out hl).mono ?_
    rintro e w8 ⟨tO,rfl,ht9,hc8,hg8⟩
    have hk7:=blk_notg5 HK.out hg8 (by omega)
    have hT7:=blk_notg5 HT.out hg8 (by omega)
    have HG8:=hide (grw_trans HG7.out hg8)
    have Hc8:=hide hc8
    have hs8:=hg8.size
    clear HK HT HG7 Hc7 hc8 hg8
    have r0:=hk7.cell 0
    have fr0:=hk7.frozen 0
    have r1:=hk7.cell 1
    have fr1:=hk7.frozen 1
    have r2:=hk7.cell 2
    have fr2:=hk7.frozen 2
    have r3:=hk7.cell 3
    have fr3:=hk7.frozen 3
    have r4:=hk7.cell 4
    have fr4:=hk7.frozen 4
    have t0:=hT7.cell 0
    have ft0:=hT7.frozen 0
    have t1:=hT7.cell 1
    have ft1:=hT7.frozen 1
    have t2:=hT7.cell 2
    have ft2:=hT7.frozen 2
    have t3:=hT7.cell 3
    have ft3:=hT7.frozen 3
    have t4:=hT7.cell 4
    have ft4:=hT7.frozen 4
    simp only [List.getElem?_cons_zero,List.getElem?_cons_succ] at r0 r1 r2 r3 r4 t0 t1 t2 t3 t4
    go_wp2
    refine bodyPost_ret (v:=txV (1,f,tO,am,(no:Int))) (by simp [results,Tryz.f160,go_sem,txV,r0,r1,r2,r3,r4]) rfl ?_
    have hbR:=((Below.refl w.heap.size w8).setCell (p:=⟨w6.heap.size,2,none⟩) (show w.heap.size<=w6.heap.size by omega) (.string tO)).trans (below_put5 (w8.setCell ⟨w6.heap.size,2,none⟩ (.string tO)) w.heap.size (.int .i64 1) (.string f) (.string tO) (.int .i64 am) (.int .i64 (no:Int)))
    exact ⟨(1,f,tO,am,(no:Int)),rfl,by unfold SmT;simp only;omega,Hc8.out.below hbR hgl,grw_below HG8.out hbR (Nat.le_refl _)⟩
  · have hne:((1+(x:Int)) == 1)=false:=by rw [beq_eq_false_iff_ne];omega
    have r0:=hk7.cell 0
    have fr0:=hk7.frozen 0
    have r1:=hk7.cell 1
    have fr1:=hk7.frozen 1
    have r2:=hk7.cell 2
    have fr2:=hk7.frozen 2
    have r3:=hk7.cell 3
    have fr3:=hk7.frozen 3
    have r4:=hk7.cell 4
    have fr4:=hk7.frozen 4
    have t0:=hT7.cell 0
    have ft0:=hT7.frozen 0
    have t1:=hT7.cell 1
    have ft1:=hT7.frozen 1
    have t2:=hT7.cell 2
    have ft2:=hT7.frozen 2
    have t3:=hT7.cell 3
    have ft3:=hT7.frozen 3
    have t4:=hT7.cell 4
    have ft4:=hT7.frozen 4
    simp only [List.getElem?_cons_zero,List.getElem?_cons_succ] at r0 r1 r2 r3 r4 t0 t1 t2 t3 t4
    go_wp2
    refine bodyPost_ret (v:=txV (1+(x:Int),f,ByteArray.empty,am,(no:Int))) (by simp [results,Tryz.f160,go_sem,txV,r0,r1,r2,r3,r4];rfl) rfl ?_
    have hbR:=below_put5 (w6.alloc (.cells #[.int .i64 (1+(x:Int)),.string f,.string { data:=#[] },.int .i64 am,.int .i64 (no:Int)] 35)) w.heap.size (.int .i64 (1+(x:Int))) (.string f) (.string { data:=#[] }) (.int .i64 am) (.int .i64 (no:Int))
    exact ⟨(1+(x:Int),f,ByteArray.empty,am,(no:Int)),rfl,by unfold SmT;simp only [ByteArray.size_empty];omega,Hc7.out.below hbR hgl,grw_below HG7.out hbR (Nat.le_refl _)⟩
end Go.Proofs.YtohachldbpejpaaGreatDoor
