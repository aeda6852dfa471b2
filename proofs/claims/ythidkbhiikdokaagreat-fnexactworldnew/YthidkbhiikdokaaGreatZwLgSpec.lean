/- The model's ledgers that are right, and copies of them. -/
import Derived.Test.YthidkbhiikdokaaGreatZwLgVal
set_option maxRecDepth 20000
set_option maxHeartbeats 1000000
namespace Go.Proofs.YthidkbhiikdokaaGreat
open Go.RowKit Go.ChangeShapes Go.WideShapes
set_option linter.unusedVariables false
section
variable {H:Type} {enc:TypeId × Value->H} {w:World} {base:Nat} {spare:Nat->Bool} {held:Bool}
theorem open_ledger {fuel:Nat} {cs:List Value} {x:DataW H × List MemPlace} (h:DataW.trod enc Tryz.prog w base spare held fuel 24 cs=some x) :
    ∃ (e:Int) (v:Value) (l:List Ac),cs=[.int .i64 e,v]/\RdA w v l/\l.length<=maxLen/\∀ q ∈ l,q.1.size<=maxLen/\q.2.2.2.2.length<=maxLen:=by
  obtain ⟨xs,n,_,_,hlen,hxl,hf⟩:=DataW.trod_struct Tryz.underlying24 h
  have h5:cs.length=2:=hlen.trans (by kernel_rfl)
  have hx5:xs.length=2:=hxl
  match cs,h5,xs,hx5 with
  | [c0,c1],_,[y0,y1],_ =>
    have ki:Tryz.prog.cellsOf 3=1:=by kernel_rfl
    have kl:Tryz.prog.cellsOf 22=1:=by kernel_rfl
    have g0:DataW.trod enc Tryz.prog w base spare held n 3 [c0]=some y0:=by
      have e:=hf 0 _ rfl
      change DataW.trod enc Tryz.prog w base spare held n 3 (List.take (Tryz.prog.cellsOf 3) [c0,c1])=some y0 at e
      rw [ki] at e
      exact e
    have g1:DataW.trod enc Tryz.prog w base spare held n 22 [c1]=some y1:=by
      have e:=hf 1 _ rfl
      change DataW.trod enc Tryz.prog w base spare held n 22 (List.take (Tryz.prog.cellsOf 22) [c1])=some y1 at e
      rw [kl] at e
      exact e
    obtain ⟨z0,e0,_⟩:=DataW.trod_int Tryz.underlying3 g0
    have hsl:∃ a len cap,c1=.slice a len cap:=by
      rcases Deep.open_slice Tryz.underlying22 g1 with ⟨hcs,_⟩ | ⟨ad,len',cap',m,n',D,Pl,hcs,_⟩
      · simp only [List.cons.injEq,and_true] at hcs;exact ⟨_,_,_,hcs⟩
      · simp only [List.cons.injEq,and_true] at hcs;exact ⟨_,_,_,hcs⟩
    obtain ⟨a,len,cap,rfl⟩:=hsl
    obtain ⟨l,rfl,hr,hl,hq⟩:=open_accS g1
    simp only [List.cons.injEq,and_true] at e0
    subst e0
    exact ⟨z0,_,l,rfl,hr,hl,hq⟩
end
end Go.Proofs.YthidkbhiikdokaaGreat
namespace Go.Proofs.YthidkbhiikdokaaGreat
open Go.RowKit
set_option linter.unusedVariables false
def lgB (e:Int) (l:List Ac):Bool:=inB e 0 900 && acsB l
theorem specLedgerOk_any (e:Int) (v:Value) (l:List Ac) (w:World) (hr:RdA w v l) (hl:l.length<=4000000) (hall:∀ a ∈ l,a.1.size<=maxLen/\a.2.2.2.2.length<=4000000) :
    Calls Tryz.prog 18 #[lgV e v] w fun en w'=>en=.returned (.bool (lgB e l))/\Below w.heap.size w w':=by
  obtain ⟨a1,cv1,rfl⟩:=hr.shape
  simp only [lgV] at *
  have hb3:Below w.heap.size w (w.alloc (.cells #[.int .i64 e,.slice a1 l.length cv1] 30)):=(Below.refl _ w).alloc (Nat.le_refl _) _
  have HE:=hide (specAcctsOk_any _ l _ (hr.below hb3 (Nat.le_refl _)) hl hall)
  have Hb3:=hide hb3
  have Hx:Hid (lgB e l=(inB e 0 900 && acsB l)):=hide rfl
  clear hb3 hr hall
  generalize lgB e l=X at Hx
  generalize acsB l=A at Hx HE
  cases h0:inB e 0 900
  · rw [h0,Bool.false_and] at Hx
    go_enter Tryz.func18,Tryz.ntmps18
    go_wp2_with (go_at_call 47;refine (l1In_any _ _ _ _).mono ?_;rintro en w1 ⟨rfl,rfl⟩)
    go_ret
    exact ⟨ret_bool Hx.out.symm,Hb3.out⟩
  · rw [h0,Bool.true_and] at Hx
    go_enter Tryz.func18,Tryz.ntmps18
    go_wp2_with (first
      | (go_at_call 47;refine (l1In_any _ _ _ _).mono ?_;rintro en w1 ⟨rfl,rfl⟩)
      | (go_at_call 48;refine HE.out.mono ?_;rintro en w2 ⟨rfl,hb2⟩))
    go_ret
    exact ⟨ret_bool Hx.out.symm,Hb3.out.trans (hb2.mono Hb3.out.size)⟩
theorem keep2 {W:World} {B G:Nat} {x y u v:Value} (h:W.cell? ⟨B,0,none⟩=some x/\W.cell? ⟨B,1,none⟩=some y) (hne:B ≠ G):((W.setCell ⟨G,0,none⟩ u).setCell ⟨G,1,none⟩ v).cell? ⟨B,0,none⟩=some x/\((W.setCell ⟨G,0,none⟩ u).setCell ⟨G,1,none⟩ v).cell? ⟨B,1,none⟩=some y:=by
  have e:((W.setCell ⟨G,0,none⟩ u).setCell ⟨G,1,none⟩ v).heap[B]?=W.heap[B]?:=by
    rw [heap_setCell_other _ ⟨G,1,none⟩ B _ hne,heap_setCell_other _ ⟨G,0,none⟩ B _ hne]
  exact ⟨(World.cell?_of_block e).trans h.1,(World.cell?_of_block e).trans h.2⟩
theorem specL6Copy_any (e:Int) (v:Value) (l:List Ac) (w:World) (hr:RdA w v l) (hl:l.length<=4000000) (hall:∀ a ∈ l,a.2.2.2.2.length<=4000000) :
    Calls Tryz.prog 20 #[lgV e v] w fun en w'=>∃ v',en=.returned (lgV e v')/\OwnA w.heap.size w' v' l/\Below w.heap.size w w':=by
  obtain ⟨a1,cv1,rfl⟩:=hr.shape
  simp only [lgV] at *
  obtain ⟨w2,hw2⟩:∃ w2,(w.alloc (.cells #[.int .i64 e,.slice a1 l.length cv1] 30)).alloc (.cells #[.int .i64 0,.slice none 0 0] 30)=w2:=⟨_,rfl⟩
  have hb2:Below w.heap.size w w2.drew:=by rw [<- hw2];exact (((Below.refl _ w).alloc (Nat.le_refl _) _).alloc (by simp) _).drew
  have hs2:w2.heap.size=w.heap.size+2:=by rw [<- hw2];simp
  have kA:Blk w2 w.heap.size 30 [.int .i64 e,.slice a1 l.length cv1]:=by
    rw [<- hw2]
    exact (Blk.new w 30 [.int .i64 e,.slice a1 l.length cv1]).below ((Below.refl (w.heap.size+1) _).alloc (by simp) _) (by omega)
  have kR:Blk w2 (w.heap.size+1) 30 [.int .i64 0,.slice none 0 0]:=by
    rw [<- hw2]
    have h:=Blk.new (w.alloc (.cells #[.int .i64 e,.slice a1 l.length cv1] 30)) 30 [.int .i64 0,.slice none 0 0]
    simp only [World.size_alloc] at h
    exact h
  have HC:=hide (specCopy_any _ l w2.drew (hr.below hb2 (Nat.le_refl _)) hl hall)
  have hS2:w2.drew.cell? ⟨w.heap.size,0,none⟩=some (.int .i64 e)/\w2.drew.cell? ⟨w.heap.size,1,none⟩=some (.slice a1 l.length cv1):=⟨kA.cell 0,kA.cell 1⟩
  have Hb2:=hide hb2
  have KA:Hid (Blk w2.drew w.heap.size 30 [.int .i64 e,.slice a1 l.length cv1]):=hide kA
  have KR:Hid (Blk w2.drew (w.heap.size+1) 30 [.int .i64 0,.slice none 0 0]):=hide kR
  have hs3:w2.drew.heap.size=w.heap.size+2:=hs2
  clear hr hb2 kA kR
  go_enter Tryz.func20,Tryz.ntmps20
  go_wp2
  go_region_held_law (fun w'=>w'.cell? ⟨w.heap.size,0,none⟩=some (.int .i64 e)/\w'.cell? ⟨w.heap.size,1,none⟩=some (.slice a1 l.length cv1)) (first | exact hS2 | exact hS4 | exact keep2 hS4 (by omega)) ((go_at_call 50;refine HC.out.mono ?_;rintro en w4 ⟨v4,rfl,ho4,hb4⟩;have KA4:=KA.out.below hb4 (by omega);have KR4:=KR.out.below hb4 (by omega);have hS4:w4.cell? ⟨w.heap.size,0,none⟩=some (.int .i64 e)/\w4.cell? ⟨w.heap.size,1,none⟩=some (.slice a1 l.length cv1):=⟨KA4.cell 0,KA4.cell 1⟩;have r0:w4.cell? ⟨w.heap.size+1,0,none⟩=some (.int .i64 0):=KR4.cell 0;have r1:w4.cell? ⟨w.heap.size+1,1,none⟩=some (.slice none 0 0):=KR4.cell 1;have q0:=KR4.frozen 0;have q1:=KR4.frozen 1;have hsh:=ho4.rd.shape;obtain ⟨a4,cv4,hv4⟩:=hsh;subst hv4))
  have Ho:=hide (((ho4.older (g:=w.heap.size+1) (by omega) 0 (.int .i64 e)).older (g:=w.heap.size+1) (by omega) 1 (.slice a4 l.length cv4)).mono (show w.heap.size<=_ by omega))
  have HB:=hide (((Hb2.out.trans (hb4.mono Hb2.out.size)).setCell (p:=⟨w.heap.size+1,0,none⟩) (show w.heap.size<=w.heap.size+1 by omega) (.int .i64 e)).setCell (p:=⟨w.heap.size+1,1,none⟩) (show w.heap.size<=w.heap.size+1 by omega) (.slice a4 l.length cv4))
  clear ho4 hb4 KA4
  go_wp2
  refine bodyPost_ret (v:=.agg #[.int .i64 e,.slice a4 l.length cv4]) (by simp [results,Tryz.f20,go_sem,r0,r1]) rfl ?_
  exact ⟨_,rfl,Ho.out,HB.out⟩
end Go.Proofs.YthidkbhiikdokaaGreat
