/- What the next epoch makes of accounts, and what leaves with one more as the landed code puts it (plain facts). -/
import Derived.Test.YthehfkafcdociaaGreatDoorZyLgVal
set_option maxRecDepth 20000
set_option maxHeartbeats 1000000
namespace Go.Proofs.YthehfkafcdociaaGreatDoor
open Go.RowKit
set_option linter.unusedVariables false
def lgB (e:Int) (l:List Ac):Bool:=inB e 0 900 && acsB l
theorem specLedgerOk_any (e:Int) (v:Value) (l:List Ac) (w:World) (hr:RdA w v l) (hl:l.length<=4000000) (hall:∀ a ∈ l,a.1.size<=maxLen/\a.2.2.2.2.length<=4000000) :
    Calls Tryz.prog 54 #[lgV e v] w fun en w'=>en=.returned (.bool (lgB e l))/\Below w.heap.size w w':=by
  obtain ⟨a1,cv1,rfl⟩:=hr.shape
  simp only [lgV] at *
  have hb3:Below w.heap.size w (w.alloc (.cells #[.int .i64 e,.slice a1 l.length cv1] 36)):=(Below.refl _ w).alloc (Nat.le_refl _) _
  have HE:=hide (specAcctsOk_any _ l _ (hr.below hb3 (Nat.le_refl _)) hl hall)
  have Hb3:=hide hb3
  have Hx:Hid (lgB e l=(inB e 0 900 && acsB l)):=hide rfl
  clear hb3 hr hall
  generalize lgB e l=X at Hx
  generalize acsB l=A at Hx HE
  cases h0:inB e 0 900
  · rw [h0,Bool.false_and] at Hx
    go_enter Tryz.func54,Tryz.ntmps54
    go_wp2_with (go_at_call 23;refine (l1In_any _ _ _ _).mono ?_;rintro en w1 ⟨rfl,rfl⟩)
    go_ret
    exact ⟨ret_bool Hx.out.symm,Hb3.out⟩
  · rw [h0,Bool.true_and] at Hx
    go_enter Tryz.func54,Tryz.ntmps54
    go_wp2_with (first
      | (go_at_call 23;refine (l1In_any _ _ _ _).mono ?_;rintro en w1 ⟨rfl,rfl⟩)
      | (go_at_call 91;refine HE.out.mono ?_;rintro en w2 ⟨rfl,hb2⟩))
    go_ret
    exact ⟨ret_bool Hx.out.symm,Hb3.out.trans (hb2.mono Hb3.out.size)⟩
theorem keep2 {W:World} {B G:Nat} {x y u v:Value} (h:W.cell? ⟨B,0,none⟩=some x/\W.cell? ⟨B,1,none⟩=some y) (hne:B ≠ G):((W.setCell ⟨G,0,none⟩ u).setCell ⟨G,1,none⟩ v).cell? ⟨B,0,none⟩=some x/\((W.setCell ⟨G,0,none⟩ u).setCell ⟨G,1,none⟩ v).cell? ⟨B,1,none⟩=some y:=by
  have e:((W.setCell ⟨G,0,none⟩ u).setCell ⟨G,1,none⟩ v).heap[B]?=W.heap[B]?:=by
    rw [heap_setCell_other _ ⟨G,1,none⟩ B _ hne,heap_setCell_other _ ⟨G,0,none⟩ B _ hne]
  exact ⟨(World.cell?_of_block e).trans h.1,(World.cell?_of_block e).trans h.2⟩
theorem specL6Copy_any (e:Int) (v:Value) (l:List Ac) (w:World) (hr:RdA w v l) (hl:l.length<=4000000) (hall:∀ a ∈ l,a.2.2.2.2.length<=4000000) :
    Calls Tryz.prog 22 #[lgV e v] w fun en w'=>∃ v',en=.returned (lgV e v')/\OwnA w.heap.size w' v' l/\Below w.heap.size w w':=by
  obtain ⟨a1,cv1,rfl⟩:=hr.shape
  simp only [lgV] at *
  obtain ⟨w2,hw2⟩:∃ w2,(w.alloc (.cells #[.int .i64 e,.slice a1 l.length cv1] 36)).alloc (.cells #[.int .i64 0,.slice none 0 0] 36)=w2:=⟨_,rfl⟩
  have hb2:Below w.heap.size w w2.drew:=by rw [<- hw2];exact (((Below.refl _ w).alloc (Nat.le_refl _) _).alloc (by simp) _).drew
  have hs2:w2.heap.size=w.heap.size+2:=by rw [<- hw2];simp
  have kA:Blk w2 w.heap.size 36 [.int .i64 e,.slice a1 l.length cv1]:=by
    rw [<- hw2]
    exact (Blk.new w 36 [.int .i64 e,.slice a1 l.length cv1]).below ((Below.refl (w.heap.size+1) _).alloc (by simp) _) (by omega)
  have kR:Blk w2 (w.heap.size+1) 36 [.int .i64 0,.slice none 0 0]:=by
    rw [<- hw2]
    have h:=Blk.new (w.alloc (.cells #[.int .i64 e,.slice a1 l.length cv1] 36)) 36 [.int .i64 0,.slice none 0 0]
    simp only [World.size_alloc] at h
    exact h
  have HC:=hide (specCopy_any _ l w2.drew (hr.below hb2 (Nat.le_refl _)) hl hall)
  have hS2:w2.drew.cell? ⟨w.heap.size,0,none⟩=some (.int .i64 e)/\w2.drew.cell? ⟨w.heap.size,1,none⟩=some (.slice a1 l.length cv1):=⟨kA.cell 0,kA.cell 1⟩
  have Hb2:=hide hb2
  have KA:Hid (Blk w2.drew w.heap.size 36 [.int .i64 e,.slice a1 l.length cv1]):=hide kA
  have KR:Hid (Blk w2.drew (w.heap.size+1) 36 [.int .i64 0,.slice none 0 0]):=hide kR
  have hs3:w2.drew.heap.size=w.heap.size+2:=hs2
  clear hr hb2 kA kR
  go_enter Tryz.func22,Tryz.ntmps22
  go_wp2
  go_region_held_law (fun w'=>w'.cell? ⟨w.heap.size,0,none⟩=some (.int .i64 e)/\w'.cell? ⟨w.heap.size,1,none⟩=some (.slice a1 l.length cv1)) (first | exact hS2 | exact hS4 | exact keep2 hS4 (by omega)) ((go_at_call 52;refine HC.out.mono ?_;rintro en w4 ⟨v4,rfl,ho4,hb4⟩;have KA4:=KA.out.below hb4 (by omega);have KR4:=KR.out.below hb4 (by omega);have hS4:w4.cell? ⟨w.heap.size,0,none⟩=some (.int .i64 e)/\w4.cell? ⟨w.heap.size,1,none⟩=some (.slice a1 l.length cv1):=⟨KA4.cell 0,KA4.cell 1⟩;have r0:w4.cell? ⟨w.heap.size+1,0,none⟩=some (.int .i64 0):=KR4.cell 0;have r1:w4.cell? ⟨w.heap.size+1,1,none⟩=some (.slice none 0 0):=KR4.cell 1;have q0:=KR4.frozen 0;have q1:=KR4.frozen 1;have hsh:=ho4.rd.shape;obtain ⟨a4,cv4,hv4⟩:=hsh;subst hv4))
  have Ho:=hide (((ho4.older (g:=w.heap.size+1) (by omega) 0 (.int .i64 e)).older (g:=w.heap.size+1) (by omega) 1 (.slice a4 l.length cv4)).mono (show w.heap.size<=_ by omega))
  have HB:=hide (((Hb2.out.trans (hb4.mono Hb2.out.size)).setCell (p:=⟨w.heap.size+1,0,none⟩) (show w.heap.size<=w.heap.size+1 by omega) (.int .i64 e)).setCell (p:=⟨w.heap.size+1,1,none⟩) (show w.heap.size<=w.heap.size+1 by omega) (.slice a4 l.length cv4))
  clear ho4 hb4 KA4
  go_wp2
  refine bodyPost_ret (v:=.agg #[.int .i64 e,.slice a4 l.length cv4]) (by simp [results,Tryz.f22,go_sem,r0,r1]) rfl ?_
  exact ⟨_,rfl,Ho.out,HB.out⟩
def frF (e z:Int) (l:List (Int × Int)):Int:=l.foldl (fun s x=>if x.2<=e then wrap64 (s+x.1) else s) z
def stL (e:Int) (l:List (Int × Int)):List (Int × Int):=l.filter (fun x=>decide (e < x.2))
theorem frF_snoc (e z:Int) (l:List (Int × Int)) (k:Nat) (h:k < l.length):frF e z (l.take (k+1))=if l[k].2<=e then wrap64 (frF e z (l.take k)+l[k].1) else frF e z (l.take k):=by
  unfold frF
  rw [List.take_succ_eq_append_getElem h,List.foldl_append]
  rfl
theorem stL_snoc (e:Int) (l:List (Int × Int)) (k:Nat) (h:k < l.length):stL e (l.take (k+1))=if l[k].2<=e then stL e (l.take k) else stL e (l.take k) ++ [l[k]]:=by
  unfold stL
  rw [List.take_succ_eq_append_getElem h,List.filter_append]
  by_cases hh:l[k].2<=e
  · rw [if_pos hh,List.filter_cons_of_neg (by simp;omega),List.filter_nil,List.append_nil]
  · rw [if_neg hh,List.filter_cons_of_pos (by simp;omega),List.filter_nil]
theorem stL_len (e:Int) (l:List (Int × Int)):(stL e l).length<=l.length:=List.length_filter_le _ _
def frA (e:Int) (a:Ac):Ac:=(a.1,frF e a.2.1 a.2.2.2.2,a.2.2.1,a.2.2.2.1,stL e a.2.2.2.2)
def neA (e:Int) (l:List Ac):Int × List Ac:=if (lgB e l && lgB (wrap64 (e+1)) (l.map (frA (wrap64 (e+1)))))=true then (wrap64 (e+1),l.map (frA (wrap64 (e+1)))) else (e,l)
theorem neA_old {e:Int} {l:List Ac} (h:lgB e l=false):neA e l=(e,l):=by unfold neA;rw [h];rfl
theorem neA_new {e:Int} {l:List Ac} (h:lgB (wrap64 (e+1)) (l.map (frA (wrap64 (e+1))))=false):neA e l=(e,l):=by unfold neA;rw [h,Bool.and_false];rfl
theorem neA_yes {e:Int} {l:List Ac} (h:lgB e l=true) (h':lgB (wrap64 (e+1)) (l.map (frA (wrap64 (e+1))))=true):neA e l=(wrap64 (e+1),l.map (frA (wrap64 (e+1)))):=by unfold neA;rw [h,h'];rfl
theorem frA_len (e:Int) (a:Ac):(frA e a).2.2.2.2.length<=a.2.2.2.2.length:=stL_len _ _
theorem fr_all (e:Int) (l:List Ac) (h:∀ a ∈ l,a.1.size<=maxLen/\a.2.2.2.2.length<=4000000):∀ a ∈ l.map (frA e),a.1.size<=maxLen/\a.2.2.2.2.length<=4000000:=by
  intro a ha
  obtain ⟨b,hb,rfl⟩:=List.mem_map.1 ha
  exact ⟨(h b hb).1,Nat.le_trans (frA_len e b) (h b hb).2⟩
def frK (e:Int) (l:List Ac) (k:Nat):List Ac:=(l.take k).map (frA e) ++ l.drop k
theorem frK_zero (e:Int) (l:List Ac):frK e l 0=l:=by simp [frK]
theorem frK_all (e:Int) (l:List Ac):frK e l l.length=l.map (frA e):=by simp [frK]
theorem frK_len (e:Int) (l:List Ac) (k:Nat):(frK e l k).length=l.length:=by simp [frK];omega
theorem frK_at (e:Int) (l:List Ac) (k:Nat) (h:k < l.length):(frK e l k)[k]'(by rw [frK_len];exact h)=l[k]:=by
  unfold frK
  rw [List.getElem_append_right (by simp;omega),List.getElem_drop]
  congr 1
  simp
  omega
theorem frK_next (e:Int) (l:List Ac) (k:Nat) (h:k < l.length):(frK e l k).set k (frA e l[k])=frK e l (k+1):=by
  unfold frK
  rw [List.take_succ_eq_append_getElem h,List.map_append,List.append_assoc,List.set_append_right _ _ (by simp;omega),show k - ((l.take k).map (frA e)).length=0 from by simp;omega,List.drop_eq_getElem_cons h]
  rfl
end Go.Proofs.YthehfkafcdociaaGreatDoor
