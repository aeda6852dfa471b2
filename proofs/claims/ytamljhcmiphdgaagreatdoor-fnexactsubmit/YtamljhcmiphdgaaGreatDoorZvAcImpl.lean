/- The landed code's contracts of chapter 4. -/
import Derived.Test.YtamljhcmiphdgaaGreatDoorZvNdTo
set_option maxRecDepth 20000
set_option maxHeartbeats 2000000
namespace Go.Proofs.YtamljhcmiphdgaaGreatDoor
open Go.RowKit
set_option linter.unusedVariables false
def lgB (e:Int) (l:List Ac):Bool:=inB e 0 900 && acsB l
theorem cM_ (e:Int) (v:Value) (l:List Ac) (w:World) (hr:RdA w v l) (hl:l.length<=4000000) (hall:∀ a ∈ l,a.1.size<=maxLen/\a.2.2.2.2.length<=4000000) :
  Calls Tryz.prog 83 #[lgV e v] w fun en w'=>en=.returned (.bool (lgB e l))/\Below w.heap.size w w':=by
 obtain ⟨a1,cv1,rfl⟩:=hr.shape
 simp only [lgV] at *
 have hb3:Below w.heap.size w (w.alloc (.cells #[.int .i64 e,.slice a1 l.length cv1] 45)):=(br_ _ w).alloc (nr_ _) _
 have HE:=a_ (dp_ _ l _ (hr.below hb3 (nr_ _)) hl hall)
 have Hb3:=a_ hb3
 have Hx:Hid (lgB e l=(inB e 0 900 && acsB l)):=a_ rfl
 clear hb3 hr hall
 generalize lgB e l=X at Hx
 generalize acsB l=A at Hx HE
 cases h0:inB e 0 900
 ·rw [h0,Bool.false_and] at Hx
  go_enter Tryz.func83,Tryz.ntmps83
  go_wp2_with (go_at_call 87;refine (d_ _ _ _ _).mono ?_;rintro en w1 ⟨rfl,rfl⟩)
  go_ret
  exact ⟨b_ Hx.out.symm,Hb3.out⟩
 ·rw [h0,Bool.true_and] at Hx
  go_enter Tryz.func83,Tryz.ntmps83
  go_wp2_with (first
   | (go_at_call 87;refine (d_ _ _ _ _).mono ?_;rintro en w1 ⟨rfl,rfl⟩)
   | (go_at_call 124;refine HE.out.mono ?_;rintro en w2 ⟨rfl,hb2⟩))
  go_ret
  exact ⟨b_ Hx.out.symm,Hb3.out.trans (hb2.mono Hb3.out.size)⟩
theorem keep2 {W:World} {B G:Nat} {x y u v:Value} (h:W.cell? ⟨B,0,none⟩=some x/\W.cell? ⟨B,1,none⟩=some y) (hne:B ≠ G):((W.setCell ⟨G,0,none⟩ u).setCell ⟨G,1,none⟩ v).cell? ⟨B,0,none⟩=some x/\((W.setCell ⟨G,0,none⟩ u).setCell ⟨G,1,none⟩ v).cell? ⟨B,1,none⟩=some y:=by
 have e:((W.setCell ⟨G,0,none⟩ u).setCell ⟨G,1,none⟩ v).heap[B]?=W.heap[B]?:=by
  rw [heap_setCell_other _ ⟨G,1,none⟩ B _ hne,heap_setCell_other _ ⟨G,0,none⟩ B _ hne]
 exact ⟨(World.cell?_of_block e).trans h.1,(World.cell?_of_block e).trans h.2⟩
theorem dB_ (e:Int) (v:Value) (l:List Ac) (w:World) (hr:RdA w v l) (hl:l.length<=4000000) (hall:∀ a ∈ l,a.2.2.2.2.length<=4000000) :
  Calls Tryz.prog 77 #[lgV e v] w fun en w'=>∃ v',en=.returned (lgV e v')/\OwnA w.heap.size w' v' l/\Below w.heap.size w w':=by
 obtain ⟨a1,cv1,rfl⟩:=hr.shape
 simp only [lgV] at *
 obtain ⟨w2,hw2⟩:∃ w2,(w.alloc (.cells #[.int .i64 e,.slice a1 l.length cv1] 45)).alloc (.cells #[.int .i64 0,.slice none 0 0] 45)=w2:=⟨_,rfl⟩
 have hb2:Below w.heap.size w w2.drew:=by rw [<- hw2];exact (((br_ _ w).alloc (nr_ _) _).alloc (by simp) _).drew
 have hs2:w2.heap.size=w.heap.size+2:=by rw [<- hw2];simp
 have kA:Blk w2 w.heap.size 45 [.int .i64 e,.slice a1 l.length cv1]:=by
  rw [<- hw2]
  exact (Blk.new w 45 [.int .i64 e,.slice a1 l.length cv1]).below ((br_ (w.heap.size+1) _).alloc (by simp) _) (by omega)
 have kR:Blk w2 (w.heap.size+1) 45 [.int .i64 0,.slice none 0 0]:=by
  rw [<- hw2]
  have h:=Blk.new (w.alloc (.cells #[.int .i64 e,.slice a1 l.length cv1] 45)) 45 [.int .i64 0,.slice none 0 0]
  simp only [World.size_alloc] at h
  exact h
 have HC:=a_ (gg_ _ l w2.drew (hr.below hb2 (nr_ _)) hl hall)
 have hS2:w2.drew.cell? ⟨w.heap.size,0,none⟩=some (.int .i64 e)/\w2.drew.cell? ⟨w.heap.size,1,none⟩=some (.slice a1 l.length cv1):=⟨kA.cell 0,kA.cell 1⟩
 have Hb2:=a_ hb2
 have KA:Hid (Blk w2.drew w.heap.size 45 [.int .i64 e,.slice a1 l.length cv1]):=a_ kA
 have KR:Hid (Blk w2.drew (w.heap.size+1) 45 [.int .i64 0,.slice none 0 0]):=a_ kR
 have hs3:w2.drew.heap.size=w.heap.size+2:=hs2
 clear hr hb2 kA kR
 go_enter Tryz.func77,Tryz.ntmps77
 go_wp2
 go_region_held_law (fun w'=>w'.cell? ⟨w.heap.size,0,none⟩=some (.int .i64 e)/\w'.cell? ⟨w.heap.size,1,none⟩=some (.slice a1 l.length cv1)) (first | exact hS2 | exact hS4 | exact keep2 hS4 (by omega)) ((go_at_call 122;refine HC.out.mono ?_;rintro en w4 ⟨v4,rfl,ho4,hb4⟩;have KA4:=KA.out.below hb4 (by omega);have KR4:=KR.out.below hb4 (by omega);have hS4:w4.cell? ⟨w.heap.size,0,none⟩=some (.int .i64 e)/\w4.cell? ⟨w.heap.size,1,none⟩=some (.slice a1 l.length cv1):=⟨KA4.cell 0,KA4.cell 1⟩;have r0:w4.cell? ⟨w.heap.size+1,0,none⟩=some (.int .i64 0):=KR4.cell 0;have r1:w4.cell? ⟨w.heap.size+1,1,none⟩=some (.slice none 0 0):=KR4.cell 1;have q0:=KR4.frozen 0;have q1:=KR4.frozen 1;have hsh:=ho4.rd.shape;obtain ⟨a4,cv4,hv4⟩:=hsh;subst hv4))
 have Ho:=a_ (((ho4.older (g:=w.heap.size+1) (by omega) 0 (.int .i64 e)).older (g:=w.heap.size+1) (by omega) 1 (.slice a4 l.length cv4)).mono (show w.heap.size<=_ by omega))
 have HB:=a_ (((Hb2.out.trans (hb4.mono Hb2.out.size)).setCell (p:=⟨w.heap.size+1,0,none⟩) (show w.heap.size<=w.heap.size+1 by omega) (.int .i64 e)).setCell (p:=⟨w.heap.size+1,1,none⟩) (show w.heap.size<=w.heap.size+1 by omega) (.slice a4 l.length cv4))
 clear ho4 hb4 KA4
 go_wp2
 refine bodyPost_ret (v:=.agg #[.int .i64 e,.slice a4 l.length cv4]) (by simp [results,Tryz.f77,go_sem,r0,r1]) rfl ?_
 exact ⟨_,rfl,Ho.out,HB.out⟩
theorem t_ (x a b:Int) (w:World) :
  Calls Tryz.prog 162 #[.int .i64 x,.int .i64 a,.int .i64 b] w fun e w'=>e=.returned (.bool (inB x a b))/\w'=w:=by
 by_cases h1:a<=x
 ·by_cases h2:x<=b
  ·have e:Hid (inB x a b=true):=a_ (by simp [inB,h1,h2])
   go_enter Tryz.func162,Tryz.ntmps162
   go_wp2
   go_ret
   rw [e.out];exact ⟨rfl,rfl⟩
  ·have e:Hid (inB x a b=false):=a_ (by simp [inB,h1,h2])
   go_enter Tryz.func162,Tryz.ntmps162
   go_wp2
   go_ret
   rw [e.out];exact ⟨rfl,rfl⟩
 ·have e:Hid (inB x a b=false):=a_ (by simp [inB,h1])
  go_enter Tryz.func162,Tryz.ntmps162
  go_wp2
  go_ret
  rw [e.out];exact ⟨rfl,rfl⟩
theorem cO_ (lv:Value) (ls:List (Int × Int)) (w:World) (hr:RdL w lv ls) (hl:ls.length<=4000000) :
  Calls Tryz.prog 196 #[lv] w fun e w'=>e=.returned (.bool (decide (ls.length<=4) && lvsB ls))/\Below w.heap.size w w':=by
 have Hr':=a_ hr
 obtain ⟨av,cv,rfl⟩:=hr.shape
 clear hr
 by_cases e4:ls.length<=4
 ·have Hac:Hid ((decide (ls.length<=4) && lvsB ls)=lvsB ls):=a_ (by rw [decide_eq_true e4,Bool.true_and])
  have e4i:(ls.length:Int)<=4:=by omega
  go_enter Tryz.func196,Tryz.ntmps196
  go_wp2
  go_loopw [10] (fun i wr=>∃ k:Nat,k<=ls.length/\i=.int .i64 k/\(∀ j,j < k->lvAt ls j=true)/\Below w.heap.size w wr) (fun i _=>ls.length - (intOf i).toNat)
  case atStart=>exact ⟨0,Nat.zero_le _,rfl,fun j hj=>by omega,br_ _ _⟩
  case round =>
   obtain ⟨k,hkl,rfl,hok,hb⟩:=hrel
   have Hok:=a_ hok
   clear hok
   by_cases hlt:k < ls.length
   ·have hrr:=Hr'.out
    rcases hrr with ⟨_,_,_,e,_⟩ | ⟨b,off,cap,h0,hv,h1,h2,h3,h4⟩
    ·subst e;simp at hlt
    injection hv with ha _ hcap
    subst ha hcap
    have hc1:=(hb.cell (p:=⟨b,off+k * 2,none⟩) h3).trans (h4 k hlt).1
    have hc2:=(hb.cell (p:=⟨b,off+k * 2+1,none⟩) h3).trans (h4 k hlt).2
    have hli:(k:Int) < (ls.length:Int):=by omega
    have hbb:b < wr.heap.size:=Nat.lt_of_lt_of_le h3 hb.size
    have Hno:=a_ (iF_ ls k hlt)
    have Hnx:Hid (lvAt ls k=true->∀ j,j < k+1->lvAt ls j=true):=a_ (fun h j hj=>by
     by_cases e:j=k
     ·subst e;exact h
     ·exact Hok.out j (by omega))
    have Hat:Hid (lvAt ls k=(inB ls[k].1 1 1000000 && (inB ls[k].2 0 1000 && (decide (k=0) || decide ((ls.getD (k - 1) (0,0)).2 < ls[k].2))))):=a_ (by unfold lvAt;rw [List.getD_eq_getElem?_getD,List.getElem?_eq_getElem hlt];rfl)
    have Hpr:Hid (0 < k->wr.cell? ⟨b,off+(k - 1) * 2+1,none⟩=some (.int .i64 (ls.getD (k - 1) (0,0)).2)):=a_ (fun h=>by
     have:=(hb.cell (p:=⟨b,off+(k - 1) * 2+1,none⟩) h3).trans (h4 (k - 1) (by omega)).2
     rw [List.getD_eq_getElem?_getD,List.getElem?_eq_getElem (show k - 1 < ls.length by omega)]
     exact this)
    clear h4 Hok
    generalize ls[k]=p at hc1 hc2 Hat
    obtain ⟨x,y⟩:=p
    simp only at hc1 hc2 Hat
    by_cases q1:inB x 1 1000000=true
    ·by_cases q2:inB y 0 1000=true
     ·rw [q1,q2,Bool.true_and,Bool.true_and] at Hat
      cases k with
      | zero =>
       rw [show decide (0=0)=true from rfl,Bool.true_or] at Hat
       rw [Nat.zero_mul,Nat.add_zero] at hc1 hc2
       have Hnx:=a_ (Hnx.out Hat.out)
       clear Hat Hno Hpr
       go_wp2
       go_quiet ((go_at_call 162;exact Calls.quiet_of_same (t_ _ _ _ _)))
       go_wp2
       go_roundw
       case rel=>exact ⟨0+1,by omega,by go_num,Hnx.out,below_drewN (hb.alloc hb.size _) _⟩
       case measure=>simp [intOf];omega
      | succ j =>
       rw [show decide (j+1=0)=false from rfl,Bool.false_or] at Hat
       have hpr:=Hpr.out (by omega)
       rw [show j+1 - 1=j from by omega] at hpr Hat
       generalize (ls.getD j (0,0)).2=z at hpr Hat
       by_cases q3:z < y
       ·rw [decide_eq_true q3] at Hat
        have Hnx:=a_ (Hnx.out Hat.out)
        clear Hat Hno Hpr
        go_wp2
        go_quiet ((go_at_call 162;exact Calls.quiet_of_same (t_ _ _ _ _)))
        go_wp2
        go_roundw
        case rel=>exact ⟨j+1+1,by omega,by go_num,Hnx.out,below_drewN (hb.alloc hb.size _) _⟩
        case measure=>simp [intOf];omega
       ·rw [decide_eq_false q3] at Hat
        have Hno:=a_ (Hac.out.trans (Hno.out Hat.out))
        clear Hat Hnx Hpr
        go_wp2
        go_quiet ((go_at_call 162;exact Calls.quiet_of_same (t_ _ _ _ _)))
        go_wp2
        go_ret
        exact ⟨b_ Hno.out.symm,below_drewN (hb.alloc hb.size _) _⟩
     ·have q2:inB y 0 1000=false:=by simpa using q2
      rw [q1,q2,Bool.true_and,Bool.false_and] at Hat
      have Hno:=a_ (Hac.out.trans (Hno.out Hat.out))
      clear Hat Hnx Hpr
      go_wp2
      go_quiet ((go_at_call 162;exact Calls.quiet_of_same (t_ _ _ _ _)))
      go_wp2
      go_ret
      exact ⟨b_ Hno.out.symm,below_drewN (hb.alloc hb.size _) _⟩
    ·have q1:inB x 1 1000000=false:=by simpa using q1
     rw [q1,Bool.false_and] at Hat
     have Hno:=a_ (Hac.out.trans (Hno.out Hat.out))
     clear Hat Hnx Hpr
     go_wp2
     go_quiet ((go_at_call 162;exact Calls.quiet_of_same (t_ _ _ _ _)))
     go_wp2
     go_ret
     exact ⟨b_ Hno.out.symm,below_drewN (hb.alloc hb.size _) _⟩
   ·have Hy:=a_ (Hac.out.trans (hj_ ls (fun j hj=>Hok.out j (by omega))))
    go_wp2
    go_ret
    exact ⟨b_ Hy.out.symm,hb⟩
 ·have Hac:Hid ((decide (ls.length<=4) && lvsB ls)=false):=a_ (by rw [decide_eq_false e4,Bool.false_and])
  have e4i:(4:Int) < (ls.length:Int):=by omega
  clear e4
  go_enter Tryz.func196,Tryz.ntmps196
  go_wp2
  go_ret
  exact ⟨b_ Hac.out.symm,br_ _ _⟩
theorem dX_ (a:Ac) (lv:Value) (w:World) (hr:RdL w lv a.2.2.2.2) (hn:a.1.size<=maxLen) (hl:a.2.2.2.2.length<=4000000) :
  Calls Tryz.prog 188 #[acV a lv] w fun e w'=>e=.returned (.bool (acB a))/\Below w.heap.size w w':=by
 obtain ⟨nm,fr,no,st,ls⟩:=a
 have HB:=a_ ((br_ _ w).alloc (nr_ _) (.cells #[.string nm,.int .i64 fr,.int .i64 no,.int .i64 st,lv] 186))
 have hk:=Blk.new w 186 [.string nm,.int .i64 fr,.int .i64 no,.int .i64 st,lv]
 have Hr:=a_ (hr.below HB.out (nr_ _))
 obtain ⟨av,cv,rfl⟩:=hr.shape
 clear hr
 simp only [acV] at *
 obtain ⟨w0,hw0⟩:∃ w0,w.alloc (.cells #[.string nm,.int .i64 fr,.int .i64 no,.int .i64 st,.slice av ls.length cv] 186)=w0:=⟨_,rfl⟩
 have hk':Blk w0 w.heap.size 186 [.string nm,.int .i64 fr,.int .i64 no,.int .i64 st,.slice av ls.length cv]:=by rw [<- hw0];exact hk
 have HB':Hid (Below w.heap.size w w0):=a_ (by rw [<- hw0];exact HB.out)
 have HL:Hid (Calls Tryz.prog 196 #[.slice av ls.length cv] w0 fun e w'=>e=.returned (.bool (decide (ls.length<=4) && lvsB ls))/\Below w0.heap.size w0 w'):=a_ (cO_ _ ls w0 (by rw [<- hw0];exact Hr.out) hl)
 have hlt0:=hk'.lt
 have k0:=hk'.cell 0
 have k1:=hk'.cell 1
 have k2:=hk'.cell 2
 have k3:=hk'.cell 3
 have k4:=hk'.cell 4
 simp only [gz_,gs_] at k0 k1 k2 k3 k4
 clear hk HB Hr
 have Hac:Hid (acB (nm,fr,no,st,ls)=(nmB nm && (inB fr 0 1000000 && (inB no 0 10000 && (inB st 0 1000000 && (decide (ls.length<=4) && lvsB ls)))))):=a_ rfl
 generalize (decide (ls.length<=4) && lvsB ls)=L at HL Hac
 generalize acB (nm,fr,no,st,ls)=X at Hac
 by_cases e0:nmB nm=true
 ·by_cases e1:inB fr 0 1000000=true
  ·by_cases e2:inB no 0 10000=true
   ·by_cases e3:inB st 0 1000000=true
    ·rw [e0,e1,e2,e3] at Hac
     simp only [Bool.true_and] at Hac
     go_enter Tryz.func188,Tryz.ntmps188
     go_wp2_with (first
      | (go_at_call 133;refine (m_ nm _ hn).mono ?_;rintro e w0 ⟨rfl,rfl⟩)
      | (go_at_call 162;refine (t_ _ _ _ _).mono ?_;rintro e w0 ⟨rfl,rfl⟩)
      | (go_at_call 196;refine HL.out.mono ?_;rintro e w2 ⟨rfl,hb2⟩))
     go_ret
     exact ⟨b_ Hac.out.symm,HB'.out.trans (hb2.mono HB'.out.size)⟩
    ·have e3:inB st 0 1000000=false:=by simpa using e3
     rw [e0,e1,e2,e3] at Hac
     simp only [Bool.true_and,Bool.false_and] at Hac
     go_enter Tryz.func188,Tryz.ntmps188
     go_wp2_with (first
      | (go_at_call 133;refine (m_ nm _ hn).mono ?_;rintro e w0 ⟨rfl,rfl⟩)
      | (go_at_call 162;refine (t_ _ _ _ _).mono ?_;rintro e w0 ⟨rfl,rfl⟩))
     go_ret
     exact ⟨b_ Hac.out.symm,HB'.out⟩
   ·have e2:inB no 0 10000=false:=by simpa using e2
    rw [e0,e1,e2] at Hac
    simp only [Bool.true_and,Bool.false_and] at Hac
    go_enter Tryz.func188,Tryz.ntmps188
    go_wp2_with (first
     | (go_at_call 133;refine (m_ nm _ hn).mono ?_;rintro e w0 ⟨rfl,rfl⟩)
     | (go_at_call 162;refine (t_ _ _ _ _).mono ?_;rintro e w0 ⟨rfl,rfl⟩))
    go_ret
    exact ⟨b_ Hac.out.symm,HB'.out⟩
  ·have e1:inB fr 0 1000000=false:=by simpa using e1
   rw [e0,e1] at Hac
   simp only [Bool.true_and,Bool.false_and] at Hac
   go_enter Tryz.func188,Tryz.ntmps188
   go_wp2_with (first
    | (go_at_call 133;refine (m_ nm _ hn).mono ?_;rintro e w0 ⟨rfl,rfl⟩)
    | (go_at_call 162;refine (t_ _ _ _ _).mono ?_;rintro e w0 ⟨rfl,rfl⟩))
   go_ret
   exact ⟨b_ Hac.out.symm,HB'.out⟩
 ·have e0:nmB nm=false:=by simpa using e0
  rw [e0] at Hac
  simp only [Bool.false_and] at Hac
  go_enter Tryz.func188,Tryz.ntmps188
  go_wp2_with (first
   | (go_at_call 133;refine (m_ nm _ hn).mono ?_;rintro e w0 ⟨rfl,rfl⟩)
   | (go_at_call 162;refine (t_ _ _ _ _).mono ?_;rintro e w0 ⟨rfl,rfl⟩))
  go_ret
  exact ⟨b_ Hac.out.symm,HB'.out⟩
end Go.Proofs.YtamljhcmiphdgaaGreatDoor
