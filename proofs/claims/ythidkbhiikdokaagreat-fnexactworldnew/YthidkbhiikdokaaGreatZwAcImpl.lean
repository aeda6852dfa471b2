/- The landed code's contracts of chapter 4. -/
import Derived.Test.YthidkbhiikdokaaGreatZwVsMark
import Derived.Test.YthidkbhiikdokaaGreatZwCtVal
import Derived.Test.YthidkbhiikdokaaGreatZwRowS
import Derived.Deep.MidRow
set_option maxRecDepth 20000
set_option maxHeartbeats 2000000
namespace Go.Proofs.YthidkbhiikdokaaGreat
open Go.RowKit
set_option linter.unusedVariables false
def ndC (nm:ByteArray) (e:Int) (va vs:Value) (rd hb:Int):List Value:=[.string nm,.int .i64 e,.int .i64 e,va,vs,.slice none 0 0,.int .i64 rd,.int .i64 0,.int .i64 0,.int .i64 hb,.slice none 0 0,.int .i64 0,.slice none 0 0,.slice none 0 0,.int .i64 0,.slice none 0 0,.slice none 0 0,.slice none 0 0,.slice none 0 0,.slice none 0 0]
def ndV (nm:ByteArray) (e:Int) (va vs:Value) (rd hb:Int):Value:=.agg #[.string nm,.int .i64 e,.int .i64 e,va,vs,.slice none 0 0,.int .i64 rd,.int .i64 0,.int .i64 0,.int .i64 hb,.slice none 0 0,.int .i64 0,.slice none 0 0,.slice none 0 0,.int .i64 0,.slice none 0 0,.slice none 0 0,.slice none 0 0,.slice none 0 0,.slice none 0 0]
theorem blk20a {W:World} {B:Nat} {t:TypeId} {u0 u1 u2 u3 u4 z0 z1 z2 z3 z4 z5 z6 z7 z8 z9 z10 z11 z12 z13 z14 z15 z16 z17 z18 z19:Value} (h:Blk W B t [z0,z1,z2,z3,z4,z5,z6,z7,z8,z9,z10,z11,z12,z13,z14,z15,z16,z17,z18,z19]):Blk (((((W.setCell ⟨B,0,none⟩ u0).setCell ⟨B,1,none⟩ u1).setCell ⟨B,2,none⟩ u2).setCell ⟨B,3,none⟩ u3).setCell ⟨B,4,none⟩ u4) B t [u0,u1,u2,u3,u4,z5,z6,z7,z8,z9,z10,z11,z12,z13,z14,z15,z16,z17,z18,z19]:=(((((h.setC 0 u0).setC 1 u1).setC 2 u2).setC 3 u3).setC 4 u4)
theorem blk20b {W:World} {B:Nat} {t:TypeId} {u0 u1 u2 u3 u4 u5 u6 u7 u8 u9 z5 z6 z7 z8 z9 z10 z11 z12 z13 z14 z15 z16 z17 z18 z19:Value} (h:Blk W B t [u0,u1,u2,u3,u4,z5,z6,z7,z8,z9,z10,z11,z12,z13,z14,z15,z16,z17,z18,z19]):Blk (((((W.setCell ⟨B,5,none⟩ u5).setCell ⟨B,6,none⟩ u6).setCell ⟨B,7,none⟩ u7).setCell ⟨B,8,none⟩ u8).setCell ⟨B,9,none⟩ u9) B t [u0,u1,u2,u3,u4,u5,u6,u7,u8,u9,z10,z11,z12,z13,z14,z15,z16,z17,z18,z19]:=(((((h.setC 5 u5).setC 6 u6).setC 7 u7).setC 8 u8).setC 9 u9)
theorem blk20c {W:World} {B:Nat} {t:TypeId} {u0 u1 u2 u3 u4 u5 u6 u7 u8 u9 u10 u11 u12 u13 u14 z10 z11 z12 z13 z14 z15 z16 z17 z18 z19:Value} (h:Blk W B t [u0,u1,u2,u3,u4,u5,u6,u7,u8,u9,z10,z11,z12,z13,z14,z15,z16,z17,z18,z19]):Blk (((((W.setCell ⟨B,10,none⟩ u10).setCell ⟨B,11,none⟩ u11).setCell ⟨B,12,none⟩ u12).setCell ⟨B,13,none⟩ u13).setCell ⟨B,14,none⟩ u14) B t [u0,u1,u2,u3,u4,u5,u6,u7,u8,u9,u10,u11,u12,u13,u14,z15,z16,z17,z18,z19]:=(((((h.setC 10 u10).setC 11 u11).setC 12 u12).setC 13 u13).setC 14 u14)
theorem blk20d {W:World} {B:Nat} {t:TypeId} {u0 u1 u2 u3 u4 u5 u6 u7 u8 u9 u10 u11 u12 u13 u14 u15 u16 u17 u18 u19 z15 z16 z17 z18 z19:Value} (h:Blk W B t [u0,u1,u2,u3,u4,u5,u6,u7,u8,u9,u10,u11,u12,u13,u14,z15,z16,z17,z18,z19]):Blk (((((W.setCell ⟨B,15,none⟩ u15).setCell ⟨B,16,none⟩ u16).setCell ⟨B,17,none⟩ u17).setCell ⟨B,18,none⟩ u18).setCell ⟨B,19,none⟩ u19) B t [u0,u1,u2,u3,u4,u5,u6,u7,u8,u9,u10,u11,u12,u13,u14,u15,u16,u17,u18,u19]:=(((((h.setC 15 u15).setC 16 u16).setC 17 u17).setC 18 u18).setC 19 u19)
theorem blk20 {W:World} {B:Nat} {t:TypeId} {z0 z1 z2 z3 z4 z5 z6 z7 z8 z9 z10 z11 z12 z13 z14 z15 z16 z17 z18 z19 u0 u1 u2 u3 u4 u5 u6 u7 u8 u9 u10 u11 u12 u13 u14 u15 u16 u17 u18 u19:Value} (h:Blk W B t [z0,z1,z2,z3,z4,z5,z6,z7,z8,z9,z10,z11,z12,z13,z14,z15,z16,z17,z18,z19]):Blk ((((((((((((((((((((W.setCell ⟨B,0,none⟩ u0).setCell ⟨B,1,none⟩ u1).setCell ⟨B,2,none⟩ u2).setCell ⟨B,3,none⟩ u3).setCell ⟨B,4,none⟩ u4).setCell ⟨B,5,none⟩ u5).setCell ⟨B,6,none⟩ u6).setCell ⟨B,7,none⟩ u7).setCell ⟨B,8,none⟩ u8).setCell ⟨B,9,none⟩ u9).setCell ⟨B,10,none⟩ u10).setCell ⟨B,11,none⟩ u11).setCell ⟨B,12,none⟩ u12).setCell ⟨B,13,none⟩ u13).setCell ⟨B,14,none⟩ u14).setCell ⟨B,15,none⟩ u15).setCell ⟨B,16,none⟩ u16).setCell ⟨B,17,none⟩ u17).setCell ⟨B,18,none⟩ u18).setCell ⟨B,19,none⟩ u19) B t [u0,u1,u2,u3,u4,u5,u6,u7,u8,u9,u10,u11,u12,u13,u14,u15,u16,u17,u18,u19]:=blk20d (blk20c (blk20b (blk20a h)))
theorem implWithin_any (x a b:Int) (w:World) :
    Calls Tryz.prog 53 #[.int .i64 x,.int .i64 a,.int .i64 b] w fun e w'=>e=.returned (.bool (inB x a b))/\w'=w:=by
  by_cases h1:a<=x
  · by_cases h2:x<=b
    · have e:Hid (inB x a b=true):=hide (by simp [inB,h1,h2])
      go_enter Tryz.func53,Tryz.ntmps53
      go_wp2
      go_ret
      rw [e.out];exact ⟨rfl,rfl⟩
    · have e:Hid (inB x a b=false):=hide (by simp [inB,h1,h2])
      go_enter Tryz.func53,Tryz.ntmps53
      go_wp2
      go_ret
      rw [e.out];exact ⟨rfl,rfl⟩
  · have e:Hid (inB x a b=false):=hide (by simp [inB,h1])
    go_enter Tryz.func53,Tryz.ntmps53
    go_wp2
    go_ret
    rw [e.out];exact ⟨rfl,rfl⟩
theorem implLeavesOk_any (lv:Value) (ls:List (Int × Int)) (w:World) (hr:RdL w lv ls) (hl:ls.length<=4000000) :
    Calls Tryz.prog 102 #[lv] w fun e w'=>e=.returned (.bool (decide (ls.length<=4) && lvsB ls))/\Below w.heap.size w w':=by
  have Hr':=hide hr
  obtain ⟨av,cv,rfl⟩:=hr.shape
  clear hr
  by_cases e4:ls.length<=4
  · have Hac:Hid ((decide (ls.length<=4) && lvsB ls)=lvsB ls):=hide (by rw [decide_eq_true e4,Bool.true_and])
    have e4i:(ls.length:Int)<=4:=by omega
    go_enter Tryz.func102,Tryz.ntmps102
    go_wp2
    go_loopw [10] (fun i wr=>∃ k:Nat,k<=ls.length/\i=.int .i64 k/\(∀ j,j < k->lvAt ls j=true)/\Below w.heap.size w wr) (fun i _=>ls.length - (intOf i).toNat)
    case atStart=>exact ⟨0,Nat.zero_le _,rfl,fun j hj=>by omega,Below.refl _ _⟩
    case round =>
      obtain ⟨k,hkl,rfl,hok,hb⟩:=hrel
      have Hok:=hide hok
      clear hok
      by_cases hlt:k < ls.length
      · have hrr:=Hr'.out
        rcases hrr with ⟨_,_,_,e,_⟩ | ⟨b,off,cap,h0,hv,h1,h2,h3,h4⟩
        · subst e;simp at hlt
        injection hv with ha _ hcap
        subst ha hcap
        have hc1:=(hb.cell (p:=⟨b,off+k * 2,none⟩) h3).trans (h4 k hlt).1
        have hc2:=(hb.cell (p:=⟨b,off+k * 2+1,none⟩) h3).trans (h4 k hlt).2
        have hli:(k:Int) < (ls.length:Int):=by omega
        have hbb:b < wr.heap.size:=Nat.lt_of_lt_of_le h3 hb.size
        have Hno:=hide (lvs_no ls k hlt)
        have Hnx:Hid (lvAt ls k=true->∀ j,j < k+1->lvAt ls j=true):=hide (fun h j hj=>by
          by_cases e:j=k
          · subst e;exact h
          · exact Hok.out j (by omega))
        have Hat:Hid (lvAt ls k=(inB ls[k].1 1 1000000 && (inB ls[k].2 0 1000 && (decide (k=0) || decide ((ls.getD (k - 1) (0,0)).2 < ls[k].2))))):=hide (by unfold lvAt;rw [List.getD_eq_getElem?_getD,List.getElem?_eq_getElem hlt];rfl)
        have Hpr:Hid (0 < k->wr.cell? ⟨b,off+(k - 1) * 2+1,none⟩=some (.int .i64 (ls.getD (k - 1) (0,0)).2)):=hide (fun h=>by
          have:=(hb.cell (p:=⟨b,off+(k - 1) * 2+1,none⟩) h3).trans (h4 (k - 1) (by omega)).2
          rw [List.getD_eq_getElem?_getD,List.getElem?_eq_getElem (show k - 1 < ls.length by omega)]
          exact this)
        clear h4 Hok
        generalize ls[k]=p at hc1 hc2 Hat
        obtain ⟨x,y⟩:=p
        simp only at hc1 hc2 Hat
        by_cases q1:inB x 1 1000000=true
        · by_cases q2:inB y 0 1000=true
          · rw [q1,q2,Bool.true_and,Bool.true_and] at Hat
            cases k with
            | zero =>
              rw [show decide (0=0)=true from rfl,Bool.true_or] at Hat
              rw [Nat.zero_mul,Nat.add_zero] at hc1 hc2
              have Hnx:=hide (Hnx.out Hat.out)
              clear Hat Hno Hpr
              go_wp2
              go_quiet ((go_at_call 53;exact Calls.quiet_of_same (implWithin_any _ _ _ _)))
              go_wp2
              go_roundw
              case rel=>exact ⟨0+1,by omega,by go_num,Hnx.out,below_drewN (hb.alloc hb.size _) _⟩
              case measure=>simp [intOf];omega
            | succ j =>
              rw [show decide (j+1=0)=false from rfl,Bool.false_or] at Hat
              have hpr:=Hpr.out (by omega)
              rw [show j+1 - 1=j from by omega] at hpr Hat
              generalize (ls.getD j (0,0)).2=z at hpr Hat
              by_cases q3:z < y
              · rw [decide_eq_true q3] at Hat
                have Hnx:=hide (Hnx.out Hat.out)
                clear Hat Hno Hpr
                go_wp2
                go_quiet ((go_at_call 53;exact Calls.quiet_of_same (implWithin_any _ _ _ _)))
                go_wp2
                go_roundw
                case rel=>exact ⟨j+1+1,by omega,by go_num,Hnx.out,below_drewN (hb.alloc hb.size _) _⟩
                case measure=>simp [intOf];omega
              · rw [decide_eq_false q3] at Hat
                have Hno:=hide (Hac.out.trans (Hno.out Hat.out))
                clear Hat Hnx Hpr
                go_wp2
                go_quiet ((go_at_call 53;exact Calls.quiet_of_same (implWithin_any _ _ _ _)))
                go_wp2
                go_ret
                exact ⟨ret_bool Hno.out.symm,below_drewN (hb.alloc hb.size _) _⟩
          · have q2:inB y 0 1000=false:=by simpa using q2
            rw [q1,q2,Bool.true_and,Bool.false_and] at Hat
            have Hno:=hide (Hac.out.trans (Hno.out Hat.out))
            clear Hat Hnx Hpr
            go_wp2
            go_quiet ((go_at_call 53;exact Calls.quiet_of_same (implWithin_any _ _ _ _)))
            go_wp2
            go_ret
            exact ⟨ret_bool Hno.out.symm,below_drewN (hb.alloc hb.size _) _⟩
        · have q1:inB x 1 1000000=false:=by simpa using q1
          rw [q1,Bool.false_and] at Hat
          have Hno:=hide (Hac.out.trans (Hno.out Hat.out))
          clear Hat Hnx Hpr
          go_wp2
          go_quiet ((go_at_call 53;exact Calls.quiet_of_same (implWithin_any _ _ _ _)))
          go_wp2
          go_ret
          exact ⟨ret_bool Hno.out.symm,below_drewN (hb.alloc hb.size _) _⟩
      · have Hy:=hide (Hac.out.trans (lvs_yes ls (fun j hj=>Hok.out j (by omega))))
        go_wp2
        go_ret
        exact ⟨ret_bool Hy.out.symm,hb⟩
  · have Hac:Hid ((decide (ls.length<=4) && lvsB ls)=false):=hide (by rw [decide_eq_false e4,Bool.false_and])
    have e4i:(4:Int) < (ls.length:Int):=by omega
    clear e4
    go_enter Tryz.func102,Tryz.ntmps102
    go_wp2
    go_ret
    exact ⟨ret_bool Hac.out.symm,Below.refl _ _⟩
theorem implAcctOk_any (a:Ac) (lv:Value) (w:World) (hr:RdL w lv a.2.2.2.2) (hn:a.1.size<=maxLen) (hl:a.2.2.2.2.length<=4000000) :
    Calls Tryz.prog 83 #[acV a lv] w fun e w'=>e=.returned (.bool (acB a))/\Below w.heap.size w w':=by
  obtain ⟨nm,fr,no,st,ls⟩:=a
  have HB:=hide ((Below.refl _ w).alloc (Nat.le_refl _) (.cells #[.string nm,.int .i64 fr,.int .i64 no,.int .i64 st,lv] 53))
  have hk:=Blk.new w 53 [.string nm,.int .i64 fr,.int .i64 no,.int .i64 st,lv]
  have Hr:=hide (hr.below HB.out (Nat.le_refl _))
  obtain ⟨av,cv,rfl⟩:=hr.shape
  clear hr
  simp only [acV] at *
  obtain ⟨w0,hw0⟩:∃ w0,w.alloc (.cells #[.string nm,.int .i64 fr,.int .i64 no,.int .i64 st,.slice av ls.length cv] 53)=w0:=⟨_,rfl⟩
  have hk':Blk w0 w.heap.size 53 [.string nm,.int .i64 fr,.int .i64 no,.int .i64 st,.slice av ls.length cv]:=by rw [<- hw0];exact hk
  have HB':Hid (Below w.heap.size w w0):=hide (by rw [<- hw0];exact HB.out)
  have HL:Hid (Calls Tryz.prog 102 #[.slice av ls.length cv] w0 fun e w'=>e=.returned (.bool (decide (ls.length<=4) && lvsB ls))/\Below w0.heap.size w0 w'):=hide (implLeavesOk_any _ ls w0 (by rw [<- hw0];exact Hr.out) hl)
  have hlt0:=hk'.lt
  have k0:=hk'.cell 0
  have k1:=hk'.cell 1
  have k2:=hk'.cell 2
  have k3:=hk'.cell 3
  have k4:=hk'.cell 4
  simp only [List.getElem?_cons_zero,List.getElem?_cons_succ] at k0 k1 k2 k3 k4
  clear hk HB Hr
  have Hac:Hid (acB (nm,fr,no,st,ls)=(nmB nm && (inB fr 0 1000000 && (inB no 0 10000 && (inB st 0 1000000 && (decide (ls.length<=4) && lvsB ls)))))):=hide rfl
  generalize (decide (ls.length<=4) && lvsB ls)=L at HL Hac
  generalize acB (nm,fr,no,st,ls)=X at Hac
  by_cases e0:nmB nm=true
  · by_cases e1:inB fr 0 1000000=true
    · by_cases e2:inB no 0 10000=true
      · by_cases e3:inB st 0 1000000=true
        · rw [e0,e1,e2,e3] at Hac
          simp only [Bool.true_and] at Hac
          go_enter Tryz.func83,Tryz.ntmps83
          go_wp2_with (first
            | (go_at_call 55;refine (implNameOk_any nm _ hn).mono ?_;rintro e w0 ⟨rfl,rfl⟩)
            | (go_at_call 53;refine (implWithin_any _ _ _ _).mono ?_;rintro e w0 ⟨rfl,rfl⟩)
            | (go_at_call 102;refine HL.out.mono ?_;rintro e w2 ⟨rfl,hb2⟩))
          go_ret
          exact ⟨ret_bool Hac.out.symm,HB'.out.trans (hb2.mono HB'.out.size)⟩
        · have e3:inB st 0 1000000=false:=by simpa using e3
          rw [e0,e1,e2,e3] at Hac
          simp only [Bool.true_and,Bool.false_and] at Hac
          go_enter Tryz.func83,Tryz.ntmps83
          go_wp2_with (first
            | (go_at_call 55;refine (implNameOk_any nm _ hn).mono ?_;rintro e w0 ⟨rfl,rfl⟩)
            | (go_at_call 53;refine (implWithin_any _ _ _ _).mono ?_;rintro e w0 ⟨rfl,rfl⟩))
          go_ret
          exact ⟨ret_bool Hac.out.symm,HB'.out⟩
      · have e2:inB no 0 10000=false:=by simpa using e2
        rw [e0,e1,e2] at Hac
        simp only [Bool.true_and,Bool.false_and] at Hac
        go_enter Tryz.func83,Tryz.ntmps83
        go_wp2_with (first
          | (go_at_call 55;refine (implNameOk_any nm _ hn).mono ?_;rintro e w0 ⟨rfl,rfl⟩)
          | (go_at_call 53;refine (implWithin_any _ _ _ _).mono ?_;rintro e w0 ⟨rfl,rfl⟩))
        go_ret
        exact ⟨ret_bool Hac.out.symm,HB'.out⟩
    · have e1:inB fr 0 1000000=false:=by simpa using e1
      rw [e0,e1] at Hac
      simp only [Bool.true_and,Bool.false_and] at Hac
      go_enter Tryz.func83,Tryz.ntmps83
      go_wp2_with (first
        | (go_at_call 55;refine (implNameOk_any nm _ hn).mono ?_;rintro e w0 ⟨rfl,rfl⟩)
        | (go_at_call 53;refine (implWithin_any _ _ _ _).mono ?_;rintro e w0 ⟨rfl,rfl⟩))
      go_ret
      exact ⟨ret_bool Hac.out.symm,HB'.out⟩
  · have e0:nmB nm=false:=by simpa using e0
    rw [e0] at Hac
    simp only [Bool.false_and] at Hac
    go_enter Tryz.func83,Tryz.ntmps83
    go_wp2_with (first
      | (go_at_call 55;refine (implNameOk_any nm _ hn).mono ?_;rintro e w0 ⟨rfl,rfl⟩)
      | (go_at_call 53;refine (implWithin_any _ _ _ _).mono ?_;rintro e w0 ⟨rfl,rfl⟩))
    go_ret
    exact ⟨ret_bool Hac.out.symm,HB'.out⟩
end Go.Proofs.YthidkbhiikdokaaGreat
