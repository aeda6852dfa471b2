/- Votes and leavings, held against each other; their size. -/
import Derived.Test.YthidkbhiikdokaaGreatZwKsMem
import Derived.Test.YthidkbhiikdokaaGreatZwBkOpen
import Derived.Test.YthidkbhiikdokaaGreatZwBkEq
set_option maxRecDepth 20000
set_option maxHeartbeats 1000000
namespace Go.Proofs.YthidkbhiikdokaaGreat
open Go.RowKit
set_option linter.unusedVariables false
theorem eqVote_any (p q:Tr) (w:World):Calls Tryz.prog 96 #[.agg #[.int .i64 p.1,.int .i64 p.2.1,.string p.2.2],.agg #[.int .i64 q.1,.int .i64 q.2.1,.string q.2.2]] w fun e w'=>e=.returned (.bool (decide (p=q)))/\Below w.heap.size w w':=by
  obtain ⟨a,b,c⟩:=p
  obtain ⟨d,f,g⟩:=q
  have hB:=hide (((Below.refl _ w).alloc (Nat.le_refl _) (.cells #[.int .i64 a,.int .i64 b,.string c] 100)).alloc (by simp) (.cells #[.int .i64 d,.int .i64 f,.string g] 100))
  by_cases h1:a=d
  · subst h1
    by_cases h2:b=f
    · subst h2
      by_cases h3:c=g
      · subst h3
        go_enter Tryz.func96,Tryz.ntmps96
        go_wp2
        go_ret
        exact ⟨by simp,hB.out⟩
      · have Hd:Hid (decide ((a,b,c)=(a,b,g))=false):=hide (by rw [decide_eq_false];intro e;injection e with _ e;injection e with _ e;exact h3 e)
        have hq:=bytes_ne h3
        clear h3
        go_enter Tryz.func96,Tryz.ntmps96
        go_wp2
        go_ret
        exact ⟨ret_bool Hd.out.symm,hB.out⟩
    · have Hd:Hid (decide ((a,b,c)=(a,f,g))=false):=hide (by rw [decide_eq_false];intro e;injection e with _ e;injection e with e _;exact h2 e)
      have hq:(b != f)=true:=by rw [bne_iff_ne];exact h2
      clear h2
      go_enter Tryz.func96,Tryz.ntmps96
      go_wp2
      go_ret
      exact ⟨ret_bool Hd.out.symm,hB.out⟩
  · have Hd:Hid (decide ((a,b,c)=(d,f,g))=false):=hide (by rw [decide_eq_false];intro e;injection e with e _;exact h1 e)
    have hq:(a != d)=true:=by rw [bne_iff_ne];exact h1
    clear h1
    go_enter Tryz.func96,Tryz.ntmps96
    go_wp2
    go_ret
    exact ⟨ret_bool Hd.out.symm,hB.out⟩
theorem eqVoteS_any (v1 v2:Value) (l1 l2:List Tr) (w:World) (hr1:RdR w v1 l1) (hr2:RdR w v2 l2) (hl1:l1.length<=4000000) (hl2:l2.length<=4000000) :
    Calls Tryz.prog 91 #[v1,v2] w fun e w'=>e=.returned (.bool (decide (l1=l2)))/\Below w.heap.size w w':=by
  by_cases hne:l1.length=l2.length
  · rcases hr1 with ⟨a,cap,rfl,rfl,-⟩ | ⟨b,off,cap,h0,rfl,h1,h2,h3,h4⟩
    · have e2:l2=[]:=List.length_eq_zero_iff.1 (by simpa using hne.symm)
      subst e2
      obtain ⟨a2,cap2,rfl⟩:=hr2.shape
      clear hr2
      go_enter Tryz.func91,Tryz.ntmps91
      go_wp2
      refine wp_loop_rounds 1 ?_
      rw [rounds_succ]
      go_wp2
      go_ret
      exact ⟨rfl,Below.refl _ _⟩
    · rcases hr2 with ⟨a2,cap2,rfl,rfl,-⟩ | ⟨b2,off2,cap2,g0,rfl,g1,g2,g3,g4⟩
      · exact absurd (List.length_eq_zero_iff.1 (by simpa using hne)) h0
      · have Hne:=hide hne
        have hlen:((l1.length:Int) != (l2.length:Int))=false:=by rw [hne];simp
        have hle:l1.length<=l2.length:=by omega
        have hge:l2.length<=l1.length:=by omega
        have H4:=hide h4
        have G4:=hide g4
        clear hne h4 g4
        go_enter Tryz.func91,Tryz.ntmps91
        go_wp2
        go_loopw [5] (fun i wr=>∃ k:Nat,k<=l1.length/\i=.int .i64 k/\l1.take k=l2.take k/\Below w.heap.size w wr) (fun i _=>l1.length - (intOf i).toNat)
        case atStart=>exact ⟨0,Nat.zero_le _,rfl,rfl,Below.refl _ _⟩
        case round =>
          obtain ⟨k,hk,rfl,ht,hs⟩:=hrel
          have Ht:=hide ht
          clear ht
          by_cases hlt:k < l1.length
          · have hlt2:k < l2.length:=by omega
            obtain ⟨d0,d1,d2⟩:=H4.out k hlt
            obtain ⟨e0,e1,e2⟩:=G4.out k hlt2
            have hc0:wr.drew.cell? ⟨b,off+k * 3,none⟩=some (.int .i64 l1[k].1):=(hs.cell (p:=⟨b,off+k * 3,none⟩) h3).trans d0
            have hd0:wr.drew.cell? ⟨b2,off2+k * 3,none⟩=some (.int .i64 l2[k].1):=(hs.cell (p:=⟨b2,off2+k * 3,none⟩) g3).trans e0
            have hc1:wr.drew.cell? ⟨b,off+k * 3+1,none⟩=some (.int .i64 l1[k].2.1):=(hs.cell (p:=⟨b,off+k * 3+1,none⟩) h3).trans d1
            have hd1:wr.drew.cell? ⟨b2,off2+k * 3+1,none⟩=some (.int .i64 l2[k].2.1):=(hs.cell (p:=⟨b2,off2+k * 3+1,none⟩) g3).trans e1
            have hc2:wr.drew.cell? ⟨b,off+k * 3+2,none⟩=some (.string l1[k].2.2):=(hs.cell (p:=⟨b,off+k * 3+2,none⟩) h3).trans d2
            have hd2:wr.drew.cell? ⟨b2,off2+k * 3+2,none⟩=some (.string l2[k].2.2):=(hs.cell (p:=⟨b2,off2+k * 3+2,none⟩) g3).trans e2
            have hli:(k:Int) < (l1.length:Int):=by omega
            have hli2:(k:Int) < (l2.length:Int):=by omega
            have HE:=hide (eqVote_any l1[k] l2[k] wr.drew)
            have Hnx:Hid (l1[k]=l2[k]->l1.take (k+1)=l2.take (k+1)):=hide (fun he=>take_eq_snoc hlt hlt2 Ht.out he)
            have Hno:Hid (l1[k] ≠ l2[k]->decide (l1=l2)=false):=hide (fun he=>by rw [decide_eq_false];intro e;subst e;exact he rfl)
            clear d0 d1 d2 e0 e1 e2
            generalize hp:l1[k]=p at hc0 hc1 hc2 HE Hnx Hno
            generalize hq:l2[k]=q at hd0 hd1 hd2 HE Hnx Hno
            clear hp hq
            by_cases he:p=q
            · rw [decide_eq_true he] at HE
              have Hnx:=hide (Hnx.out he)
              clear he Hno
              go_wp2
              go_region_held_law (fun w'=>w'.cell? ⟨b,off+k * 3,none⟩=some (.int .i64 p.1)/\w'.cell? ⟨b,off+k * 3+1,none⟩=some (.int .i64 p.2.1)/\w'.cell? ⟨b,off+k * 3+2,none⟩=some (.string p.2.2)/\w'.cell? ⟨b2,off2+k * 3,none⟩=some (.int .i64 q.1)/\w'.cell? ⟨b2,off2+k * 3+1,none⟩=some (.int .i64 q.2.1)/\w'.cell? ⟨b2,off2+k * 3+2,none⟩=some (.string q.2.2)) (first | exact ⟨hc0,hc1,hc2,hd0,hd1,hd2⟩ | exact hS2) ((go_at_call 96;refine HE.out.mono ?_;rintro e w2 ⟨rfl,hb2⟩;have hz:=hs.size;have hS2:w2.cell? ⟨b,off+k * 3,none⟩=some (.int .i64 p.1)/\w2.cell? ⟨b,off+k * 3+1,none⟩=some (.int .i64 p.2.1)/\w2.cell? ⟨b,off+k * 3+2,none⟩=some (.string p.2.2)/\w2.cell? ⟨b2,off2+k * 3,none⟩=some (.int .i64 q.1)/\w2.cell? ⟨b2,off2+k * 3+1,none⟩=some (.int .i64 q.2.1)/\w2.cell? ⟨b2,off2+k * 3+2,none⟩=some (.string q.2.2):=⟨(hb2.cell (p:=⟨b,off+k * 3,none⟩) (Nat.lt_of_lt_of_le h3 hz)).trans hc0,(hb2.cell (p:=⟨b,off+k * 3+1,none⟩) (Nat.lt_of_lt_of_le h3 hz)).trans hc1,(hb2.cell (p:=⟨b,off+k * 3+2,none⟩) (Nat.lt_of_lt_of_le h3 hz)).trans hc2,(hb2.cell (p:=⟨b2,off2+k * 3,none⟩) (Nat.lt_of_lt_of_le g3 hz)).trans hd0,(hb2.cell (p:=⟨b2,off2+k * 3+1,none⟩) (Nat.lt_of_lt_of_le g3 hz)).trans hd1,(hb2.cell (p:=⟨b2,off2+k * 3+2,none⟩) (Nat.lt_of_lt_of_le g3 hz)).trans hd2⟩))
              go_wp2
              go_roundw
              case rel=>exact ⟨k+1,by omega,by go_num,Hnx.out,hs.drew.trans (hb2.mono hs.size)⟩
              case measure=>simp [intOf];omega
            · rw [decide_eq_false he] at HE
              have Hno:=hide (Hno.out he)
              clear he Hnx
              go_wp2
              go_region_held_law (fun w'=>w'.cell? ⟨b,off+k * 3,none⟩=some (.int .i64 p.1)/\w'.cell? ⟨b,off+k * 3+1,none⟩=some (.int .i64 p.2.1)/\w'.cell? ⟨b,off+k * 3+2,none⟩=some (.string p.2.2)/\w'.cell? ⟨b2,off2+k * 3,none⟩=some (.int .i64 q.1)/\w'.cell? ⟨b2,off2+k * 3+1,none⟩=some (.int .i64 q.2.1)/\w'.cell? ⟨b2,off2+k * 3+2,none⟩=some (.string q.2.2)) (first | exact ⟨hc0,hc1,hc2,hd0,hd1,hd2⟩ | exact hS2) ((go_at_call 96;refine HE.out.mono ?_;rintro e w2 ⟨rfl,hb2⟩;have hz:=hs.size;have hS2:w2.cell? ⟨b,off+k * 3,none⟩=some (.int .i64 p.1)/\w2.cell? ⟨b,off+k * 3+1,none⟩=some (.int .i64 p.2.1)/\w2.cell? ⟨b,off+k * 3+2,none⟩=some (.string p.2.2)/\w2.cell? ⟨b2,off2+k * 3,none⟩=some (.int .i64 q.1)/\w2.cell? ⟨b2,off2+k * 3+1,none⟩=some (.int .i64 q.2.1)/\w2.cell? ⟨b2,off2+k * 3+2,none⟩=some (.string q.2.2):=⟨(hb2.cell (p:=⟨b,off+k * 3,none⟩) (Nat.lt_of_lt_of_le h3 hz)).trans hc0,(hb2.cell (p:=⟨b,off+k * 3+1,none⟩) (Nat.lt_of_lt_of_le h3 hz)).trans hc1,(hb2.cell (p:=⟨b,off+k * 3+2,none⟩) (Nat.lt_of_lt_of_le h3 hz)).trans hc2,(hb2.cell (p:=⟨b2,off2+k * 3,none⟩) (Nat.lt_of_lt_of_le g3 hz)).trans hd0,(hb2.cell (p:=⟨b2,off2+k * 3+1,none⟩) (Nat.lt_of_lt_of_le g3 hz)).trans hd1,(hb2.cell (p:=⟨b2,off2+k * 3+2,none⟩) (Nat.lt_of_lt_of_le g3 hz)).trans hd2⟩))
              go_wp2
              go_ret
              exact ⟨ret_bool Hno.out.symm,hs.drew.trans (hb2.mono hs.size)⟩
          · have hf:Hid (decide (l1=l2)=true):=hide (by
              rw [decide_eq_true]
              have:=Ht.out
              rwa [List.take_of_length_le (by omega),List.take_of_length_le (by omega)] at this)
            go_wp2
            go_ret
            exact ⟨ret_bool hf.out.symm,hs⟩
  · obtain ⟨a,cap,rfl⟩:=hr1.shape
    obtain ⟨a2,cap2,rfl⟩:=hr2.shape
    clear hr1 hr2
    have hlen:((l1.length:Int) != (l2.length:Int))=true:=by rw [bne_iff_ne];omega
    have hf:Hid (decide (l1=l2)=false):=hide (by rw [decide_eq_false];intro e;subst e;exact hne rfl)
    clear hne
    go_enter Tryz.func91,Tryz.ntmps91
    go_wp2
    go_ret
    exact ⟨ret_bool hf.out.symm,Below.refl _ _⟩
theorem eqGone_any (p q:Tr) (w:World):Calls Tryz.prog 97 #[.agg #[.int .i64 p.1,.int .i64 p.2.1,.string p.2.2],.agg #[.int .i64 q.1,.int .i64 q.2.1,.string q.2.2]] w fun e w'=>e=.returned (.bool (decide (p=q)))/\Below w.heap.size w w':=by
  obtain ⟨a,b,c⟩:=p
  obtain ⟨d,f,g⟩:=q
  have hB:=hide (((Below.refl _ w).alloc (Nat.le_refl _) (.cells #[.int .i64 a,.int .i64 b,.string c] 102)).alloc (by simp) (.cells #[.int .i64 d,.int .i64 f,.string g] 102))
  by_cases h1:a=d
  · subst h1
    by_cases h2:b=f
    · subst h2
      by_cases h3:c=g
      · subst h3
        go_enter Tryz.func97,Tryz.ntmps97
        go_wp2
        go_ret
        exact ⟨by simp,hB.out⟩
      · have Hd:Hid (decide ((a,b,c)=(a,b,g))=false):=hide (by rw [decide_eq_false];intro e;injection e with _ e;injection e with _ e;exact h3 e)
        have hq:=bytes_ne h3
        clear h3
        go_enter Tryz.func97,Tryz.ntmps97
        go_wp2
        go_ret
        exact ⟨ret_bool Hd.out.symm,hB.out⟩
    · have Hd:Hid (decide ((a,b,c)=(a,f,g))=false):=hide (by rw [decide_eq_false];intro e;injection e with _ e;injection e with e _;exact h2 e)
      have hq:(b != f)=true:=by rw [bne_iff_ne];exact h2
      clear h2
      go_enter Tryz.func97,Tryz.ntmps97
      go_wp2
      go_ret
      exact ⟨ret_bool Hd.out.symm,hB.out⟩
  · have Hd:Hid (decide ((a,b,c)=(d,f,g))=false):=hide (by rw [decide_eq_false];intro e;injection e with e _;exact h1 e)
    have hq:(a != d)=true:=by rw [bne_iff_ne];exact h1
    clear h1
    go_enter Tryz.func97,Tryz.ntmps97
    go_wp2
    go_ret
    exact ⟨ret_bool Hd.out.symm,hB.out⟩
theorem eqGoneS_any (v1 v2:Value) (l1 l2:List Tr) (w:World) (hr1:RdR w v1 l1) (hr2:RdR w v2 l2) (hl1:l1.length<=4000000) (hl2:l2.length<=4000000) :
    Calls Tryz.prog 92 #[v1,v2] w fun e w'=>e=.returned (.bool (decide (l1=l2)))/\Below w.heap.size w w':=by
  by_cases hne:l1.length=l2.length
  · rcases hr1 with ⟨a,cap,rfl,rfl,-⟩ | ⟨b,off,cap,h0,rfl,h1,h2,h3,h4⟩
    · have e2:l2=[]:=List.length_eq_zero_iff.1 (by simpa using hne.symm)
      subst e2
      obtain ⟨a2,cap2,rfl⟩:=hr2.shape
      clear hr2
      go_enter Tryz.func92,Tryz.ntmps92
      go_wp2
      refine wp_loop_rounds 1 ?_
      rw [rounds_succ]
      go_wp2
      go_ret
      exact ⟨rfl,Below.refl _ _⟩
    · rcases hr2 with ⟨a2,cap2,rfl,rfl,-⟩ | ⟨b2,off2,cap2,g0,rfl,g1,g2,g3,g4⟩
      · exact absurd (List.length_eq_zero_iff.1 (by simpa using hne)) h0
      · have Hne:=hide hne
        have hlen:((l1.length:Int) != (l2.length:Int))=false:=by rw [hne];simp
        have hle:l1.length<=l2.length:=by omega
        have hge:l2.length<=l1.length:=by omega
        have H4:=hide h4
        have G4:=hide g4
        clear hne h4 g4
        go_enter Tryz.func92,Tryz.ntmps92
        go_wp2
        go_loopw [5] (fun i wr=>∃ k:Nat,k<=l1.length/\i=.int .i64 k/\l1.take k=l2.take k/\Below w.heap.size w wr) (fun i _=>l1.length - (intOf i).toNat)
        case atStart=>exact ⟨0,Nat.zero_le _,rfl,rfl,Below.refl _ _⟩
        case round =>
          obtain ⟨k,hk,rfl,ht,hs⟩:=hrel
          have Ht:=hide ht
          clear ht
          by_cases hlt:k < l1.length
          · have hlt2:k < l2.length:=by omega
            obtain ⟨d0,d1,d2⟩:=H4.out k hlt
            obtain ⟨e0,e1,e2⟩:=G4.out k hlt2
            have hc0:wr.drew.cell? ⟨b,off+k * 3,none⟩=some (.int .i64 l1[k].1):=(hs.cell (p:=⟨b,off+k * 3,none⟩) h3).trans d0
            have hd0:wr.drew.cell? ⟨b2,off2+k * 3,none⟩=some (.int .i64 l2[k].1):=(hs.cell (p:=⟨b2,off2+k * 3,none⟩) g3).trans e0
            have hc1:wr.drew.cell? ⟨b,off+k * 3+1,none⟩=some (.int .i64 l1[k].2.1):=(hs.cell (p:=⟨b,off+k * 3+1,none⟩) h3).trans d1
            have hd1:wr.drew.cell? ⟨b2,off2+k * 3+1,none⟩=some (.int .i64 l2[k].2.1):=(hs.cell (p:=⟨b2,off2+k * 3+1,none⟩) g3).trans e1
            have hc2:wr.drew.cell? ⟨b,off+k * 3+2,none⟩=some (.string l1[k].2.2):=(hs.cell (p:=⟨b,off+k * 3+2,none⟩) h3).trans d2
            have hd2:wr.drew.cell? ⟨b2,off2+k * 3+2,none⟩=some (.string l2[k].2.2):=(hs.cell (p:=⟨b2,off2+k * 3+2,none⟩) g3).trans e2
            have hli:(k:Int) < (l1.length:Int):=by omega
            have hli2:(k:Int) < (l2.length:Int):=by omega
            have HE:=hide (eqGone_any l1[k] l2[k] wr.drew)
            have Hnx:Hid (l1[k]=l2[k]->l1.take (k+1)=l2.take (k+1)):=hide (fun he=>take_eq_snoc hlt hlt2 Ht.out he)
            have Hno:Hid (l1[k] ≠ l2[k]->decide (l1=l2)=false):=hide (fun he=>by rw [decide_eq_false];intro e;subst e;exact he rfl)
            clear d0 d1 d2 e0 e1 e2
            generalize hp:l1[k]=p at hc0 hc1 hc2 HE Hnx Hno
            generalize hq:l2[k]=q at hd0 hd1 hd2 HE Hnx Hno
            clear hp hq
            by_cases he:p=q
            · rw [decide_eq_true he] at HE
              have Hnx:=hide (Hnx.out he)
              clear he Hno
              go_wp2
              go_region_held_law (fun w'=>w'.cell? ⟨b,off+k * 3,none⟩=some (.int .i64 p.1)/\w'.cell? ⟨b,off+k * 3+1,none⟩=some (.int .i64 p.2.1)/\w'.cell? ⟨b,off+k * 3+2,none⟩=some (.string p.2.2)/\w'.cell? ⟨b2,off2+k * 3,none⟩=some (.int .i64 q.1)/\w'.cell? ⟨b2,off2+k * 3+1,none⟩=some (.int .i64 q.2.1)/\w'.cell? ⟨b2,off2+k * 3+2,none⟩=some (.string q.2.2)) (first | exact ⟨hc0,hc1,hc2,hd0,hd1,hd2⟩ | exact hS2) ((go_at_call 97;refine HE.out.mono ?_;rintro e w2 ⟨rfl,hb2⟩;have hz:=hs.size;have hS2:w2.cell? ⟨b,off+k * 3,none⟩=some (.int .i64 p.1)/\w2.cell? ⟨b,off+k * 3+1,none⟩=some (.int .i64 p.2.1)/\w2.cell? ⟨b,off+k * 3+2,none⟩=some (.string p.2.2)/\w2.cell? ⟨b2,off2+k * 3,none⟩=some (.int .i64 q.1)/\w2.cell? ⟨b2,off2+k * 3+1,none⟩=some (.int .i64 q.2.1)/\w2.cell? ⟨b2,off2+k * 3+2,none⟩=some (.string q.2.2):=⟨(hb2.cell (p:=⟨b,off+k * 3,none⟩) (Nat.lt_of_lt_of_le h3 hz)).trans hc0,(hb2.cell (p:=⟨b,off+k * 3+1,none⟩) (Nat.lt_of_lt_of_le h3 hz)).trans hc1,(hb2.cell (p:=⟨b,off+k * 3+2,none⟩) (Nat.lt_of_lt_of_le h3 hz)).trans hc2,(hb2.cell (p:=⟨b2,off2+k * 3,none⟩) (Nat.lt_of_lt_of_le g3 hz)).trans hd0,(hb2.cell (p:=⟨b2,off2+k * 3+1,none⟩) (Nat.lt_of_lt_of_le g3 hz)).trans hd1,(hb2.cell (p:=⟨b2,off2+k * 3+2,none⟩) (Nat.lt_of_lt_of_le g3 hz)).trans hd2⟩))
              go_wp2
              go_roundw
              case rel=>exact ⟨k+1,by omega,by go_num,Hnx.out,hs.drew.trans (hb2.mono hs.size)⟩
              case measure=>simp [intOf];omega
            · rw [decide_eq_false he] at HE
              have Hno:=hide (Hno.out he)
              clear he Hnx
              go_wp2
              go_region_held_law (fun w'=>w'.cell? ⟨b,off+k * 3,none⟩=some (.int .i64 p.1)/\w'.cell? ⟨b,off+k * 3+1,none⟩=some (.int .i64 p.2.1)/\w'.cell? ⟨b,off+k * 3+2,none⟩=some (.string p.2.2)/\w'.cell? ⟨b2,off2+k * 3,none⟩=some (.int .i64 q.1)/\w'.cell? ⟨b2,off2+k * 3+1,none⟩=some (.int .i64 q.2.1)/\w'.cell? ⟨b2,off2+k * 3+2,none⟩=some (.string q.2.2)) (first | exact ⟨hc0,hc1,hc2,hd0,hd1,hd2⟩ | exact hS2) ((go_at_call 97;refine HE.out.mono ?_;rintro e w2 ⟨rfl,hb2⟩;have hz:=hs.size;have hS2:w2.cell? ⟨b,off+k * 3,none⟩=some (.int .i64 p.1)/\w2.cell? ⟨b,off+k * 3+1,none⟩=some (.int .i64 p.2.1)/\w2.cell? ⟨b,off+k * 3+2,none⟩=some (.string p.2.2)/\w2.cell? ⟨b2,off2+k * 3,none⟩=some (.int .i64 q.1)/\w2.cell? ⟨b2,off2+k * 3+1,none⟩=some (.int .i64 q.2.1)/\w2.cell? ⟨b2,off2+k * 3+2,none⟩=some (.string q.2.2):=⟨(hb2.cell (p:=⟨b,off+k * 3,none⟩) (Nat.lt_of_lt_of_le h3 hz)).trans hc0,(hb2.cell (p:=⟨b,off+k * 3+1,none⟩) (Nat.lt_of_lt_of_le h3 hz)).trans hc1,(hb2.cell (p:=⟨b,off+k * 3+2,none⟩) (Nat.lt_of_lt_of_le h3 hz)).trans hc2,(hb2.cell (p:=⟨b2,off2+k * 3,none⟩) (Nat.lt_of_lt_of_le g3 hz)).trans hd0,(hb2.cell (p:=⟨b2,off2+k * 3+1,none⟩) (Nat.lt_of_lt_of_le g3 hz)).trans hd1,(hb2.cell (p:=⟨b2,off2+k * 3+2,none⟩) (Nat.lt_of_lt_of_le g3 hz)).trans hd2⟩))
              go_wp2
              go_ret
              exact ⟨ret_bool Hno.out.symm,hs.drew.trans (hb2.mono hs.size)⟩
          · have hf:Hid (decide (l1=l2)=true):=hide (by
              rw [decide_eq_true]
              have:=Ht.out
              rwa [List.take_of_length_le (by omega),List.take_of_length_le (by omega)] at this)
            go_wp2
            go_ret
            exact ⟨ret_bool hf.out.symm,hs⟩
  · obtain ⟨a,cap,rfl⟩:=hr1.shape
    obtain ⟨a2,cap2,rfl⟩:=hr2.shape
    clear hr1 hr2
    have hlen:((l1.length:Int) != (l2.length:Int))=true:=by rw [bne_iff_ne];omega
    have hf:Hid (decide (l1=l2)=false):=hide (by rw [decide_eq_false];intro e;subst e;exact hne rfl)
    clear hne
    go_enter Tryz.func92,Tryz.ntmps92
    go_wp2
    go_ret
    exact ⟨ret_bool hf.out.symm,Below.refl _ _⟩
end Go.Proofs.YthidkbhiikdokaaGreat
