/- An account by value. -/
import Derived.Test.YtfdbedenlbikgaaZlAcMem
set_option maxRecDepth 20000
set_option maxHeartbeats 1000000
namespace Go.Proofs.Ytfdbedenlbikgaa
open Go.RowKit
set_option linter.unusedVariables false
theorem eqLeave_any (p q:Int × Int) (w:World):Calls Try.prog 94 #[.agg #[.int .i64 p.1,.int .i64 p.2],.agg #[.int .i64 q.1,.int .i64 q.2]] w fun e w'=>e=.returned (.bool (decide (p=q)))/\Below w.heap.size w w':=by
  obtain ⟨a,b⟩:=p
  obtain ⟨c,d⟩:=q
  have hB:=hide (((Below.refl _ w).alloc (Nat.le_refl _) (.cells #[.int .i64 a,.int .i64 b] 181)).alloc (by simp) (.cells #[.int .i64 c,.int .i64 d] 181))
  by_cases h1:a=c
  · subst h1
    by_cases h2:b=d
    · subst h2
      go_enter Try.func94,Try.ntmps94
      go_wp2
      go_ret
      exact ⟨by simp,hB.out⟩
    · have Hd:Hid (decide ((a,b)=(a,d))=false):=hide (by rw [decide_eq_false];intro e;injection e with _ e;exact h2 e)
      have hq:(b != d)=true:=by rw [bne_iff_ne];exact h2
      clear h2
      go_enter Try.func94,Try.ntmps94
      go_wp2
      go_ret
      exact ⟨ret_bool Hd.out.symm,hB.out⟩
  · have Hd:Hid (decide ((a,b)=(c,d))=false):=hide (by rw [decide_eq_false];intro e;injection e with e _;exact h1 e)
    have hq:(a != c)=true:=by rw [bne_iff_ne];exact h1
    clear h1
    go_enter Try.func94,Try.ntmps94
    go_wp2
    go_ret
    exact ⟨ret_bool Hd.out.symm,hB.out⟩
theorem eqLeaveS_any (v1 v2:Value) (l1 l2:List (Int × Int)) (w:World) (hr1:RdL w v1 l1) (hr2:RdL w v2 l2) (hl1:l1.length<=4000000) (hl2:l2.length<=4000000) :
    Calls Try.prog 89 #[v1,v2] w fun e w'=>e=.returned (.bool (decide (l1=l2)))/\Below w.heap.size w w':=by
  by_cases hne:l1.length=l2.length
  · rcases hr1 with ⟨a,cap,rfl,rfl,-⟩ | ⟨b,off,cap,h0,rfl,h1,h2,h3,h4⟩
    · have e2:l2=[]:=List.length_eq_zero_iff.1 (by simpa using hne.symm)
      subst e2
      obtain ⟨a2,cap2,rfl⟩:=hr2.shape
      clear hr2
      go_enter Try.func89,Try.ntmps89
      go_wp2
      refine wp_loop_rounds 1 ?_
      rw [rounds_succ]
      go_wp2
      go_ret
      exact ⟨rfl,Below.refl _ _⟩
    · rcases hr2 with ⟨a2,cap2,rfl,rfl,-⟩ | ⟨b2,off2,cap2,g0,rfl,g1,g2,g3,g4⟩
      · exact absurd (List.length_eq_zero_iff.1 (by simpa using hne)) h0
      · have Hne:=hide hne
        have hlen:((l1.length:Int) != (l2.length:Int))=false:=by rw [hne];simp
        have hle:l1.length<=l2.length:=by omega
        have hge:l2.length<=l1.length:=by omega
        have H4:=hide h4
        have G4:=hide g4
        clear hne h4 g4
        go_enter Try.func89,Try.ntmps89
        go_wp2
        go_loopw [5] (fun i wr=>∃ k:Nat,k<=l1.length/\i=.int .i64 k/\l1.take k=l2.take k/\Below w.heap.size w wr) (fun i _=>l1.length - (intOf i).toNat)
        case atStart=>exact ⟨0,Nat.zero_le _,rfl,rfl,Below.refl _ _⟩
        case round =>
          obtain ⟨k,hk,rfl,ht,hs⟩:=hrel
          have Ht:=hide ht
          clear ht
          by_cases hlt:k < l1.length
          · have hlt2:k < l2.length:=by omega
            obtain ⟨d1,d2⟩:=H4.out k hlt
            obtain ⟨e1,e2⟩:=G4.out k hlt2
            have hc1:wr.drew.cell? ⟨b,off+k * 2,none⟩=some (.int .i64 l1[k].1):=(hs.cell (p:=⟨b,off+k * 2,none⟩) h3).trans d1
            have hc2:wr.drew.cell? ⟨b,off+k * 2+1,none⟩=some (.int .i64 l1[k].2):=(hs.cell (p:=⟨b,off+k * 2+1,none⟩) h3).trans d2
            have hd1:wr.drew.cell? ⟨b2,off2+k * 2,none⟩=some (.int .i64 l2[k].1):=(hs.cell (p:=⟨b2,off2+k * 2,none⟩) g3).trans e1
            have hd2:wr.drew.cell? ⟨b2,off2+k * 2+1,none⟩=some (.int .i64 l2[k].2):=(hs.cell (p:=⟨b2,off2+k * 2+1,none⟩) g3).trans e2
            have hli:(k:Int) < (l1.length:Int):=by omega
            have hli2:(k:Int) < (l2.length:Int):=by omega
            have HE:=hide (eqLeave_any l1[k] l2[k] wr.drew)
            have Hnx:Hid (l1[k]=l2[k]->l1.take (k+1)=l2.take (k+1)):=hide (fun he=>take_eq_snoc hlt hlt2 Ht.out he)
            have Hno:Hid (l1[k] ≠ l2[k]->decide (l1=l2)=false):=hide (fun he=>by rw [decide_eq_false];intro e;subst e;exact he rfl)
            clear d1 d2 e1 e2
            generalize hp:l1[k]=p at hc1 hc2 HE Hnx Hno
            generalize hq:l2[k]=q at hd1 hd2 HE Hnx Hno
            clear hp hq
            by_cases he:p=q
            · rw [decide_eq_true he] at HE
              have Hnx:=hide (Hnx.out he)
              clear he Hno
              go_wp2
              go_region_held_law (fun w'=>w'.cell? ⟨b,off+k * 2,none⟩=some (.int .i64 p.1)/\w'.cell? ⟨b,off+k * 2+1,none⟩=some (.int .i64 p.2)/\w'.cell? ⟨b2,off2+k * 2,none⟩=some (.int .i64 q.1)/\w'.cell? ⟨b2,off2+k * 2+1,none⟩=some (.int .i64 q.2)) (first | exact ⟨hc1,hc2,hd1,hd2⟩ | exact hS2) ((go_at_call 94;refine HE.out.mono ?_;rintro e w2 ⟨rfl,hb2⟩;have hz:=hs.size;have hS2:w2.cell? ⟨b,off+k * 2,none⟩=some (.int .i64 p.1)/\w2.cell? ⟨b,off+k * 2+1,none⟩=some (.int .i64 p.2)/\w2.cell? ⟨b2,off2+k * 2,none⟩=some (.int .i64 q.1)/\w2.cell? ⟨b2,off2+k * 2+1,none⟩=some (.int .i64 q.2):=⟨(hb2.cell (p:=⟨b,off+k * 2,none⟩) (Nat.lt_of_lt_of_le h3 hz)).trans hc1,(hb2.cell (p:=⟨b,off+k * 2+1,none⟩) (Nat.lt_of_lt_of_le h3 hz)).trans hc2,(hb2.cell (p:=⟨b2,off2+k * 2,none⟩) (Nat.lt_of_lt_of_le g3 hz)).trans hd1,(hb2.cell (p:=⟨b2,off2+k * 2+1,none⟩) (Nat.lt_of_lt_of_le g3 hz)).trans hd2⟩))
              go_wp2
              go_roundw
              case rel=>exact ⟨k+1,by omega,by go_num,Hnx.out,hs.drew.trans (hb2.mono hs.size)⟩
              case measure=>simp [intOf];omega
            · rw [decide_eq_false he] at HE
              have Hno:=hide (Hno.out he)
              clear he Hnx
              go_wp2
              go_region_held_law (fun w'=>w'.cell? ⟨b,off+k * 2,none⟩=some (.int .i64 p.1)/\w'.cell? ⟨b,off+k * 2+1,none⟩=some (.int .i64 p.2)/\w'.cell? ⟨b2,off2+k * 2,none⟩=some (.int .i64 q.1)/\w'.cell? ⟨b2,off2+k * 2+1,none⟩=some (.int .i64 q.2)) (first | exact ⟨hc1,hc2,hd1,hd2⟩ | exact hS2) ((go_at_call 94;refine HE.out.mono ?_;rintro e w2 ⟨rfl,hb2⟩;have hz:=hs.size;have hS2:w2.cell? ⟨b,off+k * 2,none⟩=some (.int .i64 p.1)/\w2.cell? ⟨b,off+k * 2+1,none⟩=some (.int .i64 p.2)/\w2.cell? ⟨b2,off2+k * 2,none⟩=some (.int .i64 q.1)/\w2.cell? ⟨b2,off2+k * 2+1,none⟩=some (.int .i64 q.2):=⟨(hb2.cell (p:=⟨b,off+k * 2,none⟩) (Nat.lt_of_lt_of_le h3 hz)).trans hc1,(hb2.cell (p:=⟨b,off+k * 2+1,none⟩) (Nat.lt_of_lt_of_le h3 hz)).trans hc2,(hb2.cell (p:=⟨b2,off2+k * 2,none⟩) (Nat.lt_of_lt_of_le g3 hz)).trans hd1,(hb2.cell (p:=⟨b2,off2+k * 2+1,none⟩) (Nat.lt_of_lt_of_le g3 hz)).trans hd2⟩))
              go_wp2
              go_ret
              exact ⟨ret_bool Hno.out.symm,hs.drew.trans (hb2.mono hs.size)⟩
          · have hf:Hid (decide (l1=l2)=true):=hide (by
              rw [decide_eq_true]
              have:=Ht.out
              rwa [List.take_of_length_le (by omega),List.take_of_length_le (by omega)] at this)
            go_wp2
            go_ret
            exact ⟨ret_bool hf.out.symm,hs⟩
  · obtain ⟨a,cap,rfl⟩:=hr1.shape
    obtain ⟨a2,cap2,rfl⟩:=hr2.shape
    clear hr1 hr2
    have hlen:((l1.length:Int) != (l2.length:Int))=true:=by rw [bne_iff_ne];omega
    have hf:Hid (decide (l1=l2)=false):=hide (by rw [decide_eq_false];intro e;subst e;exact hne rfl)
    clear hne
    go_enter Try.func89,Try.ntmps89
    go_wp2
    go_ret
    exact ⟨ret_bool hf.out.symm,Below.refl _ _⟩
abbrev Ac:=ByteArray × Int × Int × Int × List (Int × Int)
def acV (a:Ac) (lv:Value):Value:=.agg #[.string a.1,.int .i64 a.2.1,.int .i64 a.2.2.1,.int .i64 a.2.2.2.1,lv]
theorem toAcct_any (a:Ac) (lv:Value) (w:World) (hr:RdL w lv a.2.2.2.2) (hl:a.2.2.2.2.length<=4000000) :
    Calls Try.prog 59 #[acV a lv] w fun e w'=>∃ lv',e=.returned (acV a lv')/\OwnL w.heap.size w' lv' a.2.2.2.2/\Below w.heap.size w w':=by
  obtain ⟨nm,fr,no,st,ls⟩:=a
  obtain ⟨av,cv,rfl⟩:=hr.shape
  have Hr:=hide hr
  clear hr
  simp only [acV] at *
  go_enter Try.func59,Try.ntmps59
  have HB0:=hide ((((Below.refl _ w).alloc (Nat.le_refl _) (.cells #[.string nm,.int .i64 fr,.int .i64 no,.int .i64 st,.slice av ls.length cv] 122)).alloc (by simp) (.cells #[.string { data:=#[] },.int .i64 0,.int .i64 0,.int .i64 0,.slice none 0 0] 135)).alloc (by simp;omega) (.cells #[.string nm,.int .i64 fr,.int .i64 no,.int .i64 st,.slice none 0 0] 135))
  go_wp2_with fail
  refine (toLeaveS_any _ ls _ (Hr.out.below HB0.out (Nat.le_refl _)) hl).mono ?_
  rintro e w4 ⟨lv',rfl,ho4,hb4⟩
  have hk:=(Blk.new ((w.alloc (.cells #[.string nm,.int .i64 fr,.int .i64 no,.int .i64 st,.slice av ls.length cv] 122)).alloc (.cells #[.string { data:=#[] },.int .i64 0,.int .i64 0,.int .i64 0,.slice none 0 0] 135)) 135 [.string nm,.int .i64 fr,.int .i64 no,.int .i64 st,.slice none 0 0]).below hb4 (by simp)
  simp only [World.size_alloc] at hk
  have c0:=hk.cell 0
  have c1:=hk.cell 1
  have c2:=hk.cell 2
  have c3:=hk.cell 3
  have c4:=hk.cell 4
  have f4:=hk.frozen 4
  simp only [List.getElem?_cons_zero,List.getElem?_cons_succ] at c0 c1 c2 c3 c4
  have hk1:=(Blk.below (Blk.new (w.alloc (.cells #[.string nm,.int .i64 fr,.int .i64 no,.int .i64 st,.slice av ls.length cv] 122)) 135 [.string { data:=#[] },.int .i64 0,.int .i64 0,.int .i64 0,.slice none 0 0]) ((Below.refl _ _).alloc (Nat.le_refl _) (.cells #[.string nm,.int .i64 fr,.int .i64 no,.int .i64 st,.slice none 0 0] 135)) (by simp)).below hb4 (by simp)
  simp only [World.size_alloc] at hk1
  have d0:=hk1.cell 0
  have d1:=hk1.cell 1
  have d2:=hk1.cell 2
  have d3:=hk1.cell 3
  have d4:=hk1.cell 4
  have g0:=hk1.frozen 0
  have g1:=hk1.frozen 1
  have g2:=hk1.frozen 2
  have g3:=hk1.frozen 3
  have g4:=hk1.frozen 4
  simp only [List.getElem?_cons_zero,List.getElem?_cons_succ] at d0 d1 d2 d3 d4
  have ho4':OwnL w.heap.size w4 lv' ls:=ho4.mono (by simp;omega)
  have ge4:=ho4.ge
  obtain ⟨av',cv',rfl⟩:=ho4.rd.shape
  have Ho:=hide ho4'
  have Hb4:=hide (HB0.out.trans (hb4.mono (by simp;omega)))
  clear ho4 ho4' hb4 hk hk1 HB0
  go_wp2
  refine bodyPost_ret (v:=.agg #[.string nm,.int .i64 fr,.int .i64 no,.int .i64 st,.slice av' ls.length cv']) (by simp [results,Try.f59,go_sem,d0,d1,d2,d3,d4]) rfl ?_
  have n1:∀ k,(Value.slice av' ls.length cv').ownBlock=some k->k ≠ w.heap.size+1:=fun k hk=>by have:=ge4 k hk;simp at this;omega
  have n2:∀ k,(Value.slice av' ls.length cv').ownBlock=some k->k ≠ w.heap.size+1+1:=fun k hk=>by have:=ge4 k hk;simp at this;omega
  refine ⟨_,rfl,row_set (row_set (row_set (row_set (row_set (row_set Ho.out _ _ _ n2) _ _ _ n1) _ _ _ n1) _ _ _ n1) _ _ _ n1) _ _ _ n1,?_⟩
  exact (((((Hb4.out.setCell (p:=⟨w.heap.size+1+1,4,none⟩) (by show w.heap.size<=w.heap.size+1+1;omega) _).setCell (p:=⟨w.heap.size+1,0,none⟩) (by show w.heap.size<=w.heap.size+1;omega) _).setCell (p:=⟨w.heap.size+1,1,none⟩) (by show w.heap.size<=w.heap.size+1;omega) _).setCell (p:=⟨w.heap.size+1,2,none⟩) (by show w.heap.size<=w.heap.size+1;omega) _).setCell (p:=⟨w.heap.size+1,3,none⟩) (by show w.heap.size<=w.heap.size+1;omega) _).setCell (p:=⟨w.heap.size+1,4,none⟩) (by show w.heap.size<=w.heap.size+1;omega) _
theorem eqAcct_any (a b:Ac) (la lb:Value) (w:World) (hra:RdL w la a.2.2.2.2) (hrb:RdL w lb b.2.2.2.2) (hl1:a.2.2.2.2.length<=4000000) (hl2:b.2.2.2.2.length<=4000000) :
    Calls Try.prog 70 #[acV a la,acV b lb] w fun e w'=>e=.returned (.bool (decide (a=b)))/\Below w.heap.size w w':=by
  obtain ⟨n1,f1,o1,s1,l1⟩:=a
  obtain ⟨n2,f2,o2,s2,l2⟩:=b
  obtain ⟨av,ac,rfl⟩:=hra.shape
  obtain ⟨bv,bc,rfl⟩:=hrb.shape
  have HB:=hide (((Below.refl _ w).alloc (Nat.le_refl _) (.cells #[.string n1,.int .i64 f1,.int .i64 o1,.int .i64 s1,.slice av l1.length ac] 135)).alloc (by simp) (.cells #[.string n2,.int .i64 f2,.int .i64 o2,.int .i64 s2,.slice bv l2.length bc] 135))
  have Ha:=hide (hra.below HB.out (Nat.le_refl _))
  have Hb:=hide (hrb.below HB.out (Nat.le_refl _))
  clear hra hrb
  simp only [acV] at *
  by_cases h1:n1=n2
  · by_cases h2:f1=f2
    · by_cases h3:o1=o2
      · by_cases h4:s1=s2
        · subst h1 h2 h3 h4
          have Hd:Hid (decide (((n1,f1,o1,s1,l1):Ac)=(n1,f1,o1,s1,l2))=decide (l1=l2)):=hide (by simp)
          have HE:=hide (eqLeaveS_any _ _ l1 l2 _ Ha.out Hb.out hl1 hl2)
          by_cases hq:l1=l2
          · rw [decide_eq_true hq] at HE Hd
            clear hq
            go_enter Try.func70,Try.ntmps70
            go_wp2_with fail
            refine HE.out.mono ?_
            rintro e w3 ⟨rfl,hb3⟩
            have hB3:=HB.out.trans (hb3.mono HB.out.size)
            go_wp2
            go_ret
            exact ⟨ret_bool Hd.out.symm,hB3⟩
          · rw [decide_eq_false hq] at HE Hd
            clear hq
            go_enter Try.func70,Try.ntmps70
            go_wp2_with fail
            refine HE.out.mono ?_
            rintro e w3 ⟨rfl,hb3⟩
            have hB3:=HB.out.trans (hb3.mono HB.out.size)
            go_wp2
            go_ret
            exact ⟨ret_bool Hd.out.symm,hB3⟩
        · subst h1 h2 h3
          have Hd:Hid (decide (((n1,f1,o1,s1,l1):Ac)=(n1,f1,o1,s2,l2))=false):=hide (by rw [decide_eq_false];intro e;simp only [Prod.mk.injEq] at e;exact h4 e.2.2.2.1)
          have hq:(s1 != s2)=true:=by rw [bne_iff_ne];exact h4
          clear h4
          go_enter Try.func70,Try.ntmps70
          go_wp2
          go_ret
          exact ⟨ret_bool Hd.out.symm,HB.out⟩
      · subst h1 h2
        have Hd:Hid (decide (((n1,f1,o1,s1,l1):Ac)=(n1,f1,o2,s2,l2))=false):=hide (by rw [decide_eq_false];intro e;simp only [Prod.mk.injEq] at e;exact h3 e.2.2.1)
        have hq:(o1 != o2)=true:=by rw [bne_iff_ne];exact h3
        clear h3
        go_enter Try.func70,Try.ntmps70
        go_wp2
        go_ret
        exact ⟨ret_bool Hd.out.symm,HB.out⟩
    · subst h1
      have Hd:Hid (decide (((n1,f1,o1,s1,l1):Ac)=(n1,f2,o2,s2,l2))=false):=hide (by rw [decide_eq_false];intro e;simp only [Prod.mk.injEq] at e;exact h2 e.2.1)
      have hq:(f1 != f2)=true:=by rw [bne_iff_ne];exact h2
      clear h2
      go_enter Try.func70,Try.ntmps70
      go_wp2
      go_ret
      exact ⟨ret_bool Hd.out.symm,HB.out⟩
  · have Hd:Hid (decide (((n1,f1,o1,s1,l1):Ac)=(n2,f2,o2,s2,l2))=false):=hide (by rw [decide_eq_false];intro e;simp only [Prod.mk.injEq] at e;exact h1 e.1)
    have hq:=bytes_ne h1
    clear h1
    go_enter Try.func70,Try.ntmps70
    go_wp2
    go_ret
    exact ⟨ret_bool Hd.out.symm,HB.out⟩
def szAc (a:Ac) (m:Int):Int:=if m - a.1.size < 0 then -1 else if m - a.1.size - a.2.2.2.2.length < 0 then -1 else m - a.1.size - a.2.2.2.2.length
theorem szAcct_any (a:Ac) (la:Value) (m:Int) (w:World) (hr:RdL w la a.2.2.2.2) (hm0:0<=m) (hm:m<=100000000) (hn:a.1.size<=9223372036854775807) (hl:a.2.2.2.2.length<=9223372036854775807) :
    Calls Try.prog 48 #[acV a la,.int .i64 m] w fun e w'=>e=.returned (.int .i64 (szAc a m))/\Below w.heap.size w w':=by
  obtain ⟨n1,f1,o1,s1,l1⟩:=a
  obtain ⟨av,ac,rfl⟩:=hr.shape
  have HB:=hide ((Below.refl _ w).alloc (Nat.le_refl _) (.cells #[.string n1,.int .i64 f1,.int .i64 o1,.int .i64 s1,.slice av l1.length ac] 122))
  clear hr
  simp only [acV] at *
  have w1:IntKind.i64.wrap (m - (n1.size:Int))=m - n1.size:=by rw [IntKind.wrap_i64];omega
  by_cases h1:m - (n1.size:Int) < 0
  · have Hs:Hid (szAc (n1,f1,o1,s1,l1) m=-1):=hide (by unfold szAc;rw [if_pos h1])
    go_enter Try.func48,Try.ntmps48
    go_wp2
    go_ret
    exact ⟨ret_int Hs.out.symm,HB.out⟩
  · have w2:IntKind.i64.wrap (m - (n1.size:Int) - (l1.length:Int))=m - n1.size - l1.length:=by rw [IntKind.wrap_i64];omega
    by_cases h2:m - (n1.size:Int) - (l1.length:Int) < 0
    · have Hs:Hid (szAc (n1,f1,o1,s1,l1) m=-1):=hide (by unfold szAc;rw [if_neg h1,if_pos h2])
      go_enter Try.func48,Try.ntmps48
      go_wp2
      go_ret
      exact ⟨ret_int Hs.out.symm,HB.out⟩
    · have Hs:Hid (szAc (n1,f1,o1,s1,l1) m=m - n1.size - l1.length):=hide (by unfold szAc;rw [if_neg h1,if_neg h2])
      go_enter Try.func48,Try.ntmps48
      go_wp2
      go_ret
      exact ⟨ret_int Hs.out.symm,HB.out⟩
end Go.Proofs.Ytfdbedenlbikgaa
