/- The model's orders. -/
import Derived.Test.YtckahjabljffjaaGreatZwTrSrch
set_option maxRecDepth 20000
set_option maxHeartbeats 2000000
namespace Go.Proofs.YtckahjabljffjaaGreat
open Go.RowKit
set_option linter.unusedVariables false
theorem RdKs.take {w:World} {a:Option Addr} {cap:Nat} {l:List Bk} (h:RdKs w (.slice a l.length cap) l) (k:Nat) (hk:k<=l.length):RdKs w (.slice a k cap) (l.take k):=by
  rcases h with ⟨a',cap',e,rfl,hn⟩ | ⟨b,off,cap',h0,e,h1,h2,h3,h4⟩
  · simp only [Value.slice.injEq] at e
    obtain ⟨rfl,-,rfl⟩:=e
    obtain rfl:k=0:=by simpa using hk
    exact .inl ⟨_,_,rfl,rfl,hn⟩
  · simp only [Value.slice.injEq] at e
    obtain ⟨rfl,-,rfl⟩:=e
    by_cases hz:k=0
    · subst hz;exact .inl ⟨_,_,rfl,by simp,fun h=>by cases h⟩
    · have hl:(l.take k).length=k:=by simp;omega
      refine .inr ⟨b,off,cap,?_,by rw [hl],by omega,h2,h3,fun i hi=>?_⟩
      · intro e;rw [e] at hl;simp at hl;omega
      · rw [hl] at hi
        obtain ⟨bv,p,q⟩:=h4 i (by omega)
        exact ⟨bv,by simpa using p,by simpa using q⟩
theorem specAt_any (v:Value) (l:List Bk) (id:Int) (w:World) (hr:RdKs w v l) (hl:l.length<=4000000) :
    Calls Tryz.prog 201 #[v,.int .i64 id] w fun e w'=>e=.returned (.int .i64 (atI l id))/\w'=w:=by
  rcases hr with ⟨a,cap,rfl,rfl,-⟩ | ⟨b,off,cap,h0,rfl,h1,h2,h3,h4⟩
  · have HX:=hide (atI_eq (l:=[]) (id:=id) (.inl ⟨rfl,fun j h=>by simp at h⟩))
    go_enter Tryz.func201,Tryz.ntmps201
    go_wp2
    refine wp_loop_rounds 1 ?_
    rw [rounds_succ]
    go_wp2
    go_ret
    exact ⟨ret_int HX.out.symm,rfl⟩
  · have H4 := hide h4
    clear h4 h0
    go_enter Tryz.func201,Tryz.ntmps201
    go_wp2
    go_loopw [5] (fun i wr=>∃ k:Nat,k<=l.length/\i=.int .i64 k/\(∀ j (h:j < l.length),j < k->l[j].id ≠ id)/\wr=w) (fun i _=>l.length - (intOf i).toNat)
    case atStart=>exact ⟨0,Nat.zero_le _,rfl,fun j _ h=>by omega,rfl⟩
    case round =>
      obtain ⟨k,hk,rfl,hno,rfl⟩:=hrel
      have Hno:=hide hno
      clear hno
      by_cases hlt:k < l.length
      · obtain ⟨lv,hat,-⟩:=H4.out k hlt
        have c0:=hat.cells.1
        clear hat
        have hli:(k:Int) < (l.length:Int):=by omega
        by_cases he:l[k].id=id
        · have HX:=hide (atI_eq (l:=l) (id:=id) (.inr ⟨k,hlt,rfl,he,Hno.out⟩))
          rw [he] at c0
          clear he
          go_wp2
          go_ret
          exact ⟨ret_int HX.out.symm,rfl⟩
        · have HY:Hid (∀ j (h:j < l.length),j < k+1->l[j].id ≠ id):=hide (fun j h hj=>by
            by_cases e:j=k
            · subst e;exact he
            · exact Hno.out j h (by omega))
          generalize l[k].id=d at c0 he
          go_wp2
          go_roundw
          case rel=>exact ⟨k+1,by omega,by go_num,HY.out,by first | trivial | rfl⟩
          case measure=>simp [intOf];omega
      · have HX:=hide (atI_eq (l:=l) (id:=id) (.inl ⟨rfl,fun j h=>Hno.out j h (by omega)⟩))
        go_wp2
        go_ret
        exact ⟨ret_int HX.out.symm,rfl⟩
theorem toList_inj5 {t:ByteArray} (h:t.toList=[]):t=ByteArray.empty:=by
  rw [ByteArray.toList_eq] at h
  exact ByteArray.ext (Array.toList_inj.1 h)
theorem specTxOk_any (t:Tx5) (w:World) (hf:t.2.1.size<=maxLen) (ht:t.2.2.1.size<=maxLen) :
    Calls Tryz.prog 106 #[txV t] w fun e w'=>e=.returned (.bool (txB t))/\Below w.heap.size w w':=by
  obtain ⟨k,f,tO,am,no⟩:=t
  simp only [txV] at *
  obtain ⟨w0,hw0⟩:∃ w0,w.alloc (.cells #[.int .i64 k,.string f,.string tO,.int .i64 am,.int .i64 no] 159)=w0:=⟨_,rfl⟩
  have HB:Hid (Below w.heap.size w w0):=hide (by rw [<- hw0];exact (Below.refl _ w).alloc (Nat.le_refl _) _)
  have hk:w0.heap[w.heap.size]?=some (.cells #[.int .i64 k,.string f,.string tO,.int .i64 am,.int .i64 no] 159 (0,0)):=by rw [<- hw0];exact heap_alloc_new w _
  have k0:w0.cell? ⟨w.heap.size,0,none⟩=some (.int .i64 k):=by simp [World.cell?,hk]
  have k1:w0.cell? ⟨w.heap.size,1,none⟩=some (.string f):=by simp [World.cell?,hk]
  have k2:w0.cell? ⟨w.heap.size,2,none⟩=some (.string tO):=by simp [World.cell?,hk]
  have k3:w0.cell? ⟨w.heap.size,3,none⟩=some (.int .i64 am):=by simp [World.cell?,hk]
  have k4:w0.cell? ⟨w.heap.size,4,none⟩=some (.int .i64 no):=by simp [World.cell?,hk]
  clear hk
  have Hx:Hid (txB (k,f,tO,am,no)=(nmB f && (inB am 1 1000000 && (inB no 0 10000 && (if k=1 then nmB tO else (inB k 2 3 && decide (tO=ByteArray.empty))))))):=hide rfl
  generalize txB (k,f,tO,am,no)=X at Hx
  cases e0:nmB f
  · rw [e0,Bool.false_and] at Hx
    go_enter Tryz.func106,Tryz.ntmps106
    go_wp2_with (first
      | (go_at_call 70;refine (specNameOk_any _ _ (by assumption)).mono ?_;rintro e w0 ⟨rfl,rfl⟩)
      | (go_at_call 68;refine (l1In_any _ _ _ _).mono ?_;rintro e w0 ⟨rfl,rfl⟩))
    go_ret
    exact ⟨ret_bool Hx.out.symm,HB.out⟩
  · cases e1:inB am 1 1000000
    · rw [e0,e1,Bool.true_and,Bool.false_and] at Hx
      go_enter Tryz.func106,Tryz.ntmps106
      go_wp2_with (first
        | (go_at_call 70;refine (specNameOk_any _ _ (by assumption)).mono ?_;rintro e w0 ⟨rfl,rfl⟩)
        | (go_at_call 68;refine (l1In_any _ _ _ _).mono ?_;rintro e w0 ⟨rfl,rfl⟩))
      go_ret
      exact ⟨ret_bool Hx.out.symm,HB.out⟩
    · cases e2:inB no 0 10000
      · rw [e0,e1,e2,Bool.true_and,Bool.true_and,Bool.false_and] at Hx
        go_enter Tryz.func106,Tryz.ntmps106
        go_wp2_with (first
          | (go_at_call 70;refine (specNameOk_any _ _ (by assumption)).mono ?_;rintro e w0 ⟨rfl,rfl⟩)
          | (go_at_call 68;refine (l1In_any _ _ _ _).mono ?_;rintro e w0 ⟨rfl,rfl⟩))
        go_ret
        exact ⟨ret_bool Hx.out.symm,HB.out⟩
      · rw [e0, e1,e2,Bool.true_and,Bool.true_and,Bool.true_and] at Hx
        by_cases hk1:k=1
        · rw [if_pos hk1] at Hx
          subst hk1
          go_enter Tryz.func106,Tryz.ntmps106
          go_wp2_with (first
            | (go_at_call 70;refine (specNameOk_any _ _ (by assumption)).mono ?_;rintro e w0 ⟨rfl,rfl⟩)
            | (go_at_call 68;refine (l1In_any _ _ _ _).mono ?_;rintro e w0 ⟨rfl,rfl⟩))
          go_ret
          exact ⟨ret_bool Hx.out.symm,HB.out⟩
        · rw [if_neg hk1] at Hx
          have hkb:(k == 1)=false:=by rw [beq_eq_false_iff_ne];exact hk1
          clear hk1
          cases e3:inB k 2 3
          · rw [e3,Bool.false_and] at Hx
            go_enter Tryz.func106,Tryz.ntmps106
            go_wp2_with (first
              | (go_at_call 70;refine (specNameOk_any _ _ (by assumption)).mono ?_;rintro e w0 ⟨rfl,rfl⟩)
              | (go_at_call 68;refine (l1In_any _ _ _ _).mono ?_;rintro e w0 ⟨rfl,rfl⟩))
            go_ret
            exact ⟨ret_bool Hx.out.symm,HB.out⟩
          · by_cases e4:tO=ByteArray.empty
            · rw [e3,decide_eq_true e4,Bool.true_and] at Hx
              subst e4
              go_enter Tryz.func106,Tryz.ntmps106
              go_wp2_with (first
                | (go_at_call 70;refine (specNameOk_any _ _ (by assumption)).mono ?_;rintro e w0 ⟨rfl,rfl⟩)
                | (go_at_call 68;refine (l1In_any _ _ _ _).mono ?_;rintro e w0 ⟨rfl,rfl⟩))
              go_ret
              exact ⟨ret_bool Hx.out.symm,HB.out⟩
            · rw [e3,decide_eq_false e4,Bool.true_and] at Hx
              have hne:tO.toList.isEmpty=false:=by
                cases h:tO.toList.isEmpty
                · rfl
                · exact absurd (toList_inj5 (List.isEmpty_iff.1 h)) e4
              clear e4
              go_enter Tryz.func106,Tryz.ntmps106
              go_wp2_with (first
                | (go_at_call 70;refine (specNameOk_any _ _ (by assumption)).mono ?_;rintro e w0 ⟨rfl,rfl⟩)
                | (go_at_call 68;refine (l1In_any _ _ _ _).mono ?_;rintro e w0 ⟨rfl,rfl⟩))
              go_ret
              exact ⟨ret_bool Hx.out.symm,HB.out⟩
theorem specTxLess_any (a b:Tx5) (w:World):Calls Tryz.prog 200 #[txV a,txV b] w fun e w'=>e=.returned (.bool (lessT a b))/\Below w.heap.size w w':=by
  obtain ⟨k1,f1,t1,m1,n1⟩:=a
  obtain ⟨k2,f2,t2,m2,n2⟩:=b
  simp only [txV]
  have HB:=hide (((Below.refl _ w).alloc (Nat.le_refl _) (.cells #[.int .i64 k1,.string f1,.string t1,.int .i64 m1,.int .i64 n1] 159)).alloc (by simp) (.cells #[.int .i64 k2,.string f2,.string t2,.int .i64 m2,.int .i64 n2] 159))
  by_cases h1:f1=f2
  · by_cases h2:n1=n2
    · by_cases h3:k1=k2
      · by_cases h4:t1=t2
        · have Hl:Hid (lessT (k1,f1,t1,m1,n1) (k2,f2,t2,m2,n2)=decide (m1 < m2)):=hide (by simp [lessT,h1,h2,h3,h4])
          generalize lessT (k1,f1,t1,m1,n1) (k2,f2,t2,m2,n2)=X at Hl
          subst h1 h2 h3 h4
          go_enter Tryz.func200,Tryz.ntmps200
          go_wp2
          go_ret
          exact ⟨ret_bool Hl.out.symm,HB.out⟩
        · have Hl:Hid (lessT (k1,f1,t1,m1,n1) (k2,f2,t2,m2,n2)=Op.bytesLess t1.toList t2.toList):=hide (by simp [lessT,h1,h2,h3,h4])
          generalize lessT (k1,f1,t1,m1,n1) (k2,f2,t2,m2,n2)=X at Hl
          have hq:=bytes_ne h4
          subst h1 h2 h3
          clear h4
          go_enter Tryz.func200,Tryz.ntmps200
          go_wp2
          go_ret
          exact ⟨ret_bool Hl.out.symm,HB.out⟩
      · have Hl:Hid (lessT (k1,f1,t1,m1,n1) (k2,f2,t2,m2,n2)=decide (k1 < k2)):=hide (by simp [lessT,h1,h2,h3])
        generalize lessT (k1,f1,t1,m1,n1) (k2,f2,t2,m2,n2)=X at Hl
        have hq:(k1 != k2)=true:=by rw [bne_iff_ne];exact h3
        subst h1 h2
        clear h3
        go_enter Tryz.func200,Tryz.ntmps200
        go_wp2
        go_ret
        exact ⟨ret_bool Hl.out.symm,HB.out⟩
    · have Hl:Hid (lessT (k1,f1,t1,m1,n1) (k2,f2,t2,m2,n2)=decide (n1 < n2)):=hide (by simp [lessT,h1,h2])
      generalize lessT (k1,f1,t1,m1,n1) (k2,f2,t2,m2,n2)=X at Hl
      have hq:(n1 != n2)=true:=by rw [bne_iff_ne];exact h2
      subst h1
      clear h2
      go_enter Tryz.func200,Tryz.ntmps200
      go_wp2
      go_ret
      exact ⟨ret_bool Hl.out.symm,HB.out⟩
  · have Hl:Hid (lessT (k1,f1,t1,m1,n1) (k2,f2,t2,m2,n2)=Op.bytesLess f1.toList f2.toList):=hide (by simp [lessT,h1])
    generalize lessT (k1,f1,t1,m1,n1) (k2,f2,t2,m2,n2)=X at Hl
    have hq:=bytes_ne h1
    clear h1
    go_enter Tryz.func200,Tryz.ntmps200
    go_wp2
    go_ret
    exact ⟨ret_bool Hl.out.symm,HB.out⟩
end Go.Proofs.YtckahjabljffjaaGreat
