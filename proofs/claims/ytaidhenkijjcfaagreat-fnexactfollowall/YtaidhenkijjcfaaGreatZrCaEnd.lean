/- Which block is an End, and whether a certificate is of a block. -/
import Derived.Test.YtaidhenkijjcfaaGreatZrLgSpec
set_option maxRecDepth 20000
set_option maxHeartbeats 2000000
namespace Go.Proofs.YtaidhenkijjcfaaGreat
open Go.RowKit
set_option linter.unusedVariables false
theorem implWithinC_any (x a b:Int) (w:World) :
    Calls Tryz.prog 140 #[.int .i64 x,.int .i64 a,.int .i64 b] w fun e w'=>e=.returned (.bool (inB x a b))/\w'=w:=by
  by_cases h1:a<=x
  · by_cases h2:x<=b
    · have e:Hid (inB x a b=true):=hide (by simp [inB,h1,h2])
      go_enter Tryz.func140,Tryz.ntmps140
      go_wp2
      go_ret
      rw [e.out];exact ⟨rfl,rfl⟩
    · have e:Hid (inB x a b=false):=hide (by simp [inB,h1,h2])
      go_enter Tryz.func140,Tryz.ntmps140
      go_wp2
      go_ret
      rw [e.out];exact ⟨rfl,rfl⟩
  · have e:Hid (inB x a b=false):=hide (by simp [inB,h1])
    go_enter Tryz.func140,Tryz.ntmps140
    go_wp2
    go_ret
    rw [e.out];exact ⟨rfl,rfl⟩
theorem implIsRootQc_any (r b:Int) (vw:Value) (ws:List ByteArray) (w:World) (hrw:RdS w vw ws) (hlw:ws.length<=4000000) :
    Calls Tryz.prog 159 #[qcV r b vw] w fun e w'=>e=.returned (.bool (rootB r b ws))/\Below w.heap.size w w':=by
  obtain ⟨a,c,rfl⟩:=hrw.shape
  clear hrw
  simp only [qcV]
  have HB:=hide ((Below.refl _ w).alloc (Nat.le_refl _) (.cells #[.int .i64 r,.int .i64 b,.slice a ws.length c] 40))
  by_cases h1:r=0
  · by_cases h2:b=-1
    · by_cases h3:ws.length=0
      · have Hf:Hid (rootB r b ws=true):=hide (by unfold rootB;rw [decide_eq_true h1,decide_eq_true h2,decide_eq_true h3];rfl)
        have h3i:((ws.length:Int) == 0)=true:=by rw [beq_iff_eq];omega
        subst h1 h2
        generalize rootB 0 (-1) ws=X at Hf ⊢
        clear h3
        go_enter Tryz.func159,Tryz.ntmps159
        go_wp2
        go_ret
        exact ⟨ret_bool Hf.out.symm,HB.out⟩
      · have Hf:Hid (rootB r b ws=false):=hide (by unfold rootB;rw [decide_eq_false h3,Bool.and_false,Bool.and_false])
        have h3i:((ws.length:Int) == 0)=false:=by rw [beq_eq_false_iff_ne];omega
        subst h1 h2
        generalize rootB 0 (-1) ws=X at Hf ⊢
        go_enter Tryz.func159,Tryz.ntmps159
        go_wp2
        go_ret
        exact ⟨ret_bool Hf.out.symm,HB.out⟩
    · have Hf:Hid (rootB r b ws=false):=hide (by unfold rootB;rw [decide_eq_false h2,Bool.false_and,Bool.and_false])
      have h2i:(b == -1)=false:=by rw [beq_eq_false_iff_ne];exact h2
      subst h1
      generalize rootB 0 b ws=X at Hf ⊢
      clear h2
      go_enter Tryz.func159,Tryz.ntmps159
      go_wp2
      go_ret
      exact ⟨ret_bool Hf.out.symm,HB.out⟩
  · have Hf:Hid (rootB r b ws=false):=hide (by unfold rootB;rw [decide_eq_false h1,Bool.false_and])
    have h1i:(r == 0)=false:=by rw [beq_eq_false_iff_ne];exact h1
    generalize rootB r b ws=X at Hf ⊢
    clear h1
    go_enter Tryz.func159,Tryz.ntmps159
    go_wp2
    go_ret
    exact ⟨ret_bool Hf.out.symm,HB.out⟩
theorem isHim_any (p:Vl) (B:Nat) (s:ByteArray) (w:World) (hc:w.cell? ⟨B,0,none⟩=some (.string s)) (hB:B < w.heap.size) :
    Calls Tryz.prog 183 #[.agg #[.string p.1,.int .i64 p.2],.pointer (some ⟨B,0,none⟩)] w fun e w'=>e=.returned (.bool (decide (p.1=s)))/\Below w.heap.size w w':=by
  obtain ⟨a,b⟩:=p
  obtain ⟨w1,hw1⟩:∃ w1,w.alloc (.cells #[.string a,.int .i64 b] 100)=w1:=⟨_,rfl⟩
  have hB1:Below w.heap.size w w1:=by rw [<- hw1];exact (Below.refl _ w).alloc (Nat.le_refl _) _
  have k1:Blk w1 w.heap.size 100 [.string a,.int .i64 b]:=by rw [<- hw1];exact Blk.new w _ _
  have c0:=k1.cell 0
  simp only [List.getElem?_cons_zero] at c0
  have cB:=(hB1.cell (p:=⟨B,0,none⟩) hB).trans hc
  simp only
  clear hc k1
  by_cases h:a=s
  · rw [decide_eq_true h]
    subst h
    go_enter Tryz.func183,Tryz.ntmps183
    go_wp2
    go_ret
    exact ⟨rfl,hB1⟩
  · rw [decide_eq_false h]
    have hq:=bytes_ne h
    clear h
    go_enter Tryz.func183,Tryz.ntmps183
    go_wp2
    go_ret
    exact ⟨rfl,hB1⟩
theorem indexFn_any (v:Value) (l:List Vl) (B:Nat) (s:ByteArray) (w:World) (hr:RdV w v l) (hl:l.length<=4000000) (hc:w.cell? ⟨B,0,none⟩=some (.string s)) (hB:B < w.heap.size) :
    Calls Tryz.prog 188 #[v,.func (.func 183) #[] #[.pointer (some ⟨B,0,none⟩)]] w fun e w'=>(∃ i:Int,e=.returned (.int .i64 i)/\hasN (l.map (·.1)) s=decide (0<=i))/\Below w.heap.size w w':=by
  rcases hr with ⟨a,cap,rfl,rfl,-⟩ | ⟨b,off,cap,h0,rfl,h1,h2,h3,h4⟩
  · go_enter Tryz.func188,Tryz.ntmps188
    go_wp2
    refine wp_loop_rounds 1 ?_
    rw [rounds_succ]
    go_wp2
    go_ret
    exact ⟨⟨_,rfl,rfl⟩,Below.refl _ _⟩
  · have H4:=hide h4
    have Hc:=hide hc
    clear h4 hc
    go_enter Tryz.func188,Tryz.ntmps188
    go_wp2
    go_loopw [8] (fun i wr=>∃ k:Nat,k<=l.length/\i=.int .i64 k/\s ∉ (l.map (·.1)).take k/\Below w.heap.size w wr) (fun i _=>l.length - (intOf i).toNat)
    case atStart=>exact ⟨0,Nat.zero_le _,rfl,by simp,Below.refl _ _⟩
    case round =>
      obtain ⟨k,hk,rfl,hno,hb⟩:=hrel
      have Hno:=hide hno
      clear hno
      by_cases hlt:k < l.length
      · have c0:=(hb.cell (p:=⟨b,off+k * 2,none⟩) h3).trans (H4.out k hlt).1
        have c1:=(hb.cell (p:=⟨b,off+k * 2+1,none⟩) h3).trans (H4.out k hlt).2
        have hli:(k:Int) < (l.length:Int):=by omega
        have hlm:k < (l.map (·.1)).length:=by simpa using hlt
        have HC:=hide (isHim_any l[k] B s wr ((hb.cell (p:=⟨B,0,none⟩) hB).trans Hc.out) (Nat.lt_of_lt_of_le hB hb.size))
        by_cases he:l[k].1=s
        · have Hr:Hid (hasN (l.map (·.1)) s=decide (0<=(k:Int))):=hide (by rw [hasN_yes (by rw [<- he];exact List.mem_map_of_mem (List.getElem_mem _)),decide_eq_true (by omega)])
          rw [decide_eq_true he] at HC
          clear he Hno
          generalize l[k].1=x at c0 HC
          generalize l[k].2=y at c1 HC
          have Hb:=hide hb
          clear hb
          go_wp2_with fail
          refine HC.out.mono ?_
          rintro e w2 ⟨rfl,hb2⟩
          have HB2:=hide (Hb.out.trans (hb2.mono Hb.out.size))
          clear c0 c1 hb2
          go_wp2
          go_ret
          exact ⟨⟨_,rfl,Hr.out⟩,HB2.out⟩
        · have Hn2:=hide (mem_next hlm Hno.out (by simpa using he))
          rw [decide_eq_false he] at HC
          clear he Hno
          generalize l[k].1=x at c0 HC
          generalize l[k].2=y at c1 HC
          have Hb:=hide hb
          clear hb
          go_wp2_with fail
          refine HC.out.mono ?_
          rintro e w2 ⟨rfl,hb2⟩
          have HB2:=hide (Hb.out.trans (hb2.mono Hb.out.size))
          clear c0 c1 hb2
          go_wp2
          go_roundw
          case rel=>exact ⟨k+1,by omega,by go_num,Hn2.out,HB2.out⟩
          case measure=>simp [intOf];omega
      · have Hr:Hid (hasN (l.map (·.1)) s=decide ((0:Int)<=-1)):=hide (by rw [hasN_no (by have:=Hno.out;rwa [List.take_of_length_le (by simp;omega)] at this)];rfl)
        go_wp2
        go_ret
        exact ⟨⟨_,rfl,Hr.out⟩,hb⟩
theorem containsFn_any (v:Value) (l:List Vl) (B:Nat) (s:ByteArray) (w:World) (hr:RdV w v l) (hl:l.length<=4000000) (hc:w.cell? ⟨B,0,none⟩=some (.string s)) (hB:B < w.heap.size) :
    Calls Tryz.prog 182 #[v,.func (.func 183) #[] #[.pointer (some ⟨B,0,none⟩)]] w fun e w'=>e=.returned (.bool (hasN (l.map (·.1)) s))/\Below w.heap.size w w':=by
  obtain ⟨a,c,rfl⟩:=hr.shape
  have HI:=hide (indexFn_any _ l B s w hr hl hc hB)
  clear hr hc
  go_enter Tryz.func182,Tryz.ntmps182
  go_wp2_with fail
  refine HI.out.mono ?_
  rintro e w1 ⟨⟨i,rfl,hi⟩,hb⟩
  have Hi:=hide hi
  clear hi
  go_wp2
  go_ret
  exact ⟨ret_bool Hi.out.symm,hb⟩
theorem allI_no (l:List Vl) (ns:List ByteArray) (k:Nat) (h:k < ns.length) (hk:hasN (l.map (·.1)) ns[k]=false):ns.all (fun s=>hasN (l.map (·.1)) s)=false:=by
  rw [List.all_eq_false]
  exact ⟨ns[k],List.getElem_mem _,by simp [hk]⟩
theorem allI_yes (l:List Vl) (ns:List ByteArray) (h:∀ j (hj:j < ns.length),hasN (l.map (·.1)) ns[j]=true):ns.all (fun s=>hasN (l.map (·.1)) s)=true:=by
  rw [List.all_eq_true]
  intro s hs
  obtain ⟨j,hj,rfl⟩:=List.mem_iff_getElem.1 hs
  exact h j hj
theorem implAllIn_any (v vn:Value) (l:List Vl) (ns:List ByteArray) (w:World) (hr:RdV w v l) (hrn:RdS w vn ns) (hl:l.length<=4000000) (hln:ns.length<=4000000) :
    Calls Tryz.prog 175 #[v,vn] w fun e w'=>e=.returned (.bool (ns.all (fun s=>hasN (l.map (·.1)) s)))/\Below w.heap.size w w':=by
  have hmf:∀ (fn:Fn) (first cap:Array Value) (w:World),(Instr.makeFunc fn first cap).run Tryz.prog w=.ok (.func fn first cap) w:=fun _ _ _ _=>rfl
  obtain ⟨al,cl,rfl⟩:=hr.shape
  rcases hrn with ⟨a,cap,rfl,rfl,-⟩ | ⟨b,off,cap,h0,rfl,h1,h2,h3,h4⟩
  · clear hr
    go_enter Tryz.func175,Tryz.ntmps175
    go_wp2
    refine wp_loop_rounds 1 ?_
    rw [rounds_succ]
    go_wp2
    go_ret
    exact ⟨rfl,Below.refl _ _⟩
  · have H4:=hide h4
    have HI:=hide (fun B s w h1 h2 h3=>containsFn_any (.slice al l.length cl) l B s w h1 hl h2 h3)
    have Hr:=hide hr
    clear h4 hr
    have Hno:=hide (allI_no l ns)
    have Hyes:=hide (allI_yes l ns)
    generalize ns.all (fun s=>hasN (l.map (·.1)) s)=X at Hno Hyes ⊢
    go_enter Tryz.func175,Tryz.ntmps175
    go_wp2
    go_loopw [9] (fun i wr=>∃ k:Nat,k<=ns.length/\i=.int .i64 k/\(∀ j (hj:j < ns.length),j < k->hasN (l.map (·.1)) ns[j]=true)/\Below w.heap.size w wr) (fun i _=>ns.length - (intOf i).toNat)
    case atStart=>exact ⟨0,Nat.zero_le _,rfl,fun j _ hj=>by omega,Below.refl _ _⟩
    case round =>
      obtain ⟨k,hk,rfl,hok,hb⟩:=hrel
      have Hok:=hide hok
      clear hok
      by_cases hlt:k < ns.length
      · have hc:=(hb.cell (p:=⟨b,off+k,none⟩) h3).trans (H4.out k hlt)
        have hli:(k:Int) < (ns.length:Int):=by omega
        have Hno:=hide (Hno.out k hlt)
        have Hnx:Hid (hasN (l.map (·.1)) ns[k]=true->∀ j (hj:j < ns.length),j < k+1->hasN (l.map (·.1)) ns[j]=true):=hide (fun h j hj hjk=>by
          by_cases e:j=k
          · subst e;exact h
          · exact Hok.out j hj (by omega))
        generalize ns[k]=s at hc Hno Hnx
        have hb1:=hb.alloc hb.size (.cells #[.string s] 9)
        have k1:=Blk.new wr 9 [.string s]
        have HI2:=hide (HI.out wr.heap.size s _ (Hr.out.below hb1 (Nat.le_refl _)) (k1.cell 0) k1.lt)
        have Hb:=hide hb1
        clear hb hb1 k1
        cases hh:hasN (l.map (·.1)) s
        · rw [hh] at HI2
          have Hf:=hide (Hno.out hh)
          clear hh Hnx
          go_wp2_with fail
          refine HI2.out.mono ?_
          rintro e w2 ⟨rfl,hb2⟩
          have HB2:=hide (Hb.out.trans (hb2.mono Hb.out.size))
          go_wp2
          go_ret
          exact ⟨ret_bool Hf.out.symm,HB2.out⟩
        · rw [hh] at HI2
          have Hnx:=hide (Hnx.out hh)
          clear hh
          go_wp2_with fail
          refine HI2.out.mono ?_
          rintro e w2 ⟨rfl,hb2⟩
          have HB2:=hide (Hb.out.trans (hb2.mono Hb.out.size))
          clear hb2
          go_wp2
          go_roundw
          case rel=>exact ⟨k+1,by omega,by go_num,Hnx.out,HB2.out⟩
          case measure=>simp [intOf];omega
      · have Hf:=hide (Hyes.out (fun j hj=>Hok.out j hj (by omega)))
        have Hb:=hide hb
        clear hb
        go_wp2
        go_ret
        exact ⟨ret_bool Hf.out.symm,Hb.out⟩
theorem implSigners_any (v vn:Value) (l:List Vl) (ns:List ByteArray) (w:World) (hr:RdV w v l) (hrn:RdS w vn ns) (hl:l.length<=4000000) (hln:ns.length<=4000000) (hs:∀ s ∈ ns,s.size<=maxLen) (hm:ModV l) :
    Calls Tryz.prog 160 #[v,vn] w fun e w'=>e=.returned (.bool (allV l ns && quoB l ns))/\Below w.heap.size w w':=by
  obtain ⟨al,cl,rfl⟩:=hr.shape
  obtain ⟨a,c,rfl⟩:=hrn.shape
  have HN:=hide (implNamesOk_any (.slice a ns.length c) ns w hrn hln hs)
  have HQ:=hide (implIsQuorum_small (.slice al l.length cl) (.slice a ns.length c) l ns w hr hrn hl hln hm.1)
  have HA:=hide (fun V (hb:Below w.heap.size w V)=>implAllIn_any (.slice al l.length cl) (.slice a ns.length c) l ns V (hr.below hb (Nat.le_refl _)) (hrn.below hb (Nat.le_refl _)) hl hln)
  have HX:Hid ((allV l ns && quoB l ns)=(nmsB ns && (quoB l ns && ns.all (fun s=>hasN (l.map (·.1)) s)))):=hide (by
    unfold allV
    cases ns.all (fun s=>hasN (l.map (·.1)) s) <;> cases nmsB ns <;> cases quoB l ns <;> rfl)
  have HU:Hid (decide (2 * totalV l < 3 * weightV l ns)=quoB l ns):=hide rfl
  rw [HU.out] at HQ
  generalize (allV l ns && quoB l ns)=X at HX ⊢
  generalize nmsB ns=N0 at HX HN
  generalize quoB l ns=Q0 at HX HQ HU
  generalize ns.all (fun s=>hasN (l.map (·.1)) s)=A0 at HX HA
  clear hr hrn hs hm HU
  cases N0
  · rw [Bool.false_and] at HX
    go_enter Tryz.func160,Tryz.ntmps160
    go_wp2_with (go_at_call 170;refine HN.out.mono ?_;rintro e w3 ⟨rfl,rfl⟩)
    go_ret
    exact ⟨ret_bool HX.out.symm,Below.refl _ _⟩
  · rw [Bool.true_and] at HX
    cases Q0
    · rw [Bool.false_and] at HX
      go_enter Tryz.func160,Tryz.ntmps160
      go_wp2_with (first
        | (go_at_call 170;refine HN.out.mono ?_;rintro e w3 ⟨rfl,rfl⟩)
        | (go_at_call 174;refine HQ.out.mono ?_;rintro e w4 ⟨rfl,hb4⟩))
      go_ret
      exact ⟨ret_bool HX.out.symm,hb4⟩
    · rw [Bool.true_and] at HX
      go_enter Tryz.func160,Tryz.ntmps160
      go_wp2_with (first
        | (go_at_call 170;refine HN.out.mono ?_;rintro e w3 ⟨rfl,rfl⟩)
        | (go_at_call 174;refine HQ.out.mono ?_;rintro e w4 ⟨rfl,hb4⟩)
        | (go_at_call 175;refine (HA.out _ hb4).mono ?_;rintro e w5 ⟨rfl,hb5⟩))
      go_ret
      exact ⟨ret_bool HX.out.symm,hb4.trans (hb5.mono hb4.size)⟩
theorem implQcOk_any (v vw:Value) (l:List Vl) (r b:Int) (ws:List ByteArray) (w:World) (hr:RdV w v l) (hrw:RdS w vw ws) (hl:l.length<=4000000) (hlw:ws.length<=4000000) (hs:∀ s ∈ ws,s.size<=maxLen) (hm:ModV l) :
    Calls Tryz.prog 143 #[v,qcV r b vw] w fun e w'=>e=.returned (.bool (qcB l r b ws))/\Below w.heap.size w w':=by
  obtain ⟨al,cl,rfl⟩:=hr.shape
  obtain ⟨a,c,rfl⟩:=hrw.shape
  obtain ⟨w1,hw1⟩:∃ w1,w.alloc (.cells #[.int .i64 r,.int .i64 b,.slice a ws.length c] 40)=w1:=⟨_,rfl⟩
  have hb1:Below w.heap.size w w1:=by rw [<- hw1];exact (Below.refl _ w).alloc (Nat.le_refl _) _
  have k1:Blk w1 w.heap.size 40 [.int .i64 r,.int .i64 b,.slice a ws.length c]:=by rw [<- hw1];exact Blk.new w _ _
  have HR:=hide (implIsRootQc_any r b _ ws w1 (hrw.below hb1 (Nat.le_refl _)) hlw)
  have HA:=hide (fun V (hb:Below w.heap.size w V)=>implSigners_any (.slice al l.length cl) (.slice a ws.length c) l ws V (hr.below hb (Nat.le_refl _)) (hrw.below hb (Nat.le_refl _)) hl hlw hs hm)
  have HX:Hid (qcB l r b ws=(rootB r b ws || (inB r 1 10000 && (inB b 0 100000 && (allV l ws && quoB l ws))))):=hide rfl
  generalize qcB l r b ws=X at HX ⊢
  generalize rootB r b ws=R0 at HX HR
  generalize (allV l ws && quoB l ws)=A0 at HX HA
  simp only [qcV] at *
  have x0:=k1.cell 0
  have x1:=k1.cell 1
  have x2:=k1.cell 2
  simp only [List.getElem?_cons_zero,List.getElem?_cons_succ] at x0 x1 x2
  clear hr hrw hs hm
  cases R0
  · rw [Bool.false_or] at HX
    go_enter Tryz.func143,Tryz.ntmps143
    go_wp2_with fail
    refine HR.out.mono ?_
    rintro e w2 ⟨rfl,hb2⟩
    have k2:=k1.below hb2 k1.lt
    have hB2:=hb1.trans (hb2.mono hb1.size)
    have y0:=k2.cell 0
    have y1:=k2.cell 1
    have y2:=k2.cell 2
    simp only [List.getElem?_cons_zero,List.getElem?_cons_succ] at y0 y1 y2
    clear x0 x1 x2 k1 hb2 hw1
    cases h1:inB r 1 10000
    · rw [h1,Bool.false_and] at HX
      go_wp2_with (go_at_call 140;refine (implWithinC_any _ _ _ _).mono ?_;rintro e w3 ⟨rfl,rfl⟩)
      go_ret
      exact ⟨ret_bool HX.out.symm,hB2⟩
    · rw [h1,Bool.true_and] at HX
      cases h2:inB b 0 100000
      · rw [h2,Bool.false_and] at HX
        go_wp2_with (go_at_call 140;refine (implWithinC_any _ _ _ _).mono ?_;rintro e w3 ⟨rfl,rfl⟩)
        go_ret
        exact ⟨ret_bool HX.out.symm,hB2⟩
      · rw [h2,Bool.true_and] at HX
        have HA2:=hide (HA.out _ hB2)
        go_wp2_with (first
          | (go_at_call 140;refine (implWithinC_any _ _ _ _).mono ?_;rintro e w3 ⟨rfl,rfl⟩)
          | (go_at_call 160;refine HA2.out.mono ?_;rintro e w4 ⟨rfl,hb4⟩))
        go_ret
        exact ⟨ret_bool HX.out.symm,hB2.trans (hb4.mono hB2.size)⟩
  · rw [Bool.true_or] at HX
    go_enter Tryz.func143,Tryz.ntmps143
    go_wp2_with fail
    refine HR.out.mono ?_
    rintro e w2 ⟨rfl,hb2⟩
    have hB2:=hb1.trans (hb2.mono hb1.size)
    clear x0 x1 x2 k1 hb2
    go_wp2
    go_ret
    exact ⟨ret_bool HX.out.symm,hB2⟩
end Go.Proofs.YtaidhenkijjcfaaGreat
namespace Go.Proofs.YtaidhenkijjcfaaGreat
open Go.RowKit Go.Sort
set_option linter.unusedVariables false
theorem Tryz.infoK14:(Tryz.prog.info? 92).map (·.size)=some 14:=by kernel_rfl
theorem endsEpoch_any (b:Bk) (v:Bv) (w:World):Calls Tryz.prog 43 #[bkV b v] w fun e w'=>e=.returned (.bool b.en)/\Below w.heap.size w w':=by
  obtain ⟨w1,hw1⟩:∃ x,w.alloc (.cells (bkC b v).toArray 92)=x:=⟨_,rfl⟩
  have b1:Below w.heap.size w w1:=by rw [<- hw1];exact (Below.refl _ w).alloc (Nat.le_refl _) _
  have k1:Blk w1 w.heap.size 92 (bkC b v):=by rw [<- hw1];exact Blk.new w _ _
  have q1:w1.cell? ⟨w.heap.size,11,none⟩=some (.bool b.en):=k1.cell 11
  rw [show bkV b v=.agg (bkC b v).toArray from rfl]
  clear k1
  generalize bkC b v=cs at hw1 ⊢
  generalize b.en=x at q1 ⊢
  go_enter Tryz.func43,Tryz.ntmps43
  go_upto_region 1 with fail
  (try rw [hw1])
  clear hw1
  go_wp2
  go_ret
  exact ⟨rfl,b1⟩
theorem indexEnd_any (v:Value) (l:List Bk) (w:World) (hr:RdKs w v l) (hl:l.length<=4000000) :
    Calls Tryz.prog 42 #[v,.func (.func 43) #[] #[]] w fun e w'=>(∃ i:Int,e=.returned (.int .i64 i)/\((i=-1/\l.any (fun x=>x.en)=false)\/∃ k:Nat,∃ h:k < l.length,i=(k:Int)/\l[k].en=true/\l.find? (fun x=>x.en)=some l[k]))/\Below w.heap.size w w':=by
  obtain ⟨a,c,rfl⟩:=hr.shape
  have Hr:=hide hr
  have IB:=hide Tryz.infoK14
  clear hr
  go_enter Tryz.func42,Tryz.ntmps42
  go_wp2
  go_loopw [8] (fun i wr=>∃ k:Nat,k<=l.length/\i=.int .i64 k/\(∀ j (h:j < l.length),j < k->l[j].en=false)/\Below w.heap.size w wr) (fun i _=>l.length - (intOf i).toNat)
  case atStart=>exact ⟨0,Nat.zero_le _,rfl,fun j _ h=>by omega,Below.refl _ _⟩
  case round =>
    obtain ⟨k,hk,rfl,hno,hb⟩:=hrel
    have Hno:=hide hno
    have Hb:=hide hb
    clear hno
    by_cases hlt:k < l.length
    · obtain ⟨b,off,rfl,hbw,hcap,hat⟩:=Hr.out.atC (by omega)
      obtain ⟨bv,hk1,hrk⟩:=hat k hlt
      have hli:(k:Int) < (l.length:Int):=by omega
      have RG:=hide (range_below hk1.range hb hbw)
      have HC:=hide (endsEpoch_any l[k] bv wr)
      have IE:=hide (show (Tryz.prog.info? 92).map (·.size)=some (bkC l[k] bv).length from IB.out)
      clear hat hk1 hrk hb
      rw [show bkV l[k] bv=.agg (bkC l[k] bv).toArray from rfl] at HC
      generalize bkC l[k] bv=cs at RG HC IE
      cases hen:l[k].en
      · rw [hen] at HC
        have Hn2:=hide (show ∀ j (h:j < l.length),j < k+1->l[j].en=false from fun j h hj=>by
          rcases Nat.lt_succ_iff_lt_or_eq.1 hj with h' | h'
          · exact Hno.out j h h'
          · subst h';exact hen)
        clear hen Hno
        go_wp2_with (first
          | (refine wpList_load_mid rfl 92 _ rfl b (off+k * 14) rfl cs _ RG.out Tryz.underlying92 rfl IE.out ?_)
          | fail)
        refine HC.out.mono ?_
        rintro e w2 ⟨rfl,hb2⟩
        have HB2:=hide (Hb.out.trans (hb2.mono Hb.out.size))
        clear hb2 HC RG
        go_wp2
        go_roundw
        case rel=>exact ⟨k+1,by omega,by go_num,Hn2.out,HB2.out⟩
        case measure=>simp [intOf];omega
      · rw [hen] at HC
        have Hf:=hide (show l.find? (fun x=>x.en)=some l[k] from List.find?_eq_some_iff_getElem.2 ⟨hen,k,hlt,rfl,fun j hj=>by simp [Hno.out j (by omega) hj]⟩)
        have Hen:=hide hen
        clear hen Hno
        go_wp2_with (first
          | (refine wpList_load_mid rfl 92 _ rfl b (off+k * 14) rfl cs _ RG.out Tryz.underlying92 rfl IE.out ?_)
          | fail)
        refine HC.out.mono ?_
        rintro e w2 ⟨rfl,hb2⟩
        have HB2:=hide (Hb.out.trans (hb2.mono Hb.out.size))
        clear hb2 HC RG
        go_wp2
        go_ret
        exact ⟨⟨_,rfl,.inr ⟨k,hlt,rfl,Hen.out,Hf.out⟩⟩,HB2.out⟩
    · have Hf:=hide (show l.any (fun x=>x.en)=false from by
        rw [List.any_eq_false]
        intro x hx
        obtain ⟨j,hj,rfl⟩:=List.mem_iff_getElem.1 hx
        rw [Hno.out j hj (by omega)]
        decide)
      clear Hno hb
      go_wp2
      go_ret
      exact ⟨⟨_,rfl,.inl ⟨rfl,Hf.out⟩⟩,Hb.out⟩
theorem containsEnd_any (v:Value) (l:List Bk) (w:World) (hr:RdKs w v l) (hl:l.length<=4000000) :
    Calls Tryz.prog 102 #[v,.func (.func 43) #[] #[]] w fun e w'=>e=.returned (.bool (l.any (fun x=>x.en)))/\Below w.heap.size w w':=by
  obtain ⟨a,c,rfl⟩:=hr.shape
  have HI:=hide (indexEnd_any _ l w hr hl)
  clear hr
  go_enter Tryz.func102,Tryz.ntmps102
  go_wp2_with fail
  refine HI.out.mono ?_
  rintro e w1 ⟨⟨i,rfl,hi⟩,hb⟩
  have Hi:=hide (show decide ((0:Int)<=i)=l.any (fun x=>x.en) from by
    rcases hi with ⟨rfl,hi⟩ | ⟨k,hk,rfl,hen,_⟩
    · rw [hi];rfl
    · rw [decide_eq_true (by omega)]
      exact (List.any_eq_true.2 ⟨l[k],List.getElem_mem _,hen⟩).symm)
  clear hi HI
  go_wp2
  go_ret
  exact ⟨ret_bool Hi.out,hb⟩
theorem certifies_any (e:Int) (vs vq:Value) (st:List Vl) (qr qb:Int) (qw:List ByteArray) (b:Bk) (v:Bv) (w:World) (hr:RdV w vs st) (hq:RdS w vq qw) (hl:st.length<=4000000) (hlq:qw.length<=4000000) (hs:∀ s ∈ qw,s.size<=maxLen) (hm:ModV st) :
    Calls Tryz.prog 101 #[.agg #[.int .i64 e,vs],qcV qr qb vq,bkV b v] w fun en w'=>en=.returned (.bool (cfB st qr qb qw b))/\Below w.heap.size w w':=by
  obtain ⟨aS,cS,rfl⟩:=hr.shape
  obtain ⟨aQ,cQ,rfl⟩:=hq.shape
  obtain ⟨w1,hw1⟩:∃ x,((w.alloc (.cells #[.int .i64 e,.slice aS st.length cS] 35)).alloc (.cells #[.int .i64 qr,.int .i64 qb,.slice aQ qw.length cQ] 40)).alloc (.cells (bkC b v).toArray 92)=x:=⟨_,rfl⟩
  have s1:(w.alloc (.cells #[.int .i64 e,.slice aS st.length cS] 35)).heap.size=w.heap.size+1:=by simp
  have s2:((w.alloc (.cells #[.int .i64 e,.slice aS st.length cS] 35)).alloc (.cells #[.int .i64 qr,.int .i64 qb,.slice aQ qw.length cQ] 40)).heap.size=w.heap.size+1+1:=by simp
  have b1:Below w.heap.size w w1:=by rw [<- hw1];exact (((Below.refl _ w).alloc (Nat.le_refl _) _).alloc (by rw [s1];omega) _).alloc (by rw [s2];omega) _
  have kC:Blk w1 w.heap.size 35 [.int .i64 e,.slice aS st.length cS]:=by rw [<- hw1];exact (Blk.new w _ _).below (((Below.refl (w.heap.size+1) _).alloc (by rw [s1];exact Nat.le_refl _) _).alloc (by rw [s2];omega) _) (by omega)
  have kQ:Blk w1 (w.heap.size+1) 40 [.int .i64 qr,.int .i64 qb,.slice aQ qw.length cQ]:=by
    rw [<- hw1]
    exact (Blk.newR _ _ [.int .i64 qr,.int .i64 qb,.slice aQ qw.length cQ] _ s1.symm).below ((Below.refl (w.heap.size+1+1) _).alloc (by rw [s2];exact Nat.le_refl _) _) (by omega)
  have kB:Blk w1 (w.heap.size+1+1) 92 (bkC b v):=by rw [<- hw1];exact Blk.newR _ _ (bkC b v) _ s2.symm
  have HQ:=hide (implQcOk_any (.slice aS st.length cS) (.slice aQ qw.length cQ) st qr qb qw w1 (hr.below b1 (Nat.le_refl _)) (hq.below b1 (Nat.le_refl _)) hl hlq hs hm)
  have HX:Hid (cfB st qr qb qw b=(decide (qb=b.id) && (decide (qr=b.rd) && qcB st qr qb qw))):=hide rfl
  have c1:=kC.cell 1
  have q0:=kQ.cell 0
  have q1:=kQ.cell 1
  have q2:=kQ.cell 2
  simp only [List.getElem?_cons_zero,List.getElem?_cons_succ] at c1 q0 q1 q2
  have b0:w1.cell? ⟨w.heap.size+1+1,0,none⟩=some (.int .i64 b.id):=kB.cell 0
  have b2:w1.cell? ⟨w.heap.size+1+1,2,none⟩=some (.int .i64 b.rd):=kB.cell 2
  have B1:=hide b1
  rw [show bkV b v=.agg (bkC b v).toArray from rfl]
  simp only [qcV] at HQ ⊢
  clear kC kQ kB s1 s2 hr hq hs hm b1
  generalize cfB st qr qb qw b=X at HX ⊢
  generalize bkC b v=cs at hw1 ⊢
  generalize b.id=i at b0 HX
  generalize b.rd=r at b2 HX
  generalize qcB st qr qb qw=Y at HQ HX
  by_cases h1:qb=i
  · rw [decide_eq_true h1,Bool.true_and] at HX
    have h1b:(qb == i)=true:=by rw [h1];simp
    clear h1
    by_cases h2:qr=r
    · rw [decide_eq_true h2,Bool.true_and] at HX
      have h2b:(qr == r)=true:=by rw [h2];simp
      clear h2
      go_enter Tryz.func101,Tryz.ntmps101
      go_upto_region 1 with fail
      (try rw [hw1])
      clear hw1
      go_wp2_with fail
      refine HQ.out.mono ?_
      rintro en w2 ⟨rfl,hb2⟩
      have HB:=hide (B1.out.trans (hb2.mono B1.out.size))
      clear hb2
      go_wp2
      go_ret
      exact ⟨ret_bool HX.out.symm,HB.out⟩
    · rw [decide_eq_false h2,Bool.false_and] at HX
      have h2b:(qr == r)=false:=by rw [beq_eq_false_iff_ne];exact h2
      clear h2 HQ
      go_enter Tryz.func101,Tryz.ntmps101
      go_upto_region 1 with fail
      (try rw [hw1])
      clear hw1
      go_wp2
      go_ret
      exact ⟨ret_bool HX.out.symm,B1.out⟩
  · rw [decide_eq_false h1,Bool.false_and] at HX
    have h1b:(qb == i)=false:=by rw [beq_eq_false_iff_ne];exact h1
    clear h1 HQ
    go_enter Tryz.func101,Tryz.ntmps101
    go_upto_region 1 with fail
    (try rw [hw1])
    clear hw1
    go_wp2
    go_ret
    exact ⟨ret_bool HX.out.symm,B1.out⟩
end Go.Proofs.YtaidhenkijjcfaaGreat
