/- The landed code's certificates of leaving. -/
import Derived.Test.YtckahjabljffjaaGreatZwAcMem
set_option maxRecDepth 20000
set_option maxHeartbeats 2000000
namespace Go.Proofs.YtckahjabljffjaaGreat
open Go.RowKit
set_option linter.unusedVariables false
theorem implWithinC_any (x a b:Int) (w:World) :
    Calls Tryz.prog 74 #[.int .i64 x,.int .i64 a,.int .i64 b] w fun e w'=>e=.returned (.bool (inB x a b))/\w'=w:=by
  by_cases h1:a<=x
  · by_cases h2:x<=b
    · have e:Hid (inB x a b=true):=hide (by simp [inB,h1,h2])
      go_enter Tryz.func74,Tryz.ntmps74
      go_wp2
      go_ret
      rw [e.out];exact ⟨rfl,rfl⟩
    · have e:Hid (inB x a b=false):=hide (by simp [inB,h1,h2])
      go_enter Tryz.func74,Tryz.ntmps74
      go_wp2
      go_ret
      rw [e.out];exact ⟨rfl,rfl⟩
  · have e:Hid (inB x a b=false):=hide (by simp [inB,h1])
    go_enter Tryz.func74,Tryz.ntmps74
    go_wp2
    go_ret
    rw [e.out];exact ⟨rfl,rfl⟩
theorem implIsRootQc_any (r b:Int) (vw:Value) (ws:List ByteArray) (w:World) (hrw:RdS w vw ws) (hlw:ws.length<=4000000) :
    Calls Tryz.prog 207 #[qcV r b vw] w fun e w'=>e=.returned (.bool (rootB r b ws))/\Below w.heap.size w w':=by
  obtain ⟨a,c,rfl⟩:=hrw.shape
  clear hrw
  simp only [qcV]
  have HB:=hide ((Below.refl _ w).alloc (Nat.le_refl _) (.cells #[.int .i64 r,.int .i64 b,.slice a ws.length c] 66))
  by_cases h1:r=0
  · by_cases h2:b=-1
    · by_cases h3:ws.length=0
      · have Hf:Hid (rootB r b ws=true):=hide (by unfold rootB;rw [decide_eq_true h1,decide_eq_true h2,decide_eq_true h3];rfl)
        have h3i:((ws.length:Int) == 0)=true:=by rw [beq_iff_eq];omega
        subst h1 h2
        generalize rootB 0 (-1) ws=X at Hf ⊢
        clear h3
        go_enter Tryz.func207,Tryz.ntmps207
        go_wp2
        go_ret
        exact ⟨ret_bool Hf.out.symm,HB.out⟩
      · have Hf:Hid (rootB r b ws=false):=hide (by unfold rootB;rw [decide_eq_false h3,Bool.and_false,Bool.and_false])
        have h3i:((ws.length:Int) == 0)=false:=by rw [beq_eq_false_iff_ne];omega
        subst h1 h2
        generalize rootB 0 (-1) ws=X at Hf ⊢
        go_enter Tryz.func207,Tryz.ntmps207
        go_wp2
        go_ret
        exact ⟨ret_bool Hf.out.symm,HB.out⟩
    · have Hf:Hid (rootB r b ws=false):=hide (by unfold rootB;rw [decide_eq_false h2,Bool.false_and,Bool.and_false])
      have h2i:(b == -1)=false:=by rw [beq_eq_false_iff_ne];exact h2
      subst h1
      generalize rootB 0 b ws=X at Hf ⊢
      clear h2
      go_enter Tryz.func207,Tryz.ntmps207
      go_wp2
      go_ret
      exact ⟨ret_bool Hf.out.symm,HB.out⟩
  · have Hf:Hid (rootB r b ws=false):=hide (by unfold rootB;rw [decide_eq_false h1,Bool.false_and])
    have h1i:(r == 0)=false:=by rw [beq_eq_false_iff_ne];exact h1
    generalize rootB r b ws=X at Hf ⊢
    clear h1
    go_enter Tryz.func207,Tryz.ntmps207
    go_wp2
    go_ret
    exact ⟨ret_bool Hf.out.symm,HB.out⟩
theorem isHim_any (p:Vl) (B:Nat) (s:ByteArray) (w:World) (hc:w.cell? ⟨B,0,none⟩=some (.string s)) (hB:B < w.heap.size) :
    Calls Tryz.prog 248 #[.agg #[.string p.1,.int .i64 p.2],.pointer (some ⟨B,0,none⟩)] w fun e w'=>e=.returned (.bool (decide (p.1=s)))/\Below w.heap.size w w':=by
  obtain ⟨a,b⟩:=p
  obtain ⟨w1,hw1⟩:∃ w1,w.alloc (.cells #[.string a,.int .i64 b] 174)=w1:=⟨_,rfl⟩
  have hB1:Below w.heap.size w w1:=by rw [<- hw1];exact (Below.refl _ w).alloc (Nat.le_refl _) _
  have k1:Blk w1 w.heap.size 174 [.string a,.int .i64 b]:=by rw [<- hw1];exact Blk.new w _ _
  have c0:=k1.cell 0
  simp only [List.getElem?_cons_zero] at c0
  have cB:=(hB1.cell (p:=⟨B,0,none⟩) hB).trans hc
  simp only
  clear hc k1
  by_cases h:a=s
  · rw [decide_eq_true h]
    subst h
    go_enter Tryz.func248,Tryz.ntmps248
    go_wp2
    go_ret
    exact ⟨rfl,hB1⟩
  · rw [decide_eq_false h]
    have hq:=bytes_ne h
    clear h
    go_enter Tryz.func248,Tryz.ntmps248
    go_wp2
    go_ret
    exact ⟨rfl,hB1⟩
theorem indexFn_any (v:Value) (l:List Vl) (B:Nat) (s:ByteArray) (w:World) (hr:RdV w v l) (hl:l.length<=4000000) (hc:w.cell? ⟨B,0,none⟩=some (.string s)) (hB:B < w.heap.size) :
    Calls Tryz.prog 252 #[v,.func (.func 248) #[] #[.pointer (some ⟨B,0,none⟩)]] w fun e w'=>(∃ i:Int,e=.returned (.int .i64 i)/\hasN (l.map (·.1)) s=decide (0<=i))/\Below w.heap.size w w':=by
  rcases hr with ⟨a,cap,rfl,rfl,-⟩ | ⟨b,off,cap,h0,rfl,h1,h2,h3,h4⟩
  · go_enter Tryz.func252,Tryz.ntmps252
    go_wp2
    refine wp_loop_rounds 1 ?_
    rw [rounds_succ]
    go_wp2
    go_ret
    exact ⟨⟨_,rfl,rfl⟩,Below.refl _ _⟩
  · have H4:=hide h4
    have Hc:=hide hc
    clear h4 hc
    go_enter Tryz.func252,Tryz.ntmps252
    go_wp2
    go_loopw [8] (fun i wr=>∃ k:Nat,k<=l.length/\i=.int .i64 k/\s ∉ (l.map (·.1)).take k/\Below w.heap.size w wr) (fun i _=>l.length - (intOf i).toNat)
    case atStart=>exact ⟨0,Nat.zero_le _,rfl,by simp,Below.refl _ _⟩
    case round =>
      obtain ⟨k,hk,rfl,hno,hb⟩:=hrel
      have Hno:=hide hno
      clear hno
      by_cases hlt:k < l.length
      · have c0:=(hb.cell (p:=⟨b,off+k * 2,none⟩) h3).trans (H4.out k hlt).1
        have c1:=(hb.cell (p:=⟨b,off+k * 2+1,none⟩) h3).trans (H4.out k hlt).2
        have hli:(k:Int) < (l.length:Int):=by omega
        have hlm:k < (l.map (·.1)).length:=by simpa using hlt
        have HC:=hide (isHim_any l[k] B s wr ((hb.cell (p:=⟨B,0,none⟩) hB).trans Hc.out) (Nat.lt_of_lt_of_le hB hb.size))
        by_cases he:l[k].1=s
        · have Hr:Hid (hasN (l.map (·.1)) s=decide (0<=(k:Int))):=hide (by rw [hasN_yes (by rw [<- he];exact List.mem_map_of_mem (List.getElem_mem _)),decide_eq_true (by omega)])
          rw [decide_eq_true he] at HC
          clear he Hno
          generalize l[k].1=x at c0 HC
          generalize l[k].2=y at c1 HC
          have Hb:=hide hb
          clear hb
          go_wp2_with fail
          refine HC.out.mono ?_
          rintro e w2 ⟨rfl,hb2⟩
          have HB2:=hide (Hb.out.trans (hb2.mono Hb.out.size))
          clear c0 c1 hb2
          go_wp2
          go_ret
          exact ⟨⟨_,rfl,Hr.out⟩,HB2.out⟩
        · have Hn2:=hide (mem_next hlm Hno.out (by simpa using he))
          rw [decide_eq_false he] at HC
          clear he Hno
          generalize l[k].1=x at c0 HC
          generalize l[k].2=y at c1 HC
          have Hb:=hide hb
          clear hb
          go_wp2_with fail
          refine HC.out.mono ?_
          rintro e w2 ⟨rfl,hb2⟩
          have HB2:=hide (Hb.out.trans (hb2.mono Hb.out.size))
          clear c0 c1 hb2
          go_wp2
          go_roundw
          case rel=>exact ⟨k+1,by omega,by go_num,Hn2.out,HB2.out⟩
          case measure=>simp [intOf];omega
      · have Hr:Hid (hasN (l.map (·.1)) s=decide ((0:Int)<=-1)):=hide (by rw [hasN_no (by have:=Hno.out;rwa [List.take_of_length_le (by simp;omega)] at this)];rfl)
        go_wp2
        go_ret
        exact ⟨⟨_,rfl,Hr.out⟩,hb⟩
theorem containsFn_any (v:Value) (l:List Vl) (B:Nat) (s:ByteArray) (w:World) (hr:RdV w v l) (hl:l.length<=4000000) (hc:w.cell? ⟨B,0,none⟩=some (.string s)) (hB:B < w.heap.size) :
    Calls Tryz.prog 247 #[v,.func (.func 248) #[] #[.pointer (some ⟨B,0,none⟩)]] w fun e w'=>e=.returned (.bool (hasN (l.map (·.1)) s))/\Below w.heap.size w w':=by
  obtain ⟨a,c,rfl⟩:=hr.shape
  have HI:=hide (indexFn_any _ l B s w hr hl hc hB)
  clear hr hc
  go_enter Tryz.func247,Tryz.ntmps247
  go_wp2_with fail
  refine HI.out.mono ?_
  rintro e w1 ⟨⟨i,rfl,hi⟩,hb⟩
  have Hi:=hide hi
  clear hi
  go_wp2
  go_ret
  exact ⟨ret_bool Hi.out.symm,hb⟩
theorem allI_no (l:List Vl) (ns:List ByteArray) (k:Nat) (h:k < ns.length) (hk:hasN (l.map (·.1)) ns[k]=false):ns.all (fun s=>hasN (l.map (·.1)) s)=false:=by
  rw [List.all_eq_false]
  exact ⟨ns[k],List.getElem_mem _,by simp [hk]⟩
theorem allI_yes (l:List Vl) (ns:List ByteArray) (h:∀ j (hj:j < ns.length),hasN (l.map (·.1)) ns[j]=true):ns.all (fun s=>hasN (l.map (·.1)) s)=true:=by
  rw [List.all_eq_true]
  intro s hs
  obtain ⟨j,hj,rfl⟩:=List.mem_iff_getElem.1 hs
  exact h j hj
theorem implAllIn_any (v vn:Value) (l:List Vl) (ns:List ByteArray) (w:World) (hr:RdV w v l) (hrn:RdS w vn ns) (hl:l.length<=4000000) (hln:ns.length<=4000000) :
    Calls Tryz.prog 237 #[v,vn] w fun e w'=>e=.returned (.bool (ns.all (fun s=>hasN (l.map (·.1)) s)))/\Below w.heap.size w w':=by
  have hmf:∀ (fn:Fn) (first cap:Array Value) (w:World),(Instr.makeFunc fn first cap).run Tryz.prog w=.ok (.func fn first cap) w:=fun _ _ _ _=>rfl
  obtain ⟨al,cl,rfl⟩:=hr.shape
  rcases hrn with ⟨a,cap,rfl,rfl,-⟩ | ⟨b,off,cap,h0,rfl,h1,h2,h3,h4⟩
  · clear hr
    go_enter Tryz.func237,Tryz.ntmps237
    go_wp2
    refine wp_loop_rounds 1 ?_
    rw [rounds_succ]
    go_wp2
    go_ret
    exact ⟨rfl,Below.refl _ _⟩
  · have H4:=hide h4
    have HI:=hide (fun B s w h1 h2 h3=>containsFn_any (.slice al l.length cl) l B s w h1 hl h2 h3)
    have Hr:=hide hr
    clear h4 hr
    have Hno:=hide (allI_no l ns)
    have Hyes:=hide (allI_yes l ns)
    generalize ns.all (fun s=>hasN (l.map (·.1)) s)=X at Hno Hyes ⊢
    go_enter Tryz.func237,Tryz.ntmps237
    go_wp2
    go_loopw [9] (fun i wr=>∃ k:Nat,k<=ns.length/\i=.int .i64 k/\(∀ j (hj:j < ns.length),j < k->hasN (l.map (·.1)) ns[j]=true)/\Below w.heap.size w wr) (fun i _=>ns.length - (intOf i).toNat)
    case atStart=>exact ⟨0,Nat.zero_le _,rfl,fun j _ hj=>by omega,Below.refl _ _⟩
    case round =>
      obtain ⟨k,hk,rfl,hok,hb⟩:=hrel
      have Hok:=hide hok
      clear hok
      by_cases hlt:k < ns.length
      · have hc:=(hb.cell (p:=⟨b,off+k,none⟩) h3).trans (H4.out k hlt)
        have hli:(k:Int) < (ns.length:Int):=by omega
        have Hno:=hide (Hno.out k hlt)
        have Hnx:Hid (hasN (l.map (·.1)) ns[k]=true->∀ j (hj:j < ns.length),j < k+1->hasN (l.map (·.1)) ns[j]=true):=hide (fun h j hj hjk=>by
          by_cases e:j=k
          · subst e;exact h
          · exact Hok.out j hj (by omega))
        generalize ns[k]=s at hc Hno Hnx
        have hb1:=hb.alloc hb.size (.cells #[.string s] 9)
        have k1:=Blk.new wr 9 [.string s]
        have HI2:=hide (HI.out wr.heap.size s _ (Hr.out.below hb1 (Nat.le_refl _)) (k1.cell 0) k1.lt)
        have Hb:=hide hb1
        clear hb hb1 k1
        cases hh:hasN (l.map (·.1)) s
        · rw [hh] at HI2
          have Hf:=hide (Hno.out hh)
          clear hh Hnx
          go_wp2_with fail
          refine HI2.out.mono ?_
          rintro e w2 ⟨rfl,hb2⟩
          have HB2:=hide (Hb.out.trans (hb2.mono Hb.out.size))
          go_wp2
          go_ret
          exact ⟨ret_bool Hf.out.symm,HB2.out⟩
        · rw [hh] at HI2
          have Hnx:=hide (Hnx.out hh)
          clear hh
          go_wp2_with fail
          refine HI2.out.mono ?_
          rintro e w2 ⟨rfl,hb2⟩
          have HB2:=hide (Hb.out.trans (hb2.mono Hb.out.size))
          clear hb2
          go_wp2
          go_roundw
          case rel=>exact ⟨k+1,by omega,by go_num,Hnx.out,HB2.out⟩
          case measure=>simp [intOf];omega
      · have Hf:=hide (Hyes.out (fun j hj=>Hok.out j hj (by omega)))
        have Hb:=hide hb
        clear hb
        go_wp2
        go_ret
        exact ⟨ret_bool Hf.out.symm,Hb.out⟩
theorem implSigners_any (v vn:Value) (l:List Vl) (ns:List ByteArray) (w:World) (hr:RdV w v l) (hrn:RdS w vn ns) (hl:l.length<=4000000) (hln:ns.length<=4000000) (hs:∀ s ∈ ns,s.size<=maxLen) (hm:ModV l) :
    Calls Tryz.prog 227 #[v,vn] w fun e w'=>e=.returned (.bool (allV l ns && quoB l ns))/\Below w.heap.size w w':=by
  obtain ⟨al,cl,rfl⟩:=hr.shape
  obtain ⟨a,c,rfl⟩:=hrn.shape
  have HN:=hide (implNamesOk_any (.slice a ns.length c) ns w hrn hln hs)
  have HQ:=hide (implIsQuorum_small (.slice al l.length cl) (.slice a ns.length c) l ns w hr hrn hl hln hm.1)
  have HA:=hide (fun V (hb:Below w.heap.size w V)=>implAllIn_any (.slice al l.length cl) (.slice a ns.length c) l ns V (hr.below hb (Nat.le_refl _)) (hrn.below hb (Nat.le_refl _)) hl hln)
  have HX:Hid ((allV l ns && quoB l ns)=(nmsB ns && (quoB l ns && ns.all (fun s=>hasN (l.map (·.1)) s)))):=hide (by
    unfold allV
    cases ns.all (fun s=>hasN (l.map (·.1)) s) <;> cases nmsB ns <;> cases quoB l ns <;> rfl)
  have HU:Hid (decide (2 * totalV l < 3 * weightV l ns)=quoB l ns):=hide rfl
  rw [HU.out] at HQ
  generalize (allV l ns && quoB l ns)=X at HX ⊢
  generalize nmsB ns=N0 at HX HN
  generalize quoB l ns=Q0 at HX HQ HU
  generalize ns.all (fun s=>hasN (l.map (·.1)) s)=A0 at HX HA
  clear hr hrn hs hm HU
  cases N0
  · rw [Bool.false_and] at HX
    go_enter Tryz.func227,Tryz.ntmps227
    go_wp2_with (go_at_call 30;refine HN.out.mono ?_;rintro e w3 ⟨rfl,rfl⟩)
    go_ret
    exact ⟨ret_bool HX.out.symm,Below.refl _ _⟩
  · rw [Bool.true_and] at HX
    cases Q0
    · rw [Bool.false_and] at HX
      go_enter Tryz.func227,Tryz.ntmps227
      go_wp2_with (first
        | (go_at_call 30;refine HN.out.mono ?_;rintro e w3 ⟨rfl,rfl⟩)
        | (go_at_call 236;refine HQ.out.mono ?_;rintro e w4 ⟨rfl,hb4⟩))
      go_ret
      exact ⟨ret_bool HX.out.symm,hb4⟩
    · rw [Bool.true_and] at HX
      go_enter Tryz.func227,Tryz.ntmps227
      go_wp2_with (first
        | (go_at_call 30;refine HN.out.mono ?_;rintro e w3 ⟨rfl,rfl⟩)
        | (go_at_call 236;refine HQ.out.mono ?_;rintro e w4 ⟨rfl,hb4⟩)
        | (go_at_call 237;refine (HA.out _ hb4).mono ?_;rintro e w5 ⟨rfl,hb5⟩))
      go_ret
      exact ⟨ret_bool HX.out.symm,hb4.trans (hb5.mono hb4.size)⟩
theorem implQcOk_any (v vw:Value) (l:List Vl) (r b:Int) (ws:List ByteArray) (w:World) (hr:RdV w v l) (hrw:RdS w vw ws) (hl:l.length<=4000000) (hlw:ws.length<=4000000) (hs:∀ s ∈ ws,s.size<=maxLen) (hm:ModV l) :
    Calls Tryz.prog 215 #[v,qcV r b vw] w fun e w'=>e=.returned (.bool (qcB l r b ws))/\Below w.heap.size w w':=by
  obtain ⟨al,cl,rfl⟩:=hr.shape
  obtain ⟨a,c,rfl⟩:=hrw.shape
  obtain ⟨w1,hw1⟩:∃ w1,w.alloc (.cells #[.int .i64 r,.int .i64 b,.slice a ws.length c] 66)=w1:=⟨_,rfl⟩
  have hb1:Below w.heap.size w w1:=by rw [<- hw1];exact (Below.refl _ w).alloc (Nat.le_refl _) _
  have k1:Blk w1 w.heap.size 66 [.int .i64 r,.int .i64 b,.slice a ws.length c]:=by rw [<- hw1];exact Blk.new w _ _
  have HR:=hide (implIsRootQc_any r b _ ws w1 (hrw.below hb1 (Nat.le_refl _)) hlw)
  have HA:=hide (fun V (hb:Below w.heap.size w V)=>implSigners_any (.slice al l.length cl) (.slice a ws.length c) l ws V (hr.below hb (Nat.le_refl _)) (hrw.below hb (Nat.le_refl _)) hl hlw hs hm)
  have HX:Hid (qcB l r b ws=(rootB r b ws || (inB r 1 10000 && (inB b 0 100000 && (allV l ws && quoB l ws))))):=hide rfl
  generalize qcB l r b ws=X at HX ⊢
  generalize rootB r b ws=R0 at HX HR
  generalize (allV l ws && quoB l ws)=A0 at HX HA
  simp only [qcV] at *
  have x0:=k1.cell 0
  have x1:=k1.cell 1
  have x2:=k1.cell 2
  simp only [List.getElem?_cons_zero,List.getElem?_cons_succ] at x0 x1 x2
  clear hr hrw hs hm
  cases R0
  · rw [Bool.false_or] at HX
    go_enter Tryz.func215,Tryz.ntmps215
    go_wp2_with fail
    refine HR.out.mono ?_
    rintro e w2 ⟨rfl,hb2⟩
    have k2:=k1.below hb2 k1.lt
    have hB2:=hb1.trans (hb2.mono hb1.size)
    have y0:=k2.cell 0
    have y1:=k2.cell 1
    have y2:=k2.cell 2
    simp only [List.getElem?_cons_zero,List.getElem?_cons_succ] at y0 y1 y2
    clear x0 x1 x2 k1 hb2 hw1
    cases h1:inB r 1 10000
    · rw [h1,Bool.false_and] at HX
      go_wp2_with (go_at_call 74;refine (implWithinC_any _ _ _ _).mono ?_;rintro e w3 ⟨rfl,rfl⟩)
      go_ret
      exact ⟨ret_bool HX.out.symm,hB2⟩
    · rw [h1,Bool.true_and] at HX
      cases h2:inB b 0 100000
      · rw [h2,Bool.false_and] at HX
        go_wp2_with (go_at_call 74;refine (implWithinC_any _ _ _ _).mono ?_;rintro e w3 ⟨rfl,rfl⟩)
        go_ret
        exact ⟨ret_bool HX.out.symm,hB2⟩
      · rw [h2,Bool.true_and] at HX
        have HA2:=hide (HA.out _ hB2)
        go_wp2_with (first
          | (go_at_call 74;refine (implWithinC_any _ _ _ _).mono ?_;rintro e w3 ⟨rfl,rfl⟩)
          | (go_at_call 227;refine HA2.out.mono ?_;rintro e w4 ⟨rfl,hb4⟩))
        go_ret
        exact ⟨ret_bool HX.out.symm,hB2.trans (hb4.mono hB2.size)⟩
  · rw [Bool.true_or] at HX
    go_enter Tryz.func215,Tryz.ntmps215
    go_wp2_with fail
    refine HR.out.mono ?_
    rintro e w2 ⟨rfl,hb2⟩
    have hB2:=hb1.trans (hb2.mono hb1.size)
    clear x0 x1 x2 k1 hb2
    go_wp2
    go_ret
    exact ⟨ret_bool HX.out.symm,hB2⟩
theorem implIsNoTc_any (r:Int) (vw vh:Value) (ws:List ByteArray) (hs:List Int) (w:World) (hrw:RdS w vw ws) (hrh:RdI w vh hs) (hlw:ws.length<=4000000) (hlh:hs.length<=4000000) :
    Calls Tryz.prog 208 #[tcV r vw vh] w fun e w'=>e=.returned (.bool (noneB r ws hs))/\Below w.heap.size w w':=by
  obtain ⟨a,c,rfl⟩:=hrw.shape
  obtain ⟨a2,c2,rfl⟩:=hrh.shape
  clear hrw hrh
  simp only [tcV]
  have HB:=hide ((Below.refl _ w).alloc (Nat.le_refl _) (.cells #[.int .i64 r,.slice a ws.length c,.slice a2 hs.length c2] 69))
  by_cases h1:r=0
  · by_cases h2:ws.length=0
    · by_cases h3:hs.length=0
      · have Hf:Hid (noneB r ws hs=true):=hide (by unfold noneB;rw [decide_eq_true h1,decide_eq_true h2,decide_eq_true h3];rfl)
        have h2i:((ws.length:Int) == 0)=true:=by rw [beq_iff_eq];omega
        have h3i:((hs.length:Int) == 0)=true:=by rw [beq_iff_eq];omega
        subst h1
        generalize noneB 0 ws hs=X at Hf ⊢
        clear h2 h3
        go_enter Tryz.func208,Tryz.ntmps208
        go_wp2
        go_ret
        exact ⟨ret_bool Hf.out.symm,HB.out⟩
      · have Hf:Hid (noneB r ws hs=false):=hide (by unfold noneB;rw [decide_eq_false h3,Bool.and_false,Bool.and_false])
        have h2i:((ws.length:Int) == 0)=true:=by rw [beq_iff_eq];omega
        have h3i:((hs.length:Int) == 0)=false:=by rw [beq_eq_false_iff_ne];omega
        subst h1
        generalize noneB 0 ws hs=X at Hf ⊢
        clear h2 h3
        go_enter Tryz.func208,Tryz.ntmps208
        go_wp2
        go_ret
        exact ⟨ret_bool Hf.out.symm,HB.out⟩
    · have Hf:Hid (noneB r ws hs=false):=hide (by unfold noneB;rw [decide_eq_false h2,Bool.false_and,Bool.and_false])
      have h2i:((ws.length:Int) == 0)=false:=by rw [beq_eq_false_iff_ne];omega
      subst h1
      generalize noneB 0 ws hs=X at Hf ⊢
      clear h2
      go_enter Tryz.func208,Tryz.ntmps208
      go_wp2
      go_ret
      exact ⟨ret_bool Hf.out.symm,HB.out⟩
  · have Hf:Hid (noneB r ws hs=false):=hide (by unfold noneB;rw [decide_eq_false h1,Bool.false_and])
    have h1i:(r == 0)=false:=by rw [beq_eq_false_iff_ne];exact h1
    generalize noneB r ws hs=X at Hf ⊢
    clear h1
    go_enter Tryz.func208,Tryz.ntmps208
    go_wp2
    go_ret
    exact ⟨ret_bool Hf.out.symm,HB.out⟩
theorem implHighsOk_any (r:Int) (vw vh:Value) (ws:List ByteArray) (hs:List Int) (w:World) (hrw:RdS w vw ws) (hrh:RdI w vh hs) (hlw:ws.length<=4000000) (hlh:hs.length<=4000000) (hr1:1<=r) (hr2:r<=10000) :
    Calls Tryz.prog 209 #[tcV r vw vh] w fun e w'=>e=.returned (.bool (decide (hs.length=ws.length) && hisB r hs))/\Below w.heap.size w w':=by
  obtain ⟨a,c,rfl⟩:=hrw.shape
  obtain ⟨a2,c2,rfl⟩:=hrh.shape
  simp only [tcV]
  obtain ⟨w1,hw1⟩:∃ w1,w.alloc (.cells #[.int .i64 r,.slice a ws.length c,.slice a2 hs.length c2] 69)=w1:=⟨_,rfl⟩
  have hb1:Below w.heap.size w w1:=by rw [<- hw1];exact (Below.refl _ w).alloc (Nat.le_refl _) _
  have k1:Blk w1 w.heap.size 69 [.int .i64 r,.slice a ws.length c,.slice a2 hs.length c2]:=by rw [<- hw1];exact Blk.new w _ _
  have Hrh:=hide hrh
  have hwr:IntKind.i64.wrap (r - 1)=r - 1:=by rw [IntKind.wrap_i64];omega
  have Hno:=hide (fun k h hk=>show (decide (hs.length=ws.length) && hisB r hs)=false by rw [his_no r hs k h hk,Bool.and_false])
  have Hyes:=hide (fun h=>show (decide (hs.length=ws.length) && hisB r hs)=decide (hs.length=ws.length) by rw [his_yes r hs h,Bool.and_true])
  have HE:Hid (((hs.length:Int) == (ws.length:Int))=decide (hs.length=ws.length)):=hide (by
    by_cases h:hs.length=ws.length
    · rw [decide_eq_true h,beq_iff_eq];omega
    · rw [decide_eq_false h,beq_eq_false_iff_ne];omega)
  generalize decide (hs.length=ws.length)=D at HE Hno Hyes ⊢
  generalize (D && hisB r hs)=X at Hno Hyes ⊢
  have x2:=k1.cell 2
  simp only [List.getElem?_cons_zero,List.getElem?_cons_succ] at x2
  have K1:=hide k1
  have HB1:=hide hb1
  clear hrw hrh k1 hb1 hr1 hr2
  go_enter Tryz.func209,Tryz.ntmps209
  go_wp2
  go_loopw [8] (fun iv wr=>∃ i:Nat,i<=hs.length/\iv=.int .i64 (i:Int)/\(∀ j (hj:j < hs.length),j < i->inB hs[j] 0 (r - 1)=true)/\wr=w1) (fun iv _=>hs.length - (intOf iv).toNat)
  case atStart=>exact ⟨0,Nat.zero_le _,rfl,fun j _ hj=>by omega,rfl⟩
  case round =>
    obtain ⟨i,hi,rfl,hok,rfl⟩:=hrel
    have t0:=K1.out.cell 0
    have t1:=K1.out.cell 1
    simp only [List.getElem?_cons_zero,List.getElem?_cons_succ] at t0 t1
    have Hok:=hide hok
    clear hok
    by_cases hlt:i < hs.length
    · obtain ⟨bh,oh,rfl,hc1,hc2,hbh,hch⟩:=Hrh.out.at hlt
      have c0:=(HB1.out.cell (p:=⟨bh,oh+i,none⟩) hbh).trans hch
      have hli:(i:Int) < (hs.length:Int):=by omega
      have Hno:=hide (Hno.out i hlt)
      have Hnx:Hid (inB hs[i] 0 (r - 1)=true->∀ j (hj:j < hs.length),j < i+1->inB hs[j] 0 (r - 1)=true):=hide (fun h j hj hji=>by
        by_cases e:j=i
        · subst e;exact h
        · exact Hok.out j hj (by omega))
      generalize hs[i]=x at c0 hch Hno Hnx
      clear hch
      cases hx:inB x 0 (r - 1)
      · have Hf:=hide (Hno.out hx)
        go_wp2_with (go_at_call 74;refine (implWithinC_any _ _ _ _).mono ?_;rintro e w3 ⟨rfl,rfl⟩)
        go_ret
        exact ⟨ret_bool Hf.out.symm,HB1.out⟩
      · have Hnx:=hide (Hnx.out hx)
        go_wp2_with (go_at_call 74;refine (implWithinC_any _ _ _ _).mono ?_;rintro e w3 ⟨rfl,rfl⟩)
        go_roundw
        case rel=>exact ⟨i+1,by omega,by go_num,Hnx.out,by trivial⟩
        case measure=>simp [intOf];omega
    · have Hf:=hide (HE.out.trans (Hyes.out (fun j hj=>Hok.out j hj (by omega))).symm)
      go_wp2
      go_ret
      exact ⟨ret_bool Hf.out,HB1.out⟩
theorem implTcOk_any (v vw vh:Value) (l:List Vl) (r:Int) (ws:List ByteArray) (hs:List Int) (w:World) (hr:RdV w v l) (hrw:RdS w vw ws) (hrh:RdI w vh hs) (hl:l.length<=4000000) (hlw:ws.length<=4000000) (hlh:hs.length<=4000000) (hsz:∀ s ∈ ws,s.size<=maxLen) (hm:ModV l) :
    Calls Tryz.prog 216 #[v,tcV r vw vh] w fun e w'=>e=.returned (.bool (tcB l r ws hs))/\Below w.heap.size w w':=by
  obtain ⟨al,cl,rfl⟩:=hr.shape
  obtain ⟨a,c,rfl⟩:=hrw.shape
  obtain ⟨a2,c2,rfl⟩:=hrh.shape
  obtain ⟨w1,hw1⟩:∃ w1,w.alloc (.cells #[.int .i64 r,.slice a ws.length c,.slice a2 hs.length c2] 69)=w1:=⟨_,rfl⟩
  have hb1:Below w.heap.size w w1:=by rw [<- hw1];exact (Below.refl _ w).alloc (Nat.le_refl _) _
  have k1:Blk w1 w.heap.size 69 [.int .i64 r,.slice a ws.length c,.slice a2 hs.length c2]:=by rw [<- hw1];exact Blk.new w _ _
  have HN:=hide (implIsNoTc_any r _ _ ws hs w1 (hrw.below hb1 (Nat.le_refl _)) (hrh.below hb1 (Nat.le_refl _)) hlw hlh)
  have HA:=hide (fun V (hb:Below w.heap.size w V)=>implSigners_any (.slice al l.length cl) (.slice a ws.length c) l ws V (hr.below hb (Nat.le_refl _)) (hrw.below hb (Nat.le_refl _)) hl hlw hsz hm)
  have HH:=hide (fun V (hb:Below w.heap.size w V)=>implHighsOk_any r (.slice a ws.length c) (.slice a2 hs.length c2) ws hs V (hrw.below hb (Nat.le_refl _)) (hrh.below hb (Nat.le_refl _)) hlw hlh)
  have HX:Hid (tcB l r ws hs=(noneB r ws hs || (inB r 1 10000 && ((allV l ws && quoB l ws) && (decide (hs.length=ws.length) && hisB r hs))))):=hide (by unfold tcB;cases allV l ws <;> cases quoB l ws <;> rfl)
  generalize tcB l r ws hs=X at HX ⊢
  generalize noneB r ws hs=N0 at HX HN
  generalize (allV l ws && quoB l ws)=A0 at HX HA
  generalize (decide (hs.length=ws.length) && hisB r hs)=H0 at HX HH
  simp only [tcV] at *
  have x0:=k1.cell 0
  have x1:=k1.cell 1
  have x2:=k1.cell 2
  simp only [List.getElem?_cons_zero,List.getElem?_cons_succ] at x0 x1 x2
  clear hr hrw hrh hsz hm
  cases N0
  · rw [Bool.false_or] at HX
    go_enter Tryz.func216,Tryz.ntmps216
    go_wp2_with fail
    refine HN.out.mono ?_
    rintro e w2 ⟨rfl,hb2⟩
    have k2:=k1.below hb2 k1.lt
    have hB2:=hb1.trans (hb2.mono hb1.size)
    have y0:=k2.cell 0
    have y1:=k2.cell 1
    have y2:=k2.cell 2
    simp only [List.getElem?_cons_zero,List.getElem?_cons_succ] at y0 y1 y2
    clear x0 x1 x2 k1 hb2 hw1
    cases h1:inB r 1 10000
    · rw [h1,Bool.false_and] at HX
      go_wp2_with (go_at_call 74;refine (implWithinC_any _ _ _ _).mono ?_;rintro e w3 ⟨rfl,rfl⟩)
      go_ret
      exact ⟨ret_bool HX.out.symm,hB2⟩
    · have hr1:1<=r/\r<=10000:=by unfold inB at h1;simpa using h1
      rw [h1,Bool.true_and] at HX
      have HH:=hide (fun V hb=>HH.out V hb hr1.1 hr1.2)
      have HA2:=hide (HA.out _ hB2)
      clear hr1 HA
      cases A0
      · rw [Bool.false_and] at HX
        go_wp2_with (first
          | (go_at_call 74;refine (implWithinC_any _ _ _ _).mono ?_;rintro e w3 ⟨rfl,rfl⟩)
          | (go_at_call 227;refine HA2.out.mono ?_;rintro e w4 ⟨rfl,hb4⟩))
        go_ret
        exact ⟨ret_bool HX.out.symm,hB2.trans (hb4.mono hB2.size)⟩
      · rw [Bool.true_and] at HX
        go_wp2_with (first
          | (go_at_call 74;refine (implWithinC_any _ _ _ _).mono ?_;rintro e w3 ⟨rfl,rfl⟩)
          | (go_at_call 227;refine HA2.out.mono ?_;rintro e w4 ⟨rfl,hb4⟩;have hB4:=hB2.trans (hb4.mono hB2.size);have k4:=k2.below hb4 k2.lt;have z0:=k4.cell 0;have z1:=k4.cell 1;have z2:=k4.cell 2;simp only [List.getElem?_cons_zero,List.getElem?_cons_succ] at z0 z1 z2)
          | (go_at_call 209;refine (HH.out _ hB4).mono ?_;rintro e w5 ⟨rfl,hb5⟩))
        go_ret
        exact ⟨ret_bool HX.out.symm,hB4.trans (hb5.mono hB4.size)⟩
  · rw [Bool.true_or] at HX
    go_enter Tryz.func216,Tryz.ntmps216
    go_wp2_with fail
    refine HN.out.mono ?_
    rintro e w2 ⟨rfl,hb2⟩
    have hB2:=hb1.trans (hb2.mono hb1.size)
    clear x0 x1 x2 k1 hb2
    go_wp2
    go_ret
    exact ⟨ret_bool HX.out.symm,hB2⟩
end Go.Proofs.YtckahjabljffjaaGreat
