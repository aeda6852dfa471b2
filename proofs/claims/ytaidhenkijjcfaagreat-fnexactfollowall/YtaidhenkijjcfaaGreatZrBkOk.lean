/- The model's BlockOk. -/
import Derived.Test.YtaidhenkijjcfaaGreatZrTxSpec
set_option maxRecDepth 20000
set_option maxHeartbeats 4000000
namespace Go.Proofs.YtaidhenkijjcfaaGreat
open Go.RowKit Go.Sort
set_option linter.unusedVariables false
theorem specL9Qc_any (b:Bk) (v:Bv) (w:World) (hr:RdK w b v) (hf:FewK b) :
    Calls Tryz.prog 133 #[bkV b v] w fun e w'=>e=.returned (.bool (q9B b))/\Below w.heap.size w w':=by
  have hlq:=hf.q
  have hsq:=hf.qs
  have HX:Hid (q9B b=(rootB b.qr b.qb b.qw || (inB b.qr 1 (wrap64 (b.rd - 1)) && (inB b.qb 0 (wrap64 (b.id - 1)) && nmsB b.qw)))):=hide rfl
  generalize q9B b=X at HX ⊢
  obtain ⟨id,ep,rd,mk,qr,qb,qw,tr,tw,th,ts,en,nx,rt⟩:=b
  obtain ⟨vq,vw,vh,vt,vn⟩:=v
  obtain ⟨hq,hw,hh,ht,hn⟩:=hr
  simp only [bkV] at *
  obtain ⟨aq,cq,rfl⟩:=hq.shape
  obtain ⟨aw,cw,rfl⟩:=hw.shape
  obtain ⟨ah,ch,rfl⟩:=hh.shape
  obtain ⟨at_,ct,rfl⟩:=ht.shape
  obtain ⟨an,cn,rfl⟩:=hn.shape
  clear hw hh ht hn hf
  obtain ⟨w1,hw1⟩:∃ x,w.alloc (.cells #[.int .i64 id,.int .i64 ep,.int .i64 rd,.string mk,.int .i64 qr,.int .i64 qb,.slice aq qw.length cq,.int .i64 tr,.slice aw tw.length cw,.slice ah th.length ch,.slice at_ ts.length ct,.bool en,.slice an nx.length cn,.string rt] 92)=x:=⟨_,rfl⟩
  have b1:Below w.heap.size w w1:=by rw [<- hw1];exact (Below.refl _ w).alloc (Nat.le_refl _) _
  have k1:Blk w1 w.heap.size 92 [.int .i64 id,.int .i64 ep,.int .i64 rd,.string mk,.int .i64 qr,.int .i64 qb,.slice aq qw.length cq,.int .i64 tr,.slice aw tw.length cw,.slice ah th.length ch,.slice at_ ts.length ct,.bool en,.slice an nx.length cn,.string rt]:=by rw [<- hw1];exact Blk.new w _ _
  have s1:w1.heap.size=w.heap.size+1:=by rw [<- hw1];simp
  obtain ⟨w2,hw2⟩:∃ x,w1.alloc (.cells #[.int .i64 qr,.int .i64 qb,.slice aq qw.length cq] 40)=x:=⟨_,rfl⟩
  have b2:Below w1.heap.size w1 w2:=by rw [<- hw2];exact (Below.refl _ w1).alloc (Nat.le_refl _) _
  have k2:Blk w2 (w.heap.size+1) 40 [.int .i64 qr,.int .i64 qb,.slice aq qw.length cq]:=by rw [<- hw2,<- s1];exact Blk.new w1 _ _
  have hb2:Below w.heap.size w w2:=b1.trans (b2.mono b1.size)
  have HR:=hide (specL8Root_any qr qb (.slice aq qw.length cq) qw w2 (hq.below hb2 (Nat.le_refl _)) hlq)
  have HN:=hide (fun V (hV:Below w.heap.size w V)=>specNamesOk_any (.slice aq qw.length cq) qw V (hq.below hV (Nat.le_refl _)) hlq hsq)
  generalize rootB qr qb qw=R0 at HX HR
  generalize nmsB qw=N0 at HX HN
  have e1:IntKind.i64.wrap (rd - 1)=wrap64 (rd - 1):=by rw [IntKind.wrap_i64];unfold wrap64;omega
  have e2:IntKind.i64.wrap (id - 1)=wrap64 (id - 1):=by rw [IntKind.wrap_i64];unfold wrap64;omega
  generalize wrap64 (rd - 1)=D1 at HX e1
  generalize wrap64 (id - 1)=D2 at HX e2
  simp only [qcV] at HR
  have x4:=k1.cell 4
  have x5:=k1.cell 5
  have x6:=k1.cell 6
  have y0:=k2.cell 0
  have y1:=k2.cell 1
  have y2:=k2.cell 2
  simp only [List.getElem?_cons_zero,List.getElem?_cons_succ] at x4 x5 x6 y0 y1 y2
  have K1:=hide (k1.below b2 (by omega))
  have K2:=hide k2
  have HB2:=hide hb2
  clear hq hsq k1 k2 b1 b2 hb2
  go_enter Tryz.func133,Tryz.ntmps133
  go_wp2_with fail
  refine HR.out.mono ?_
  rintro e w3 ⟨rfl,hb3⟩
  have hB3:=HB2.out.trans (hb3.mono HB2.out.size)
  have k13:=K1.out.below hb3 K1.out.lt
  have k23:=K2.out.below hb3 K2.out.lt
  have HN3:=hide (HN.out w3 hB3)
  clear x4 x5 x6 y0 y1 y2 hw1 hw2 HN hb3
  have x0:=k13.cell 0
  have x2:=k13.cell 2
  have y0:=k23.cell 0
  have y1:=k23.cell 1
  have y2:=k23.cell 2
  simp only [List.getElem?_cons_zero,List.getElem?_cons_succ] at x0 x2 y0 y1 y2
  clear k13 k23 K1 K2 s1
  cases R0
  · rw [Bool.false_or] at HX
    cases h1:inB qr 1 D1
    · rw [h1,Bool.false_and] at HX
      go_wp2_with (go_at_call 90;refine (l1In_any _ _ _ _).mono ?_;rintro e w4 ⟨rfl,rfl⟩)
      go_ret
      exact ⟨ret_bool HX.out.symm,hB3⟩
    · rw [h1,Bool.true_and] at HX
      cases h2:inB qb 0 D2
      · rw [h2,Bool.false_and] at HX
        go_wp2_with (go_at_call 90;refine (l1In_any _ _ _ _).mono ?_;rintro e w4 ⟨rfl,rfl⟩)
        go_ret
        exact ⟨ret_bool HX.out.symm,hB3⟩
      · rw [h2,Bool.true_and] at HX
        go_wp2_with (first
          | (go_at_call 90;refine (l1In_any _ _ _ _).mono ?_;rintro e w4 ⟨rfl,rfl⟩)
          | (go_at_call 137;refine HN3.out.mono ?_;rintro e w5 ⟨rfl,hb5⟩))
        go_ret
        exact ⟨ret_bool HX.out.symm,hB3.trans (hb5 _)⟩
  · rw [Bool.true_or] at HX
    go_wp2
    go_ret
    exact ⟨ret_bool HX.out.symm,hB3⟩
theorem specL9Tc_any (b:Bk) (v:Bv) (w:World) (hr:RdK w b v) (hf:FewK b) (hbd:-9223372036854775808<=b.tr/\b.tr<=9223372036854775807) :
    Calls Tryz.prog 134 #[bkV b v] w fun e w'=>e=.returned (.bool (t9B b))/\Below w.heap.size w w':=by
  have hlw:=hf.w
  have hlh:=hf.h
  have hsw:=hf.ws
  have HX:Hid (t9B b=(noneB b.tr b.tw b.th || (inB b.tr 1 (wrap64 (b.rd - 1)) && (nmsB b.tw && (decide (b.th.length=b.tw.length) && hisB b.tr b.th))))):=hide rfl
  generalize t9B b=X at HX ⊢
  obtain ⟨id,ep,rd,mk,qr,qb,qw,tr,tw,th,ts,en,nx,rt⟩:=b
  obtain ⟨vq,vw,vh,vt,vn⟩:=v
  obtain ⟨hq,hw,hh,ht,hn⟩:=hr
  simp only [bkV] at *
  obtain ⟨aq,cq,rfl⟩:=hq.shape
  obtain ⟨aw,cw,rfl⟩:=hw.shape
  obtain ⟨ah,ch,rfl⟩:=hh.shape
  obtain ⟨at_,ct,rfl⟩:=ht.shape
  obtain ⟨an,cn,rfl⟩:=hn.shape
  clear hq ht hn hf
  obtain ⟨w1,hw1⟩:∃ x,w.alloc (.cells #[.int .i64 id,.int .i64 ep,.int .i64 rd,.string mk,.int .i64 qr,.int .i64 qb,.slice aq qw.length cq,.int .i64 tr,.slice aw tw.length cw,.slice ah th.length ch,.slice at_ ts.length ct,.bool en,.slice an nx.length cn,.string rt] 92)=x:=⟨_,rfl⟩
  have b1:Below w.heap.size w w1:=by rw [<- hw1];exact (Below.refl _ w).alloc (Nat.le_refl _) _
  have k1:Blk w1 w.heap.size 92 [.int .i64 id,.int .i64 ep,.int .i64 rd,.string mk,.int .i64 qr,.int .i64 qb,.slice aq qw.length cq,.int .i64 tr,.slice aw tw.length cw,.slice ah th.length ch,.slice at_ ts.length ct,.bool en,.slice an nx.length cn,.string rt]:=by rw [<- hw1];exact Blk.new w _ _
  have s1:w1.heap.size=w.heap.size+1:=by rw [<- hw1];simp
  obtain ⟨w2,hw2⟩:∃ x,w1.alloc (.cells #[.int .i64 tr,.slice aw tw.length cw,.slice ah th.length ch] 67)=x:=⟨_,rfl⟩
  have b2:Below w1.heap.size w1 w2:=by rw [<- hw2];exact (Below.refl _ w1).alloc (Nat.le_refl _) _
  have k2:Blk w2 (w.heap.size+1) 67 [.int .i64 tr,.slice aw tw.length cw,.slice ah th.length ch]:=by rw [<- hw2,<- s1];exact Blk.new w1 _ _
  have hb2:Below w.heap.size w w2:=b1.trans (b2.mono b1.size)
  have HR:=hide (specL8None_any tr (.slice aw tw.length cw) (.slice ah th.length ch) tw th w2 (hw.below hb2 (Nat.le_refl _)) (hh.below hb2 (Nat.le_refl _)) hlw hlh)
  have HN:=hide (fun V (hV:Below w.heap.size w V)=>specNamesOk_any (.slice aw tw.length cw) tw V (hw.below hV (Nat.le_refl _)) hlw hsw)
  generalize noneB tr tw th=R0 at HX HR
  generalize nmsB tw=N0 at HX HN
  have e1:IntKind.i64.wrap (rd - 1)=wrap64 (rd - 1):=by rw [IntKind.wrap_i64];unfold wrap64;omega
  generalize wrap64 (rd - 1)=D1 at HX e1
  simp only [tcV] at HR
  have x4:=k1.cell 7
  have x5:=k1.cell 8
  have x6:=k1.cell 9
  have y0:=k2.cell 0
  have y1:=k2.cell 1
  have y2:=k2.cell 2
  simp only [List.getElem?_cons_zero,List.getElem?_cons_succ] at x4 x5 x6 y0 y1 y2
  have K1:=hide (k1.below b2 (by omega))
  have K2:=hide k2
  have HB2:=hide hb2
  have Hh:=hide hh
  clear hw hh hsw k1 k2 b1 b2 hb2
  go_enter Tryz.func134,Tryz.ntmps134
  go_wp2_with fail
  refine HR.out.mono ?_
  rintro e w3 ⟨rfl,hb3⟩
  have hB3:=HB2.out.trans (hb3.mono HB2.out.size)
  have k13:=K1.out.below hb3 K1.out.lt
  have k23:=K2.out.below hb3 K2.out.lt
  have HN3:=hide (HN.out w3 hB3)
  clear x4 x5 x6 y0 y1 y2 hw1 hw2 HN hb3
  have x2:=k13.cell 2
  have y0:=k23.cell 0
  have y1:=k23.cell 1
  have y2:=k23.cell 2
  simp only [List.getElem?_cons_zero,List.getElem?_cons_succ] at x2 y0 y1 y2
  have K23:=hide k23
  clear k13 k23 K1 K2 s1
  cases R0
  · rw [Bool.false_or] at HX
    cases h1:inB tr 1 D1
    · rw [h1,Bool.false_and] at HX
      go_wp2_with (go_at_call 90;refine (l1In_any _ _ _ _).mono ?_;rintro e w4 ⟨rfl,rfl⟩)
      go_ret
      exact ⟨ret_bool HX.out.symm,hB3⟩
    · rw [h1, Bool.true_and] at HX
      have Hr1:Hid (1<=tr):=hide (by unfold inB at h1;simp at h1;exact h1.1)
      cases N0
      · rw [Bool.false_and] at HX
        go_wp2_with (first
          | (go_at_call 90;refine (l1In_any _ _ _ _).mono ?_;rintro e w4 ⟨rfl,rfl⟩)
          | (go_at_call 137;refine HN3.out.mono ?_;rintro e w5 ⟨rfl,hb5⟩))
        go_ret
        exact ⟨ret_bool HX.out.symm,hB3.trans (hb5 _)⟩
      · rw [Bool.true_and] at HX
        by_cases hlen:th.length=tw.length
        · rw [decide_eq_true hlen,Bool.true_and] at HX
          have hli:((th.length:Int) != (tw.length:Int))=false:=by rw [hlen];simp
          clear hlen
          go_wp2_with (first
            | (go_at_call 90;refine (l1In_any _ _ _ _).mono ?_;rintro e w4 ⟨rfl,rfl⟩)
            | (go_at_call 137;refine HN3.out.mono ?_;rintro e w5 ⟨rfl,hb5⟩;have hB5:=hB3.trans (hb5 _);have k5:=K23.out.below (hb5 _) K23.out.lt;have t1:=k5.cell 1;have t2:=k5.cell 2;simp only [List.getElem?_cons_zero,List.getElem?_cons_succ] at t1 t2))
          have K5:=hide k5
          have HB5:=hide hB5
          clear k5 x2 y0 y1 y2 t1 t2 hb5 hB5 hB3 hli h1
          go_loopw [4] (fun iv wr=>∃ i:Nat,i<=th.length/\iv=.int .i64 (i:Int)/\(∀ j (hj:j < th.length),j < i->inB th[j] 0 (tr - 1)=true)/\Below w5.heap.size w5 wr) (fun iv _=>th.length - (intOf iv).toNat)
          case atStart=>exact ⟨0,Nat.zero_le _,rfl,fun j _ hj=>by omega,Below.refl _ _⟩
          case round =>
            obtain ⟨i,hi,rfl,hok,hb⟩:=hrel
            have kr:=K5.out.below hb K5.out.lt
            have t0:=kr.cell 0
            have t2:=kr.cell 2
            simp only [List.getElem?_cons_zero,List.getElem?_cons_succ] at t0 t2
            have Hok:=hide hok
            have HBr:=hide (HB5.out.trans (hb.mono HB5.out.size))
            clear hok kr
            by_cases hlt:i < th.length
            · obtain ⟨bh,oh,rfl,hc1,hc2,hbh,hch⟩:=Hh.out.at hlt
              have c0:=(HBr.out.cell (p:=⟨bh,oh+i,none⟩) hbh).trans hch
              have hli:(i:Int) < (th.length:Int):=by omega
              have Hno:=hide (his_no tr th i hlt)
              have Hnx:Hid (inB th[i] 0 (tr - 1)=true->∀ j (hj:j < th.length),j < i+1->inB th[j] 0 (tr - 1)=true):=hide (fun h j hj hji=>by
                by_cases e:j=i
                · subst e;exact h
                · exact Hok.out j hj (by omega))
              generalize th[i]=x at c0 hch Hno Hnx
              have hr1:=Hr1.out
              have hwr:IntKind.i64.wrap (tr - 1)=tr - 1:=by rw [IntKind.wrap_i64];omega
              have Hb:=hide hb
              have g0:=cell_regrown c0
              have g1:=cell_regrown t0
              have g2:=cell_regrown t2
              clear hb hch hr1 c0
              cases hx:inB x 0 (tr - 1)
              · have Hf:=hide (HX.out.trans (Hno.out hx))
                have HI:=hide (fun (d:Nat) (os:Array Obj)=>sameC_regrown (l1In_any x 0 (tr - 1) (grow (redrawn wr d) os)))
                rw [hx] at HI
                clear hx Hnx
                go_wp2
                refine wp_region_quiet_below (by kernel_rfl) (by kernel_rfl) ?_
                repeat (go_big_quiet_step ((go_at_call 90;exact HI.out _ _)))
                refine wpQuiet_nil ?_
                intro _ hw'
                obtain ⟨⟨dq,osq⟩,hw''⟩:=hw'
                subst hw''
                go_wp2
                go_ret
                exact ⟨ret_bool Hf.out.symm,HBr.out.trans ((below_regrown wr dq osq).mono HBr.out.size)⟩
              · have Hnx:=hide (Hnx.out hx)
                have HI:=hide (fun (d:Nat) (os:Array Obj)=>sameC_regrown (l1In_any x 0 (tr - 1) (grow (redrawn wr d) os)))
                rw [hx] at HI
                clear hx Hno
                go_wp2
                refine wp_region_quiet_below (by kernel_rfl) (by kernel_rfl) ?_
                repeat (go_big_quiet_step ((go_at_call 90;exact HI.out _ _)))
                refine wpQuiet_nil ?_
                intro _ hw'
                obtain ⟨⟨dq,osq⟩,hw''⟩:=hw'
                subst hw''
                go_wp2
                go_roundw
                case rel=>exact ⟨i+1,by omega,by go_num,Hnx.out,Hb.out.trans ((below_regrown wr dq osq).mono Hb.out.size)⟩
                case measure=>simp [intOf];omega
            · have Hf:=hide (HX.out.trans (his_yes tr th (fun j hj=>Hok.out j hj (by omega))))
              clear hb
              go_wp2
              go_ret
              exact ⟨ret_bool Hf.out.symm,HBr.out⟩
        · rw [decide_eq_false hlen,Bool.false_and] at HX
          have hli:((th.length:Int) != (tw.length:Int))=true:=by rw [bne_iff_ne];omega
          clear hlen
          go_wp2_with (first
            | (go_at_call 90;refine (l1In_any _ _ _ _).mono ?_;rintro e w4 ⟨rfl,rfl⟩)
            | (go_at_call 137;refine HN3.out.mono ?_;rintro e w5 ⟨rfl,hb5⟩;have hB5:=hB3.trans (hb5 _);have k5:=K23.out.below (hb5 _) K23.out.lt;have t1:=k5.cell 1;have t2:=k5.cell 2;simp only [List.getElem?_cons_zero,List.getElem?_cons_succ] at t1 t2))
          go_ret
          exact ⟨ret_bool HX.out.symm,hB5⟩
  · rw [Bool.true_or] at HX
    go_wp2
    go_ret
    exact ⟨ret_bool HX.out.symm,hB3⟩
end Go.Proofs.YtaidhenkijjcfaaGreat
namespace Go.Proofs.YtaidhenkijjcfaaGreat
open Go.RowKit Go.Sort
set_option linter.unusedVariables false
theorem RdT.at9 {w:World} {a:Option Addr} {cap k:Nat} {l:List Tx5} (h:RdT w (.slice a l.length cap) l) (hk:k < l.length) :
    ∃ b off,a=some ⟨b,off,none⟩/\l.length<=cap/\cap<=maxLen/\b < w.heap.size/\TxAt w b (off+k * 5) l[k]:=by
  rcases h with ⟨a',cap',e,rfl,-⟩ | ⟨b,off,cap',h0,e,h1,h2,h3,h4⟩
  · simp at hk
  · simp only [Value.slice.injEq,true_and] at e
    obtain ⟨rfl,rfl⟩:=e
    exact ⟨b,off,rfl,h1,h2,h3,h4 k hk⟩
theorem noText {s:ByteArray} (h:s ≠ ⟨#[]⟩):s.toList.isEmpty=false:=by
  have h1:=bytes_ne h
  have h2:ByteArray.toList ⟨#[]⟩=[]:=by kernel_rfl
  rw [h2] at h1
  cases hz:s.toList with
  | nil=>rw [hz] at h1;simp at h1
  | cons a t=>rfl
theorem txs_no (ts:List Tx5) (k:Nat) (h:k < ts.length) (hk:txB ts[k]=false):ts.all txB=false:=by
  rw [List.all_eq_false]
  exact ⟨ts[k],List.getElem_mem _,by simp [hk]⟩
theorem txs_yes (ts:List Tx5) (h:∀ j (hj:j < ts.length),txB ts[j]=true):ts.all txB=true:=by
  rw [List.all_eq_true]
  intro t ht
  obtain ⟨j,hj,rfl⟩:=List.mem_iff_getElem.1 ht
  exact h j hj
theorem specBlockOk_any (b:Bk) (v:Bv) (w:World) (hr:RdK w b v) (hf:FewK b) (hbd:-9223372036854775808<=b.tr/\b.tr<=9223372036854775807) :
    Calls Tryz.prog 91 #[bkV b v] w fun e w'=>e=.returned (.bool (blB b))/\Below w.heap.size w w':=by
  have HQ0:=hide (fun V (hV:Below w.heap.size w V)=>specL9Qc_any b v V (hr.below hV (Nat.le_refl _)) hf)
  have HT0:=hide (fun V (hV:Below w.heap.size w V)=>specL9Tc_any b v V (hr.below hV (Nat.le_refl _)) hf hbd)
  have HM:=hide (fun V=>specNameOk_any b.md V hf.ms)
  have Hf:=hide hf
  have HX:Hid (blB b=(inB b.id 0 100000 && (inB b.ep 0 900 && (inB b.rd 1 10000 && (nmB b.md && (q9B b && (t9B b && (decide (b.ts.length<=4) && (b.ts.all txB && e9B b))))))))):=hide rfl
  have HE:Hid (e9B b=if b.en=true then setB b.nx && decide (b.rt.size=32) else decide (b.nx.length=0) && decide (b.rt=⟨#[]⟩)):=hide rfl
  generalize blB b=X at HX ⊢
  generalize q9B b=Q0 at HX HQ0
  generalize t9B b=T0 at HX HT0
  generalize e9B b=E0 at HX HE
  have hft:=hf.t
  have hfn:=hf.n
  clear hf hbd
  obtain ⟨id,ep,rd,mk,qr,qb,qw,tr,tw,th,ts,en,nx,rt⟩:=b
  obtain ⟨vq,vw,vh,vt,vn⟩:=v
  obtain ⟨hq,hw,hh,ht,hn⟩:=hr
  simp only [bkV] at *
  obtain ⟨aq,cq,rfl⟩:=hq.shape
  obtain ⟨aw,cw,rfl⟩:=hw.shape
  obtain ⟨ah,ch,rfl⟩:=hh.shape
  obtain ⟨at_,ct,rfl⟩:=ht.shape
  obtain ⟨an,cn,rfl⟩:=hn.shape
  clear hq hw hh
  obtain ⟨w1,hw1⟩:∃ x,w.alloc (.cells #[.int .i64 id,.int .i64 ep,.int .i64 rd,.string mk,.int .i64 qr,.int .i64 qb,.slice aq qw.length cq,.int .i64 tr,.slice aw tw.length cw,.slice ah th.length ch,.slice at_ ts.length ct,.bool en,.slice an nx.length cn,.string rt] 92)=x:=⟨_,rfl⟩
  have b1:Below w.heap.size w w1:=by rw [<- hw1];exact (Below.refl _ w).alloc (Nat.le_refl _) _
  have k1:Blk w1 w.heap.size 92 [.int .i64 id,.int .i64 ep,.int .i64 rd,.string mk,.int .i64 qr,.int .i64 qb,.slice aq qw.length cq,.int .i64 tr,.slice aw tw.length cw,.slice ah th.length ch,.slice at_ ts.length ct,.bool en,.slice an nx.length cn,.string rt]:=by rw [<- hw1];exact Blk.new w _ _
  have HQ:=hide (HQ0.out w1 b1)
  have HT:=HT0
  have x0:=k1.cell 0
  have x1:=k1.cell 1
  have x2:=k1.cell 2
  have x3:=k1.cell 3
  have x4:=k1.cell 4
  have x5:=k1.cell 5
  have x6:=k1.cell 6
  have x7:=k1.cell 7
  have x8:=k1.cell 8
  have x9:=k1.cell 9
  have x10:=k1.cell 10
  have x11:=k1.cell 11
  have x12:=k1.cell 12
  have x13:=k1.cell 13
  simp only [List.getElem?_cons_zero,List.getElem?_cons_succ] at x0 x1 x2 x3 x4 x5 x6 x7 x8 x9 x10 x11 x12 x13
  have K1:=hide k1
  have HB1:=hide b1
  have Ht:=hide ht
  have Hn:=hide hn
  clear HQ0 HT0 k1 b1 ht hn
  generalize nmB mk=M0 at HX HM
  go_enter Tryz.func91,Tryz.ntmps91
  cases h1:inB id 0 100000
  · rw [h1,Bool.false_and] at HX
    go_wp2_with (go_at_call 90;refine (l1In_any _ _ _ _).mono ?_;rintro e w4 ⟨rfl,rfl⟩)
    go_ret
    exact ⟨ret_bool HX.out.symm,HB1.out⟩
  · rw [h1, Bool.true_and] at HX
    cases h2:inB ep 0 900
    · rw [h2,Bool.false_and] at HX
      go_wp2_with (go_at_call 90;refine (l1In_any _ _ _ _).mono ?_;rintro e w4 ⟨rfl,rfl⟩)
      go_ret
      exact ⟨ret_bool HX.out.symm,HB1.out⟩
    · rw [h2, Bool.true_and] at HX
      cases h3:inB rd 1 10000
      · rw [h3,Bool.false_and] at HX
        go_wp2_with (go_at_call 90;refine (l1In_any _ _ _ _).mono ?_;rintro e w4 ⟨rfl,rfl⟩)
        go_ret
        exact ⟨ret_bool HX.out.symm,HB1.out⟩
      · rw [h3, Bool.true_and] at HX
        cases M0
        · rw [Bool.false_and] at HX
          go_wp2_with (first
              | (go_at_call 90;refine (l1In_any _ _ _ _).mono ?_;rintro e w4 ⟨rfl,rfl⟩)
              | (go_at_call 89;refine (HM.out _).mono ?_;rintro e w5 ⟨rfl,rfl⟩))
          go_ret
          exact ⟨ret_bool HX.out.symm,HB1.out⟩
        · rw [Bool.true_and] at HX
          cases Q0
          · rw [Bool.false_and] at HX
            go_wp2_with (first
                | (go_at_call 90;refine (l1In_any _ _ _ _).mono ?_;rintro e w4 ⟨rfl,rfl⟩)
                | (go_at_call 89;refine (HM.out _).mono ?_;rintro e w5 ⟨rfl,rfl⟩)
                | (go_at_call 133;refine HQ.out.mono ?_;rintro e w2 ⟨rfl,hb2⟩;have hB2:=HB1.out.trans (hb2.mono HB1.out.size);have k2:=K1.out.below hb2 K1.out.lt;have y0:=k2.cell 0;have y1:=k2.cell 1;have y2:=k2.cell 2;have y3:=k2.cell 3;have y4:=k2.cell 4;have y5:=k2.cell 5;have y6:=k2.cell 6;have y7:=k2.cell 7;have y8:=k2.cell 8;have y9:=k2.cell 9;have y10:=k2.cell 10;have y11:=k2.cell 11;have y12:=k2.cell 12;have y13:=k2.cell 13;simp only [List.getElem?_cons_zero,List.getElem?_cons_succ] at y0 y1 y2 y3 y4 y5 y6 y7 y8 y9 y10 y11 y12 y13))
            go_ret
            exact ⟨ret_bool HX.out.symm,hB2⟩
          · rw [Bool.true_and] at HX
            cases T0
            · rw [Bool.false_and] at HX
              go_wp2_with (first
                  | (go_at_call 90;refine (l1In_any _ _ _ _).mono ?_;rintro e w4 ⟨rfl,rfl⟩)
                  | (go_at_call 89;refine (HM.out _).mono ?_;rintro e w5 ⟨rfl,rfl⟩)
                  | (go_at_call 133;refine HQ.out.mono ?_;rintro e w2 ⟨rfl,hb2⟩;have hB2:=HB1.out.trans (hb2.mono HB1.out.size);have k2:=K1.out.below hb2 K1.out.lt;have y0:=k2.cell 0;have y1:=k2.cell 1;have y2:=k2.cell 2;have y3:=k2.cell 3;have y4:=k2.cell 4;have y5:=k2.cell 5;have y6:=k2.cell 6;have y7:=k2.cell 7;have y8:=k2.cell 8;have y9:=k2.cell 9;have y10:=k2.cell 10;have y11:=k2.cell 11;have y12:=k2.cell 12;have y13:=k2.cell 13;simp only [List.getElem?_cons_zero,List.getElem?_cons_succ] at y0 y1 y2 y3 y4 y5 y6 y7 y8 y9 y10 y11 y12 y13)
                  | (go_at_call 134;refine (HT.out w2 hB2).mono ?_;rintro e w3 ⟨rfl,hb3⟩;have hB3:=hB2.trans (hb3.mono hB2.size);have k3:=k2.below hb3 k2.lt;have z0:=k3.cell 0;have z1:=k3.cell 1;have z2:=k3.cell 2;have z3:=k3.cell 3;have z4:=k3.cell 4;have z5:=k3.cell 5;have z6:=k3.cell 6;have z7:=k3.cell 7;have z8:=k3.cell 8;have z9:=k3.cell 9;have z10:=k3.cell 10;have z11:=k3.cell 11;have z12:=k3.cell 12;have z13:=k3.cell 13;simp only [List.getElem?_cons_zero,List.getElem?_cons_succ] at z0 z1 z2 z3 z4 z5 z6 z7 z8 z9 z10 z11 z12 z13))
              go_ret
              exact ⟨ret_bool HX.out.symm,hB3⟩
            · rw [Bool.true_and] at HX
              by_cases h4:ts.length<=4
              · rw [decide_eq_true h4,Bool.true_and] at HX
                have h4i:¬ (4:Int) < (ts.length:Int):=by omega
                go_wp2_with (first
                    | (go_at_call 90;refine (l1In_any _ _ _ _).mono ?_;rintro e w4 ⟨rfl,rfl⟩)
                    | (go_at_call 89;refine (HM.out _).mono ?_;rintro e w5 ⟨rfl,rfl⟩)
                    | (go_at_call 133;refine HQ.out.mono ?_;rintro e w2 ⟨rfl,hb2⟩;have hB2:=HB1.out.trans (hb2.mono HB1.out.size);have k2:=K1.out.below hb2 K1.out.lt;have y0:=k2.cell 0;have y1:=k2.cell 1;have y2:=k2.cell 2;have y3:=k2.cell 3;have y4:=k2.cell 4;have y5:=k2.cell 5;have y6:=k2.cell 6;have y7:=k2.cell 7;have y8:=k2.cell 8;have y9:=k2.cell 9;have y10:=k2.cell 10;have y11:=k2.cell 11;have y12:=k2.cell 12;have y13:=k2.cell 13;simp only [List.getElem?_cons_zero,List.getElem?_cons_succ] at y0 y1 y2 y3 y4 y5 y6 y7 y8 y9 y10 y11 y12 y13)
                    | (go_at_call 134;refine (HT.out w2 hB2).mono ?_;rintro e w3 ⟨rfl,hb3⟩;have hB3:=hB2.trans (hb3.mono hB2.size);have k3:=k2.below hb3 k2.lt;have z0:=k3.cell 0;have z1:=k3.cell 1;have z2:=k3.cell 2;have z3:=k3.cell 3;have z4:=k3.cell 4;have z5:=k3.cell 5;have z6:=k3.cell 6;have z7:=k3.cell 7;have z8:=k3.cell 8;have z9:=k3.cell 9;have z10:=k3.cell 10;have z11:=k3.cell 11;have z12:=k3.cell 12;have z13:=k3.cell 13;simp only [List.getElem?_cons_zero,List.getElem?_cons_succ] at z0 z1 z2 z3 z4 z5 z6 z7 z8 z9 z10 z11 z12 z13))
                have K3:=hide k3
                have HB3:=hide hB3
                clear k2 k3 hB2 hB3 hb2 hb3 h4i hw1
                clear x0 x1 x2 x3 x4 x5 x6 x7 x8 x9 x10 x11 x12 x13
                clear y0 y1 y2 y3 y4 y5 y6 y7 y8 y9 y10 y11 y12 y13
                clear z0 z1 z2 z3 z4 z5 z6 z7 z8 z9 z10 z11 z12 z13
                go_loopw [3] (fun iv wr=>∃ i:Nat,i<=ts.length/\iv=.int .i64 (i:Int)/\(∀ j (hj:j < ts.length),j < i->txB ts[j]=true)/\Below w3.heap.size w3 wr) (fun iv _=>ts.length - (intOf iv).toNat)
                case atStart=>exact ⟨0,Nat.zero_le _,rfl,fun j _ hj=>by omega,Below.refl _ _⟩
                case round =>
                  obtain ⟨i,hi,rfl,hok,hb⟩:=hrel
                  have kr:=K3.out.below hb K3.out.lt
                  have t10:=kr.cell 10
                  simp only [List.getElem?_cons_zero,List.getElem?_cons_succ] at t10
                  have Hok:=hide hok
                  have HBr:=hide (HB3.out.trans (hb.mono HB3.out.size))
                  clear hok
                  by_cases hlt:i < ts.length
                  · obtain ⟨bt,ot,rfl,hc1,hc2,hbt,hat⟩:=Ht.out.at9 hlt
                    have hli:(i:Int) < (ts.length:Int):=by omega
                    have hat':=hat.below HBr.out hbt
                    have hsz:=Hf.out.ts ts[i] (List.getElem_mem _)
                    have HO:=hide (fun V=>specTxOk_any ts[i] V hsz.1 hsz.2)
                    have Hno:=hide (txs_no ts i hlt)
                    have Hnx:Hid (txB ts[i]=true->∀ j (hj:j < ts.length),j < i+1->txB ts[j]=true):=hide (fun h j hj hji=>by
                      by_cases e:j=i
                      · subst e;exact h
                      · exact Hok.out j hj (by omega))
                    generalize ts[i]=tx at hat hat' HO Hno Hnx hsz
                    obtain ⟨c0,c1,c2,c3,c4⟩:=hat'
                    simp only [txV] at HO
                    have Hb:=hide hb
                    clear hat hb hsz kr
                    cases hx:txB tx
                    · have Hfl:=hide (HX.out.trans (by rw [Hno.out hx,Bool.false_and]))
                      rw [hx] at HO
                      clear hx Hnx
                      go_wp2_with fail
                      refine (HO.out _).mono ?_
                      rintro e w6 ⟨rfl,hb6⟩
                      have HB6:=hide (HBr.out.trans (hb6.mono HBr.out.size))
                      clear hb6 c0 c1 c2 c3 c4 t10
                      go_wp2
                      go_ret
                      exact ⟨ret_bool Hfl.out.symm,HB6.out⟩
                    · have Hnx:=hide (Hnx.out hx)
                      rw [hx] at HO
                      clear hx Hno
                      go_wp2_with fail
                      refine (HO.out _).mono ?_
                      rintro e w6 ⟨rfl,hb6⟩
                      have HB6:=hide (Hb.out.trans (hb6.mono Hb.out.size))
                      clear hb6 c0 c1 c2 c3 c4 t10
                      go_wp2
                      go_roundw
                      case rel=>exact ⟨i+1,by omega,by go_num,Hnx.out,HB6.out⟩
                      case measure=>simp [intOf];omega
                  · have HX2:=hide (HX.out.trans (by rw [txs_yes ts (fun j hj=>Hok.out j hj (by omega)),Bool.true_and]))
                    have t11:=kr.cell 11
                    have t12:=kr.cell 12
                    have t13:=kr.cell 13
                    simp only [List.getElem?_cons_zero,List.getElem?_cons_succ] at t11 t12 t13
                    cases en
                    · rw [if_neg (by simp)] at HE
                      by_cases h5:nx.length=0
                      · have h5i:((nx.length:Int) == 0)=true:=by rw [beq_iff_eq];omega
                        by_cases h6:rt=⟨#[]⟩
                        · have Hfl:=hide (HX2.out.trans (HE.out.trans (by rw [decide_eq_true h5,decide_eq_true h6,Bool.true_and])))
                          subst h6
                          clear h5 kr hb
                          go_wp2
                          go_ret
                          exact ⟨ret_bool Hfl.out.symm,HBr.out⟩
                        · have Hfl:=hide (HX2.out.trans (HE.out.trans (by rw [decide_eq_false h6,Bool.and_false])))
                          have h6b:=noText h6
                          clear h5 h6 kr hb
                          go_wp2
                          go_ret
                          exact ⟨ret_bool Hfl.out.symm,HBr.out⟩
                      · have Hfl:=hide (HX2.out.trans (HE.out.trans (by rw [decide_eq_false h5,Bool.false_and])))
                        have h5i:((nx.length:Int) == 0)=false:=by rw [beq_eq_false_iff_ne];omega
                        clear h5 kr hb
                        go_wp2
                        go_ret
                        exact ⟨ret_bool Hfl.out.symm,HBr.out⟩
                    · rw [if_pos rfl] at HE
                      have HS:=hide (specSetOk_any (.slice an nx.length cn) nx wr (Hn.out.below HBr.out (Nat.le_refl _)) hfn Hf.out.ns)
                      cases h7:setB nx
                      · have Hfl:=hide (HX2.out.trans (HE.out.trans (by rw [h7,Bool.false_and])))
                        rw [h7] at HS
                        clear h7 kr hb
                        go_wp2_with (go_at_call 34;refine HS.out.mono ?_;rintro e w7 ⟨rfl,hb7⟩)
                        go_ret
                        exact ⟨ret_bool Hfl.out.symm,HBr.out.trans (hb7.mono HBr.out.size)⟩
                      · rw [h7] at HS
                        by_cases h8:rt.size=32
                        · have Hfl:=hide (HX2.out.trans (HE.out.trans (by rw [h7,decide_eq_true h8,Bool.true_and])))
                          have h8i:((rt.size:Int) == 32)=true:=by rw [beq_iff_eq];omega
                          clear h7 h8 hb
                          go_wp2_with (go_at_call 34;refine HS.out.mono ?_;rintro e w7 ⟨rfl,hb7⟩;have k7:=kr.below hb7 kr.lt;have u13:=k7.cell 13;simp only [List.getElem?_cons_zero,List.getElem?_cons_succ] at u13)
                          go_ret
                          exact ⟨ret_bool Hfl.out.symm,HBr.out.trans (hb7.mono HBr.out.size)⟩
                        · have Hfl:=hide (HX2.out.trans (HE.out.trans (by rw [h7,decide_eq_false h8,Bool.true_and])))
                          have h8i:((rt.size:Int) == 32)=false:=by rw [beq_eq_false_iff_ne];omega
                          clear h7 h8 hb
                          go_wp2_with (go_at_call 34;refine HS.out.mono ?_;rintro e w7 ⟨rfl,hb7⟩;have k7:=kr.below hb7 kr.lt;have u13:=k7.cell 13;simp only [List.getElem?_cons_zero,List.getElem?_cons_succ] at u13)
                          go_ret
                          exact ⟨ret_bool Hfl.out.symm,HBr.out.trans (hb7.mono HBr.out.size)⟩
              · rw [decide_eq_false h4,Bool.false_and] at HX
                have h4i:(4:Int) < (ts.length:Int):=by omega
                go_wp2_with (first
                    | (go_at_call 90;refine (l1In_any _ _ _ _).mono ?_;rintro e w4 ⟨rfl,rfl⟩)
                    | (go_at_call 89;refine (HM.out _).mono ?_;rintro e w5 ⟨rfl,rfl⟩)
                    | (go_at_call 133;refine HQ.out.mono ?_;rintro e w2 ⟨rfl,hb2⟩;have hB2:=HB1.out.trans (hb2.mono HB1.out.size);have k2:=K1.out.below hb2 K1.out.lt;have y0:=k2.cell 0;have y1:=k2.cell 1;have y2:=k2.cell 2;have y3:=k2.cell 3;have y4:=k2.cell 4;have y5:=k2.cell 5;have y6:=k2.cell 6;have y7:=k2.cell 7;have y8:=k2.cell 8;have y9:=k2.cell 9;have y10:=k2.cell 10;have y11:=k2.cell 11;have y12:=k2.cell 12;have y13:=k2.cell 13;simp only [List.getElem?_cons_zero,List.getElem?_cons_succ] at y0 y1 y2 y3 y4 y5 y6 y7 y8 y9 y10 y11 y12 y13)
                    | (go_at_call 134;refine (HT.out w2 hB2).mono ?_;rintro e w3 ⟨rfl,hb3⟩;have hB3:=hB2.trans (hb3.mono hB2.size);have k3:=k2.below hb3 k2.lt;have z0:=k3.cell 0;have z1:=k3.cell 1;have z2:=k3.cell 2;have z3:=k3.cell 3;have z4:=k3.cell 4;have z5:=k3.cell 5;have z6:=k3.cell 6;have z7:=k3.cell 7;have z8:=k3.cell 8;have z9:=k3.cell 9;have z10:=k3.cell 10;have z11:=k3.cell 11;have z12:=k3.cell 12;have z13:=k3.cell 13;simp only [List.getElem?_cons_zero,List.getElem?_cons_succ] at z0 z1 z2 z3 z4 z5 z6 z7 z8 z9 z10 z11 z12 z13))
                go_ret
                exact ⟨ret_bool HX.out.symm,hB3⟩
end Go.Proofs.YtaidhenkijjcfaaGreat
