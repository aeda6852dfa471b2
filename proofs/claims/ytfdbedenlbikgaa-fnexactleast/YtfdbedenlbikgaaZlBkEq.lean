/- Blocks held against each other by the laws. -/
import Derived.Test.YtfdbedenlbikgaaZlBkVal
set_option maxRecDepth 20000
set_option maxHeartbeats 2000000
namespace Go.Proofs.Ytfdbedenlbikgaa
open Go.RowKit
set_option linter.unusedVariables false
theorem eqVal_any (p q:Vl) (w:World):Calls Try.prog 90 #[.agg #[.string p.1,.int .i64 p.2],.agg #[.string q.1,.int .i64 q.2]] w fun e w'=>e=.returned (.bool (decide (p=q)))/\Below w.heap.size w w':=by
  obtain ⟨a,b⟩:=p
  obtain ⟨c,d⟩:=q
  have hB:=hide (((Below.refl _ w).alloc (Nat.le_refl _) (.cells #[.string a,.int .i64 b] 169)).alloc (by simp) (.cells #[.string c,.int .i64 d] 169))
  by_cases h1:a=c
  · subst h1
    by_cases h2:b=d
    · subst h2
      go_enter Try.func90,Try.ntmps90
      go_wp2
      go_ret
      exact ⟨by simp,hB.out⟩
    · have Hd:Hid (decide ((a,b)=(a,d))=false):=hide (by rw [decide_eq_false];intro e;injection e with _ e;exact h2 e)
      have hq:(b != d)=true:=by rw [bne_iff_ne];exact h2
      clear h2
      go_enter Try.func90,Try.ntmps90
      go_wp2
      go_ret
      exact ⟨ret_bool Hd.out.symm,hB.out⟩
  · have Hd:Hid (decide ((a,b)=(c,d))=false):=hide (by rw [decide_eq_false];intro e;injection e with e _;exact h1 e)
    have hq:=bytes_ne h1
    clear h1
    go_enter Try.func90,Try.ntmps90
    go_wp2
    go_ret
    exact ⟨ret_bool Hd.out.symm,hB.out⟩
theorem eqValS_any (v1 v2:Value) (l1 l2:List Vl) (w:World) (hr1:RdV w v1 l1) (hr2:RdV w v2 l2) (hl1:l1.length<=4000000) (hl2:l2.length<=4000000) :
    Calls Try.prog 71 #[v1,v2] w fun e w'=>e=.returned (.bool (decide (l1=l2)))/\Below w.heap.size w w':=by
  by_cases hne:l1.length=l2.length
  · rcases hr1 with ⟨a,cap,rfl,rfl,-⟩ | ⟨b,off,cap,h0,rfl,h1,h2,h3,h4⟩
    · have e2:l2=[]:=List.length_eq_zero_iff.1 (by simpa using hne.symm)
      subst e2
      obtain ⟨a2,cap2,rfl⟩:=hr2.shape
      clear hr2
      go_enter Try.func71,Try.ntmps71
      go_wp2
      refine wp_loop_rounds 1 ?_
      rw [rounds_succ]
      go_wp2
      go_ret
      exact ⟨rfl,Below.refl _ _⟩
    · rcases hr2 with ⟨a2,cap2,rfl,rfl,-⟩ | ⟨b2,off2,cap2,g0,rfl,g1,g2,g3,g4⟩
      · exact absurd (List.length_eq_zero_iff.1 (by simpa using hne)) h0
      · have Hne:=hide hne
        have hlen:((l1.length:Int) != (l2.length:Int))=false:=by rw [hne];simp
        have hle:l1.length<=l2.length:=by omega
        have hge:l2.length<=l1.length:=by omega
        have H4:=hide h4
        have G4:=hide g4
        clear hne h4 g4
        go_enter Try.func71,Try.ntmps71
        go_wp2
        go_loopw [5] (fun i wr=>∃ k:Nat,k<=l1.length/\i=.int .i64 k/\l1.take k=l2.take k/\Below w.heap.size w wr) (fun i _=>l1.length - (intOf i).toNat)
        case atStart=>exact ⟨0,Nat.zero_le _,rfl,rfl,Below.refl _ _⟩
        case round =>
          obtain ⟨k,hk,rfl,ht,hs⟩:=hrel
          have Ht:=hide ht
          clear ht
          by_cases hlt:k < l1.length
          · have hlt2:k < l2.length:=by omega
            obtain ⟨d1,d2⟩:=H4.out k hlt
            obtain ⟨e1,e2⟩:=G4.out k hlt2
            have hc1:wr.drew.cell? ⟨b,off+k * 2,none⟩=some (.string l1[k].1):=(hs.cell (p:=⟨b,off+k * 2,none⟩) h3).trans d1
            have hc2:wr.drew.cell? ⟨b,off+k * 2+1,none⟩=some (.int .i64 l1[k].2):=(hs.cell (p:=⟨b,off+k * 2+1,none⟩) h3).trans d2
            have hd1:wr.drew.cell? ⟨b2,off2+k * 2,none⟩=some (.string l2[k].1):=(hs.cell (p:=⟨b2,off2+k * 2,none⟩) g3).trans e1
            have hd2:wr.drew.cell? ⟨b2,off2+k * 2+1,none⟩=some (.int .i64 l2[k].2):=(hs.cell (p:=⟨b2,off2+k * 2+1,none⟩) g3).trans e2
            have hli:(k:Int) < (l1.length:Int):=by omega
            have hli2:(k:Int) < (l2.length:Int):=by omega
            have HE:=hide (eqVal_any l1[k] l2[k] wr.drew)
            have Hnx:Hid (l1[k]=l2[k]->l1.take (k+1)=l2.take (k+1)):=hide (fun he=>take_eq_snoc hlt hlt2 Ht.out he)
            have Hno:Hid (l1[k] ≠ l2[k]->decide (l1=l2)=false):=hide (fun he=>by rw [decide_eq_false];intro e;subst e;exact he rfl)
            clear d1 d2 e1 e2
            generalize hp:l1[k]=p at hc1 hc2 HE Hnx Hno
            generalize hq:l2[k]=q at hd1 hd2 HE Hnx Hno
            clear hp hq
            by_cases he:p=q
            · rw [decide_eq_true he] at HE
              have Hnx:=hide (Hnx.out he)
              clear he Hno
              go_wp2
              go_region_held_law (fun w'=>w'.cell? ⟨b,off+k * 2,none⟩=some (.string p.1)/\w'.cell? ⟨b,off+k * 2+1,none⟩=some (.int .i64 p.2)/\w'.cell? ⟨b2,off2+k * 2,none⟩=some (.string q.1)/\w'.cell? ⟨b2,off2+k * 2+1,none⟩=some (.int .i64 q.2)) (first | exact ⟨hc1,hc2,hd1,hd2⟩ | exact hS2) ((go_at_call 90;refine HE.out.mono ?_;rintro e w2 ⟨rfl,hb2⟩;have hz:=hs.size;have hS2:w2.cell? ⟨b,off+k * 2,none⟩=some (.string p.1)/\w2.cell? ⟨b,off+k * 2+1,none⟩=some (.int .i64 p.2)/\w2.cell? ⟨b2,off2+k * 2,none⟩=some (.string q.1)/\w2.cell? ⟨b2,off2+k * 2+1,none⟩=some (.int .i64 q.2):=⟨(hb2.cell (p:=⟨b,off+k * 2,none⟩) (Nat.lt_of_lt_of_le h3 hz)).trans hc1,(hb2.cell (p:=⟨b,off+k * 2+1,none⟩) (Nat.lt_of_lt_of_le h3 hz)).trans hc2,(hb2.cell (p:=⟨b2,off2+k * 2,none⟩) (Nat.lt_of_lt_of_le g3 hz)).trans hd1,(hb2.cell (p:=⟨b2,off2+k * 2+1,none⟩) (Nat.lt_of_lt_of_le g3 hz)).trans hd2⟩))
              go_wp2
              go_roundw
              case rel=>exact ⟨k+1,by omega,by go_num,Hnx.out,hs.drew.trans (hb2.mono hs.size)⟩
              case measure=>simp [intOf];omega
            · rw [decide_eq_false he] at HE
              have Hno:=hide (Hno.out he)
              clear he Hnx
              go_wp2
              go_region_held_law (fun w'=>w'.cell? ⟨b,off+k * 2,none⟩=some (.string p.1)/\w'.cell? ⟨b,off+k * 2+1,none⟩=some (.int .i64 p.2)/\w'.cell? ⟨b2,off2+k * 2,none⟩=some (.string q.1)/\w'.cell? ⟨b2,off2+k * 2+1,none⟩=some (.int .i64 q.2)) (first | exact ⟨hc1,hc2,hd1,hd2⟩ | exact hS2) ((go_at_call 90;refine HE.out.mono ?_;rintro e w2 ⟨rfl,hb2⟩;have hz:=hs.size;have hS2:w2.cell? ⟨b,off+k * 2,none⟩=some (.string p.1)/\w2.cell? ⟨b,off+k * 2+1,none⟩=some (.int .i64 p.2)/\w2.cell? ⟨b2,off2+k * 2,none⟩=some (.string q.1)/\w2.cell? ⟨b2,off2+k * 2+1,none⟩=some (.int .i64 q.2):=⟨(hb2.cell (p:=⟨b,off+k * 2,none⟩) (Nat.lt_of_lt_of_le h3 hz)).trans hc1,(hb2.cell (p:=⟨b,off+k * 2+1,none⟩) (Nat.lt_of_lt_of_le h3 hz)).trans hc2,(hb2.cell (p:=⟨b2,off2+k * 2,none⟩) (Nat.lt_of_lt_of_le g3 hz)).trans hd1,(hb2.cell (p:=⟨b2,off2+k * 2+1,none⟩) (Nat.lt_of_lt_of_le g3 hz)).trans hd2⟩))
              go_wp2
              go_ret
              exact ⟨ret_bool Hno.out.symm,hs.drew.trans (hb2.mono hs.size)⟩
          · have hf:Hid (decide (l1=l2)=true):=hide (by
              rw [decide_eq_true]
              have:=Ht.out
              rwa [List.take_of_length_le (by omega),List.take_of_length_le (by omega)] at this)
            go_wp2
            go_ret
            exact ⟨ret_bool hf.out.symm,hs⟩
  · obtain ⟨a,cap,rfl⟩:=hr1.shape
    obtain ⟨a2,cap2,rfl⟩:=hr2.shape
    clear hr1 hr2
    have hlen:((l1.length:Int) != (l2.length:Int))=true:=by rw [bne_iff_ne];omega
    have hf:Hid (decide (l1=l2)=false):=hide (by rw [decide_eq_false];intro e;subst e;exact hne rfl)
    clear hne
    go_enter Try.func71,Try.ntmps71
    go_wp2
    go_ret
    exact ⟨ret_bool hf.out.symm,Below.refl _ _⟩
def totV (l:List Vl):Nat:=(l.map (·.1.size)).sum
theorem totV_snoc (l:List Vl) (k:Nat) (h:k < l.length):totV (l.take (k+1))=totV (l.take k)+l[k].1.size:=by
  unfold totV
  rw [List.take_succ_eq_append_getElem h,List.map_append,List.sum_append]
  simp only [List.map_cons,List.map_nil,List.sum_cons,List.sum_nil,Nat.add_zero]
theorem szVal_fit (p:Vl) (r:Nat) (w:World) (h:p.1.size<=r) (hr:r<=100000000) :
    Calls Try.prog 82 #[.agg #[.string p.1,.int .i64 p.2],.int .i64 (r:Int)] w fun e w'=>e=.returned (.int .i64 ((r - p.1.size:Nat):Int))/\Below w.heap.size w w':=by
  obtain ⟨a,b⟩:=p
  simp only at h ⊢
  have HB:=hide ((Below.refl _ w).alloc (Nat.le_refl _) (.cells #[.string a,.int .i64 b] 161))
  have w1:IntKind.i64.wrap ((r:Int) - (a.size:Int))=((r - a.size:Nat):Int):=by rw [IntKind.wrap_i64];omega
  have h0:¬ ((r:Int) - (a.size:Int)) < 0:=by omega
  have h1:¬ (((r - a.size:Nat):Int)) < 0:=by omega
  generalize r - a.size=q at w1 h1 ⊢
  go_enter Try.func82,Try.ntmps82
  go_wp2
  go_ret
  exact ⟨rfl,HB.out⟩
theorem szVal_not (p:Vl) (r:Nat) (w:World) (h:¬ p.1.size<=r) (hr:r<=100000000) (hs:p.1.size<=9223372036854775807) :
    Calls Try.prog 82 #[.agg #[.string p.1,.int .i64 p.2],.int .i64 (r:Int)] w fun e w'=>e=.returned (.int .i64 (-1))/\Below w.heap.size w w':=by
  obtain ⟨a,b⟩:=p
  simp only at h hs ⊢
  have HB:=hide ((Below.refl _ w).alloc (Nat.le_refl _) (.cells #[.string a,.int .i64 b] 161))
  have w1:IntKind.i64.wrap ((r:Int) - (a.size:Int))=(r:Int) - (a.size:Int):=by rw [IntKind.wrap_i64];omega
  have h0:((r:Int) - (a.size:Int)) < 0:=by omega
  go_enter Try.func82,Try.ntmps82
  go_wp2
  go_ret
  exact ⟨rfl,HB.out⟩
theorem eqQc_any (r b:Int) (v1 v2:Value) (ws:List ByteArray) (w:World) (h1:RdS w v1 ws) (h2:RdS w v2 ws) (hl:ws.length<=4000000) :
    Calls Try.prog 72 #[qcV r b v1,qcV r b v2] w fun e w'=>e=.returned (.bool true)/\Below w.heap.size w w':=by
  obtain ⟨a1,c1,rfl⟩:=h1.shape
  obtain ⟨a2,c2,rfl⟩:=h2.shape
  simp only [qcV]
  obtain ⟨w1,hw1⟩:∃ x,(w.alloc (.cells #[.int .i64 r,.int .i64 b,.slice a1 ws.length c1] 54)).alloc (.cells #[.int .i64 r,.int .i64 b,.slice a2 ws.length c2] 54)=x:=⟨_,rfl⟩
  have b1:Below w.heap.size w w1:=by rw [<- hw1];exact ((Below.refl _ w).alloc (Nat.le_refl _) _).alloc (by simp) _
  have k1:Blk w1 w.heap.size 54 [.int .i64 r,.int .i64 b,.slice a1 ws.length c1]:=by rw [<- hw1];exact (Blk.new w _ _).below ((Below.refl (w.heap.size+1) _).alloc (by simp) _) (by omega)
  have k2:Blk w1 (w.heap.size+1) 54 [.int .i64 r,.int .i64 b,.slice a2 ws.length c2]:=by rw [<- hw1];exact Blk.newR _ _ [.int .i64 r,.int .i64 b,.slice a2 ws.length c2] _ (by simp)
  have HE:=hide (eqStringS_any _ _ ws ws w1 (h1.below b1 (Nat.le_refl _)) (h2.below b1 (Nat.le_refl _)) hl hl)
  rw [decide_eq_true rfl] at HE
  have x0:=k1.cell 0
  have x1:=k1.cell 1
  have x2:=k1.cell 2
  have y0:=k2.cell 0
  have y1:=k2.cell 1
  have y2:=k2.cell 2
  simp only [List.getElem?_cons_zero,List.getElem?_cons_succ] at x0 x1 x2 y0 y1 y2
  have HB1:=hide b1
  clear h1 h2 k1 k2 b1
  go_enter Try.func72,Try.ntmps72
  go_wp2_with fail
  refine HE.out.mono ?_
  rintro e w2 ⟨rfl,hb2⟩
  have HB2:=hide (HB1.out.trans (hb2 _))
  clear x0 x1 x2 y0 y1 y2 hw1 hb2
  go_wp2
  go_ret
  exact ⟨rfl,HB2.out⟩
theorem eqBlock_any (b:Bk) (v1 v2:Bv) (w:World) (h1:RdK w b v1) (h2:RdK w b v2) (hf:FewK b) :
    Calls Try.prog 45 #[bkV b v1,bkV b v2] w fun e w'=>e=.returned (.bool true)/\Below w.heap.size w w':=by
  have hlq:=hf.q
  have hlw:=hf.w
  have hlh:=hf.h
  have hlt:=hf.t
  have hln:=hf.n
  clear hf
  obtain ⟨id,ep,rd,mk,qr,qb,qw,tr,tw,th,ts,en,nx,rt⟩:=b
  obtain ⟨vq,vw,vh,vt,vn⟩:=v1
  obtain ⟨uq,uw,uh,ut,un⟩:=v2
  obtain ⟨hq,hw,hh,ht,hn⟩:=h1
  obtain ⟨gq,gw,gh,gt,gn⟩:=h2
  simp only [bkV] at *
  obtain ⟨aq,cq,rfl⟩:=hq.shape
  obtain ⟨aw,cw,rfl⟩:=hw.shape
  obtain ⟨ah,ch,rfl⟩:=hh.shape
  obtain ⟨at',ct,rfl⟩:=ht.shape
  obtain ⟨an,cn,rfl⟩:=hn.shape
  obtain ⟨aq2,cq2,rfl⟩:=gq.shape
  obtain ⟨aw2,cw2,rfl⟩:=gw.shape
  obtain ⟨ah2,ch2,rfl⟩:=gh.shape
  obtain ⟨at2,ct2,rfl⟩:=gt.shape
  obtain ⟨an2,cn2,rfl⟩:=gn.shape
  obtain ⟨w1,hw1⟩:∃ x,(w.alloc (.cells #[.int .i64 id,.int .i64 ep,.int .i64 rd,.string mk,.int .i64 qr,.int .i64 qb,.slice aq qw.length cq,.int .i64 tr,.slice aw tw.length cw,.slice ah th.length ch,.slice at' ts.length ct,.bool en,.slice an nx.length cn,.string rt] 105)).alloc (.cells #[.int .i64 id,.int .i64 ep,.int .i64 rd,.string mk,.int .i64 qr,.int .i64 qb,.slice aq2 qw.length cq2,.int .i64 tr,.slice aw2 tw.length cw2,.slice ah2 th.length ch2,.slice at2 ts.length ct2,.bool en,.slice an2 nx.length cn2,.string rt] 105)=x:=⟨_,rfl⟩
  have b1:Below w.heap.size w w1:=by rw [<- hw1];exact ((Below.refl _ w).alloc (Nat.le_refl _) _).alloc (by simp) _
  have k1:Blk w1 w.heap.size 105 [.int .i64 id,.int .i64 ep,.int .i64 rd,.string mk,.int .i64 qr,.int .i64 qb,.slice aq qw.length cq,.int .i64 tr,.slice aw tw.length cw,.slice ah th.length ch,.slice at' ts.length ct,.bool en,.slice an nx.length cn,.string rt]:=by rw [<- hw1];exact (Blk.new w _ _).below ((Below.refl (w.heap.size+1) _).alloc (by simp) _) (by omega)
  have m1:Blk w1 (w.heap.size+1) 105 [.int .i64 id,.int .i64 ep,.int .i64 rd,.string mk,.int .i64 qr,.int .i64 qb,.slice aq2 qw.length cq2,.int .i64 tr,.slice aw2 tw.length cw2,.slice ah2 th.length ch2,.slice at2 ts.length ct2,.bool en,.slice an2 nx.length cn2,.string rt]:=by rw [<- hw1];exact Blk.newR _ _ [.int .i64 id,.int .i64 ep,.int .i64 rd,.string mk,.int .i64 qr,.int .i64 qb,.slice aq2 qw.length cq2,.int .i64 tr,.slice aw2 tw.length cw2,.slice ah2 th.length ch2,.slice at2 ts.length ct2,.bool en,.slice an2 nx.length cn2,.string rt] _ (by simp)
  have E1:=hide (fun V (hV:Below w.heap.size w V)=>eqQc_any qr qb (.slice aq qw.length cq) (.slice aq2 qw.length cq2) qw V (hq.below hV (Nat.le_refl _)) (gq.below hV (Nat.le_refl _)) hlq)
  have E2:=hide (fun V (hV:Below w.heap.size w V)=>eqTc_any tr (.slice aw tw.length cw) (.slice ah th.length ch) (.slice aw2 tw.length cw2) (.slice ah2 th.length ch2) tw th V (hw.below hV (Nat.le_refl _)) (hh.below hV (Nat.le_refl _)) (gw.below hV (Nat.le_refl _)) (gh.below hV (Nat.le_refl _)) hlw hlh)
  have E3:=hide (fun V (hV:Below w.heap.size w V)=>eqTxS_any (.slice at' ts.length ct) (.slice at2 ts.length ct2) ts ts V (ht.below hV (Nat.le_refl _)) (gt.below hV (Nat.le_refl _)) hlt hlt rfl)
  have E4:=hide (fun V (hV:Below w.heap.size w V)=>eqValS_any (.slice an nx.length cn) (.slice an2 nx.length cn2) nx nx V (hn.below hV (Nat.le_refl _)) (gn.below hV (Nat.le_refl _)) hln hln)
  rw [decide_eq_true rfl] at E4
  simp only [qcV,tcV] at E1 E2
  have HB1:=hide b1
  clear hq hw hh ht hn gq gw gh gt gn b1
  go_enter Try.func45,Try.ntmps45
  have x0:=k1.cell 0
  have y0:=m1.cell 0
  have x1:=k1.cell 1
  have y1:=m1.cell 1
  have x2:=k1.cell 2
  have y2:=m1.cell 2
  have x3:=k1.cell 3
  have y3:=m1.cell 3
  have x4:=k1.cell 4
  have y4:=m1.cell 4
  have x5:=k1.cell 5
  have y5:=m1.cell 5
  have x6:=k1.cell 6
  have y6:=m1.cell 6
  simp only [List.getElem?_cons_zero,List.getElem?_cons_succ] at x0 y0 x1 y1 x2 y2 x3 y3 x4 y4 x5 y5 x6 y6
  go_wp2_with fail
  refine (E1.out _ HB1.out).mono ?_
  rintro e w2 ⟨rfl,hb2⟩
  have k2:=k1.below hb2 k1.lt
  have m2:=m1.below hb2 m1.lt
  have HB2:=hide (HB1.out.trans (hb2.mono HB1.out.size))
  clear k1 m1 hb2
  clear x0 y0 x1 y1 x2 y2 x3 y3 x4 y4 x5 y5 x6 y6 hw1
  have x7:=k2.cell 7
  have y7:=m2.cell 7
  have x8:=k2.cell 8
  have y8:=m2.cell 8
  have x9:=k2.cell 9
  have y9:=m2.cell 9
  simp only [List.getElem?_cons_zero,List.getElem?_cons_succ] at x7 y7 x8 y8 x9 y9
  go_wp2_with fail
  refine (E2.out _ HB2.out).mono ?_
  rintro e w3 ⟨rfl,hb3⟩
  have k3:=k2.below hb3 k2.lt
  have m3:=m2.below hb3 m2.lt
  have HB3:=hide (HB2.out.trans (hb3.mono HB2.out.size))
  clear k2 m2 hb3
  clear x7 y7 x8 y8 x9 y9
  have x10:=k3.cell 10
  have y10:=m3.cell 10
  simp only [List.getElem?_cons_zero,List.getElem?_cons_succ] at x10 y10
  go_wp2_with fail
  refine (E3.out _ HB3.out).mono ?_
  rintro e w4 ⟨rfl,hb4⟩
  have k4:=k3.below hb4 k3.lt
  have m4:=m3.below hb4 m3.lt
  have HB4:=hide (HB3.out.trans (hb4.mono HB3.out.size))
  clear k3 m3 hb4
  clear x10 y10
  have x11:=k4.cell 11
  have y11:=m4.cell 11
  have x12:=k4.cell 12
  have y12:=m4.cell 12
  simp only [List.getElem?_cons_zero,List.getElem?_cons_succ] at x11 y11 x12 y12
  go_wp2_with fail
  refine (E4.out _ HB4.out).mono ?_
  rintro e w5 ⟨rfl,hb5⟩
  have k5:=k4.below hb5 k4.lt
  have m5:=m4.below hb5 m4.lt
  have HB5:=hide (HB4.out.trans (hb5.mono HB4.out.size))
  clear k4 m4 hb5
  clear x11 y11 x12 y12
  have x13:=k5.cell 13
  have y13:=m5.cell 13
  simp only [List.getElem?_cons_zero,List.getElem?_cons_succ] at x13 y13
  go_wp2
  go_ret
  exact ⟨rfl,HB5.out⟩
end Go.Proofs.Ytfdbedenlbikgaa
