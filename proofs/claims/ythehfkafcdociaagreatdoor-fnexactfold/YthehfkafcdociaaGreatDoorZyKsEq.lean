/- Rows of blocks made anew, and held against each other, by the laws. -/
import Derived.Test.YthehfkafcdociaaGreatDoorZyMgMg
set_option maxRecDepth 20000
set_option maxHeartbeats 8000000
namespace Go.Proofs.YthehfkafcdociaaGreatDoor
open Go.RowKit
set_option linter.unusedVariables false
structure Wd where
  ep:Int
  la:List Ac
  fo:List ByteArray
  ns:List Nd
  bs:List Bk
  sg:List Sn
  ms:List Mg
structure Wv where
  a:Value
  f:Value
  n:Value
  b:Value
  s:Value
  m:Value
def wdC (p:Wd) (u:Wv):List Value:=[.int .i64 p.ep,u.a,u.f,u.n,u.b,u.s,u.m]
def wdV (p:Wd) (u:Wv):Value:=.agg #[.int .i64 p.ep,u.a,u.f,u.n,u.b,u.s,u.m]
def wdCZ:List Value:=[.int .i64 0,.slice none 0 0,.slice none 0 0,.slice none 0 0,.slice none 0 0,.slice none 0 0,.slice none 0 0]
structure RdWd (w:World) (p:Wd) (u:Wv):Prop where
  ka:RdA w u.a p.la
  kf:RdS w u.f p.fo
  kn:RdNs w u.n p.ns
  kb:RdKs w u.b p.bs
  ks:RdSs w u.s p.sg
  km:RdMs w u.m p.ms
theorem RdWd.below {B:Nat} {w w':World} {p:Wd} {u:Wv} (h:RdWd w p u) (hb:Below B w w') (hB:w.heap.size<=B):RdWd w' p u:=⟨h.ka.below hb hB,h.kf.below hb hB,h.kn.below hb hB,h.kb.below hb hB,h.ks.below hb hB,h.km.below hb hB⟩
structure OwnWd (lo hi:Nat) (w:World) (p:Wd) (u:Wv):Prop where
  ex:∃ m0 m1 m2 m3 m4 m5 m6:Nat,lo<=m0/\m0<=m1/\m1<=m2/\m2<=m3/\m3<=m4/\m4<=m5/\m5<=m6/\m6<=hi/\OwnX m0 m1 w u.a p.la/\InS m1 m2 w u.f p.fo/\OwnNx m2 m3 w u.n p.ns/\OwnKx m3 m4 w u.b p.bs/\OwnSx m4 m5 w u.s p.sg/\OwnMx m5 m6 w u.m p.ms
theorem OwnWd.rd {lo hi:Nat} {w:World} {p:Wd} {u:Wv} (h:OwnWd lo hi w p u):RdWd w p u:=by
  obtain ⟨m0,m1,m2,m3,m4,m5,m6,k0,k1,k2,k3,k4,k5,k6,k7,xa,xf,xn,xb,xs,xm⟩:=h.ex
  exact ⟨xa.rd,xf.rd,xn.rd,xb.rd,xs.rd,xm.rd⟩
theorem OwnWd.kept {lo hi:Nat} {w w':World} {p:Wd} {u:Wv} (h:OwnWd lo hi w p u) (hk:Kept lo hi w w'):OwnWd lo hi w' p u:=by
  obtain ⟨m0,m1,m2,m3,m4,m5,m6,k0,k1,k2,k3,k4,k5,k6,k7,xa,xf,xn,xb,xs,xm⟩:=h.ex
  exact ⟨m0,m1,m2,m3,m4,m5,m6,k0,k1,k2,k3,k4,k5,k6,k7,xa.kept (hk.mono (by omega) (by omega)),xf.kept (hk.mono (by omega) (by omega)),xn.kept (hk.mono (by omega) (by omega)),xb.kept (hk.mono (by omega) (by omega)),xs.kept (hk.mono (by omega) (by omega)),xm.kept (hk.mono (by omega) (by omega))⟩
def RdWs (w:World) (v:Value) (l:List Wd):Prop:=∃ Z:List (Wd × Wv),Z.map (·.1)=l/\RdRow 7 (fun q=>wdC q.1 q.2) (fun w q=>RdWd w q.1 q.2) w v Z
def OwnWx (lo hi:Nat) (w:World) (v:Value) (l:List Wd):Prop:=∃ Z:List (Wd × Wv),Z.map (·.1)=l/\OwnRow 44 7 (fun q=>wdC q.1 q.2) (fun a b w q=>OwnWd a b w q.1 q.2) lo hi w v Z
theorem eqVal_any (p q:Vl) (w:World):Calls Tryz.prog 135 #[.agg #[.string p.1,.int .i64 p.2],.agg #[.string q.1,.int .i64 q.2]] w fun e w'=>e=.returned (.bool (decide (p=q)))/\Below w.heap.size w w':=by
  obtain ⟨a,b⟩:=p
  obtain ⟨c,d⟩:=q
  have hB:=hide (((Below.refl _ w).alloc (Nat.le_refl _) (.cells #[.string a,.int .i64 b] 193)).alloc (by simp) (.cells #[.string c,.int .i64 d] 193))
  by_cases h1:a=c
  · subst h1
    by_cases h2:b=d
    · subst h2
      go_enter Tryz.func135,Tryz.ntmps135
      go_wp2
      go_ret
      exact ⟨by simp,hB.out⟩
    · have Hd:Hid (decide ((a,b)=(a,d))=false):=hide (by rw [decide_eq_false];intro e;injection e with _ e;exact h2 e)
      have hq:(b != d)=true:=by rw [bne_iff_ne];exact h2
      clear h2
      go_enter Tryz.func135,Tryz.ntmps135
      go_wp2
      go_ret
      exact ⟨ret_bool Hd.out.symm,hB.out⟩
  · have Hd:Hid (decide ((a,b)=(c,d))=false):=hide (by rw [decide_eq_false];intro e;injection e with e _;exact h1 e)
    have hq:=bytes_ne h1
    clear h1
    go_enter Tryz.func135,Tryz.ntmps135
    go_wp2
    go_ret
    exact ⟨ret_bool Hd.out.symm,hB.out⟩
theorem eqValS_any (v1 v2:Value) (l1 l2:List Vl) (w:World) (hr1:RdV w v1 l1) (hr2:RdV w v2 l2) (hl1:l1.length<=4000000) (hl2:l2.length<=4000000) :
    Calls Tryz.prog 108 #[v1,v2] w fun e w'=>e=.returned (.bool (decide (l1=l2)))/\Below w.heap.size w w':=by
  by_cases hne:l1.length=l2.length
  · rcases hr1 with ⟨a,cap,rfl,rfl,-⟩ | ⟨b,off,cap,h0,rfl,h1,h2,h3,h4⟩
    · have e2:l2=[]:=List.length_eq_zero_iff.1 (by simpa using hne.symm)
      subst e2
      obtain ⟨a2,cap2,rfl⟩:=hr2.shape
      clear hr2
      go_enter Tryz.func108,Tryz.ntmps108
      go_wp2
      refine wp_loop_rounds 1 ?_
      rw [rounds_succ]
      go_wp2
      go_ret
      exact ⟨rfl,Below.refl _ _⟩
    · rcases hr2 with ⟨a2,cap2,rfl,rfl,-⟩ | ⟨b2,off2,cap2,g0,rfl,g1,g2,g3,g4⟩
      · exact absurd (List.length_eq_zero_iff.1 (by simpa using hne)) h0
      · have Hne:=hide hne
        have hlen:((l1.length:Int) != (l2.length:Int))=false:=by rw [hne];simp
        have hle:l1.length<=l2.length:=by omega
        have hge:l2.length<=l1.length:=by omega
        have H4:=hide h4
        have G4:=hide g4
        clear hne h4 g4
        go_enter Tryz.func108,Tryz.ntmps108
        go_wp2
        go_loopw [5] (fun i wr=>∃ k:Nat,k<=l1.length/\i=.int .i64 k/\l1.take k=l2.take k/\Below w.heap.size w wr) (fun i _=>l1.length - (intOf i).toNat)
        case atStart=>exact ⟨0,Nat.zero_le _,rfl,rfl,Below.refl _ _⟩
        case round =>
          obtain ⟨k,hk,rfl,ht,hs⟩:=hrel
          have Ht:=hide ht
          clear ht
          by_cases hlt:k < l1.length
          · have hlt2:k < l2.length:=by omega
            obtain ⟨d1,d2⟩:=H4.out k hlt
            obtain ⟨e1,e2⟩:=G4.out k hlt2
            have hc1:wr.drew.cell? ⟨b,off+k * 2,none⟩=some (.string l1[k].1):=(hs.cell (p:=⟨b,off+k * 2,none⟩) h3).trans d1
            have hc2:wr.drew.cell? ⟨b,off+k * 2+1,none⟩=some (.int .i64 l1[k].2):=(hs.cell (p:=⟨b,off+k * 2+1,none⟩) h3).trans d2
            have hd1:wr.drew.cell? ⟨b2,off2+k * 2,none⟩=some (.string l2[k].1):=(hs.cell (p:=⟨b2,off2+k * 2,none⟩) g3).trans e1
            have hd2:wr.drew.cell? ⟨b2,off2+k * 2+1,none⟩=some (.int .i64 l2[k].2):=(hs.cell (p:=⟨b2,off2+k * 2+1,none⟩) g3).trans e2
            have hli:(k:Int) < (l1.length:Int):=by omega
            have hli2:(k:Int) < (l2.length:Int):=by omega
            have HE:=hide (eqVal_any l1[k] l2[k] wr.drew)
            have Hnx:Hid (l1[k]=l2[k]->l1.take (k+1)=l2.take (k+1)):=hide (fun he=>take_eq_snoc hlt hlt2 Ht.out he)
            have Hno:Hid (l1[k] ≠ l2[k]->decide (l1=l2)=false):=hide (fun he=>by rw [decide_eq_false];intro e;subst e;exact he rfl)
            clear d1 d2 e1 e2
            generalize hp:l1[k]=p at hc1 hc2 HE Hnx Hno
            generalize hq:l2[k]=q at hd1 hd2 HE Hnx Hno
            clear hp hq
            by_cases he:p=q
            · rw [decide_eq_true he] at HE
              have Hnx:=hide (Hnx.out he)
              clear he Hno
              go_wp2
              go_region_held_law (fun w'=>w'.cell? ⟨b,off+k * 2,none⟩=some (.string p.1)/\w'.cell? ⟨b,off+k * 2+1,none⟩=some (.int .i64 p.2)/\w'.cell? ⟨b2,off2+k * 2,none⟩=some (.string q.1)/\w'.cell? ⟨b2,off2+k * 2+1,none⟩=some (.int .i64 q.2)) (first | exact ⟨hc1,hc2,hd1,hd2⟩ | exact hS2) ((go_at_call 135;refine HE.out.mono ?_;rintro e w2 ⟨rfl,hb2⟩;have hz:=hs.size;have hS2:w2.cell? ⟨b,off+k * 2,none⟩=some (.string p.1)/\w2.cell? ⟨b,off+k * 2+1,none⟩=some (.int .i64 p.2)/\w2.cell? ⟨b2,off2+k * 2,none⟩=some (.string q.1)/\w2.cell? ⟨b2,off2+k * 2+1,none⟩=some (.int .i64 q.2):=⟨(hb2.cell (p:=⟨b,off+k * 2,none⟩) (Nat.lt_of_lt_of_le h3 hz)).trans hc1,(hb2.cell (p:=⟨b,off+k * 2+1,none⟩) (Nat.lt_of_lt_of_le h3 hz)).trans hc2,(hb2.cell (p:=⟨b2,off2+k * 2,none⟩) (Nat.lt_of_lt_of_le g3 hz)).trans hd1,(hb2.cell (p:=⟨b2,off2+k * 2+1,none⟩) (Nat.lt_of_lt_of_le g3 hz)).trans hd2⟩))
              go_wp2
              go_roundw
              case rel=>exact ⟨k+1,by omega,by go_num,Hnx.out,hs.drew.trans (hb2.mono hs.size)⟩
              case measure=>simp [intOf];omega
            · rw [decide_eq_false he] at HE
              have Hno:=hide (Hno.out he)
              clear he Hnx
              go_wp2
              go_region_held_law (fun w'=>w'.cell? ⟨b,off+k * 2,none⟩=some (.string p.1)/\w'.cell? ⟨b,off+k * 2+1,none⟩=some (.int .i64 p.2)/\w'.cell? ⟨b2,off2+k * 2,none⟩=some (.string q.1)/\w'.cell? ⟨b2,off2+k * 2+1,none⟩=some (.int .i64 q.2)) (first | exact ⟨hc1,hc2,hd1,hd2⟩ | exact hS2) ((go_at_call 135;refine HE.out.mono ?_;rintro e w2 ⟨rfl,hb2⟩;have hz:=hs.size;have hS2:w2.cell? ⟨b,off+k * 2,none⟩=some (.string p.1)/\w2.cell? ⟨b,off+k * 2+1,none⟩=some (.int .i64 p.2)/\w2.cell? ⟨b2,off2+k * 2,none⟩=some (.string q.1)/\w2.cell? ⟨b2,off2+k * 2+1,none⟩=some (.int .i64 q.2):=⟨(hb2.cell (p:=⟨b,off+k * 2,none⟩) (Nat.lt_of_lt_of_le h3 hz)).trans hc1,(hb2.cell (p:=⟨b,off+k * 2+1,none⟩) (Nat.lt_of_lt_of_le h3 hz)).trans hc2,(hb2.cell (p:=⟨b2,off2+k * 2,none⟩) (Nat.lt_of_lt_of_le g3 hz)).trans hd1,(hb2.cell (p:=⟨b2,off2+k * 2+1,none⟩) (Nat.lt_of_lt_of_le g3 hz)).trans hd2⟩))
              go_wp2
              go_ret
              exact ⟨ret_bool Hno.out.symm,hs.drew.trans (hb2.mono hs.size)⟩
          · have hf:Hid (decide (l1=l2)=true):=hide (by
              rw [decide_eq_true]
              have:=Ht.out
              rwa [List.take_of_length_le (by omega),List.take_of_length_le (by omega)] at this)
            go_wp2
            go_ret
            exact ⟨ret_bool hf.out.symm,hs⟩
  · obtain ⟨a,cap,rfl⟩:=hr1.shape
    obtain ⟨a2,cap2,rfl⟩:=hr2.shape
    clear hr1 hr2
    have hlen:((l1.length:Int) != (l2.length:Int))=true:=by rw [bne_iff_ne];omega
    have hf:Hid (decide (l1=l2)=false):=hide (by rw [decide_eq_false];intro e;subst e;exact hne rfl)
    clear hne
    go_enter Tryz.func108,Tryz.ntmps108
    go_wp2
    go_ret
    exact ⟨ret_bool hf.out.symm,Below.refl _ _⟩
def totV (l:List Vl):Nat:=(l.map (·.1.size)).sum
theorem totV_snoc (l:List Vl) (k:Nat) (h:k < l.length):totV (l.take (k+1))=totV (l.take k)+l[k].1.size:=by
  unfold totV
  rw [List.take_succ_eq_append_getElem h,List.map_append,List.sum_append]
  simp only [List.map_cons,List.map_nil,List.sum_cons,List.sum_nil,Nat.add_zero]
theorem szVal_fit (p:Vl) (r:Nat) (w:World) (h:p.1.size<=r) (hr:r<=100000000) :
    Calls Tryz.prog 118 #[.agg #[.string p.1,.int .i64 p.2],.int .i64 (r:Int)] w fun e w'=>e=.returned (.int .i64 ((r - p.1.size:Nat):Int))/\Below w.heap.size w w':=by
  obtain ⟨a,b⟩:=p
  simp only at h ⊢
  have HB:=hide ((Below.refl _ w).alloc (Nat.le_refl _) (.cells #[.string a,.int .i64 b] 198))
  have w1:IntKind.i64.wrap ((r:Int) - (a.size:Int))=((r - a.size:Nat):Int):=by rw [IntKind.wrap_i64];omega
  have h0:¬ ((r:Int) - (a.size:Int)) < 0:=by omega
  have h1:¬ (((r - a.size:Nat):Int)) < 0:=by omega
  generalize r - a.size=q at w1 h1 ⊢
  go_enter Tryz.func118,Tryz.ntmps118
  go_wp2
  go_ret
  exact ⟨rfl,HB.out⟩
theorem szVal_not (p:Vl) (r:Nat) (w:World) (h:¬ p.1.size<=r) (hr:r<=100000000) (hs:p.1.size<=9223372036854775807) :
    Calls Tryz.prog 118 #[.agg #[.string p.1,.int .i64 p.2],.int .i64 (r:Int)] w fun e w'=>e=.returned (.int .i64 (-1))/\Below w.heap.size w w':=by
  obtain ⟨a,b⟩:=p
  simp only at h hs ⊢
  have HB:=hide ((Below.refl _ w).alloc (Nat.le_refl _) (.cells #[.string a,.int .i64 b] 198))
  have w1:IntKind.i64.wrap ((r:Int) - (a.size:Int))=(r:Int) - (a.size:Int):=by rw [IntKind.wrap_i64];omega
  have h0:((r:Int) - (a.size:Int)) < 0:=by omega
  go_enter Tryz.func118,Tryz.ntmps118
  go_wp2
  go_ret
  exact ⟨rfl,HB.out⟩
theorem eqQc_any (r b:Int) (v1 v2:Value) (ws:List ByteArray) (w:World) (h1:RdS w v1 ws) (h2:RdS w v2 ws) (hl:ws.length<=4000000) :
    Calls Tryz.prog 109 #[qcV r b v1,qcV r b v2] w fun e w'=>e=.returned (.bool true)/\Below w.heap.size w w':=by
  obtain ⟨a1,c1,rfl⟩:=h1.shape
  obtain ⟨a2,c2,rfl⟩:=h2.shape
  simp only [qcV]
  obtain ⟨w1,hw1⟩:∃ x,(w.alloc (.cells #[.int .i64 r,.int .i64 b,.slice a1 ws.length c1] 63)).alloc (.cells #[.int .i64 r,.int .i64 b,.slice a2 ws.length c2] 63)=x:=⟨_,rfl⟩
  have b1:Below w.heap.size w w1:=by rw [<- hw1];exact ((Below.refl _ w).alloc (Nat.le_refl _) _).alloc (by simp) _
  have k1:Blk w1 w.heap.size 63 [.int .i64 r,.int .i64 b,.slice a1 ws.length c1]:=by rw [<- hw1];exact (Blk.new w _ _).below ((Below.refl (w.heap.size+1) _).alloc (by simp) _) (by omega)
  have k2:Blk w1 (w.heap.size+1) 63 [.int .i64 r,.int .i64 b,.slice a2 ws.length c2]:=by rw [<- hw1];exact Blk.newR _ _ [.int .i64 r,.int .i64 b,.slice a2 ws.length c2] _ (by simp)
  have HE:=hide (eqStringS_any _ _ ws ws w1 (h1.below b1 (Nat.le_refl _)) (h2.below b1 (Nat.le_refl _)) hl hl)
  rw [decide_eq_true rfl] at HE
  have x0:=k1.cell 0
  have x1:=k1.cell 1
  have x2:=k1.cell 2
  have y0:=k2.cell 0
  have y1:=k2.cell 1
  have y2:=k2.cell 2
  simp only [List.getElem?_cons_zero,List.getElem?_cons_succ] at x0 x1 x2 y0 y1 y2
  have HB1:=hide b1
  clear h1 h2 k1 k2 b1
  go_enter Tryz.func109,Tryz.ntmps109
  go_wp2_with fail
  refine HE.out.mono ?_
  rintro e w2 ⟨rfl,hb2⟩
  have HB2:=hide (HB1.out.trans (hb2 _))
  clear x0 x1 x2 y0 y1 y2 hw1 hb2
  go_wp2
  go_ret
  exact ⟨rfl,HB2.out⟩
theorem eqBlock_any (b:Bk) (v1 v2:Bv) (w:World) (h1:RdK w b v1) (h2:RdK w b v2) (hf:FewK b) :
    Calls Tryz.prog 66 #[bkV b v1,bkV b v2] w fun e w'=>e=.returned (.bool true)/\Below w.heap.size w w':=by
  have hlq:=hf.q
  have hlw:=hf.w
  have hlh:=hf.h
  have hlt:=hf.t
  have hln:=hf.n
  clear hf
  obtain ⟨id,ep,rd,mk,qr,qb,qw,tr,tw,th,ts,en,nx,rt⟩:=b
  obtain ⟨vq,vw,vh,vt,vn⟩:=v1
  obtain ⟨uq,uw,uh,ut,un⟩:=v2
  obtain ⟨hq,hw,hh,ht,hn⟩:=h1
  obtain ⟨gq,gw,gh,gt,gn⟩:=h2
  simp only [bkV] at *
  obtain ⟨aq,cq,rfl⟩:=hq.shape
  obtain ⟨aw,cw,rfl⟩:=hw.shape
  obtain ⟨ah,ch,rfl⟩:=hh.shape
  obtain ⟨at',ct,rfl⟩:=ht.shape
  obtain ⟨an,cn,rfl⟩:=hn.shape
  obtain ⟨aq2,cq2,rfl⟩:=gq.shape
  obtain ⟨aw2,cw2,rfl⟩:=gw.shape
  obtain ⟨ah2,ch2,rfl⟩:=gh.shape
  obtain ⟨at2,ct2,rfl⟩:=gt.shape
  obtain ⟨an2,cn2,rfl⟩:=gn.shape
  obtain ⟨w1,hw1⟩:∃ x,(w.alloc (.cells #[.int .i64 id,.int .i64 ep,.int .i64 rd,.string mk,.int .i64 qr,.int .i64 qb,.slice aq qw.length cq,.int .i64 tr,.slice aw tw.length cw,.slice ah th.length ch,.slice at' ts.length ct,.bool en,.slice an nx.length cn,.string rt] 69)).alloc (.cells #[.int .i64 id,.int .i64 ep,.int .i64 rd,.string mk,.int .i64 qr,.int .i64 qb,.slice aq2 qw.length cq2,.int .i64 tr,.slice aw2 tw.length cw2,.slice ah2 th.length ch2,.slice at2 ts.length ct2,.bool en,.slice an2 nx.length cn2,.string rt] 69)=x:=⟨_,rfl⟩
  have b1:Below w.heap.size w w1:=by rw [<- hw1];exact ((Below.refl _ w).alloc (Nat.le_refl _) _).alloc (by simp) _
  have k1:Blk w1 w.heap.size 69 [.int .i64 id,.int .i64 ep,.int .i64 rd,.string mk,.int .i64 qr,.int .i64 qb,.slice aq qw.length cq,.int .i64 tr,.slice aw tw.length cw,.slice ah th.length ch,.slice at' ts.length ct,.bool en,.slice an nx.length cn,.string rt]:=by rw [<- hw1];exact (Blk.new w _ _).below ((Below.refl (w.heap.size+1) _).alloc (by simp) _) (by omega)
  have m1:Blk w1 (w.heap.size+1) 69 [.int .i64 id,.int .i64 ep,.int .i64 rd,.string mk,.int .i64 qr,.int .i64 qb,.slice aq2 qw.length cq2,.int .i64 tr,.slice aw2 tw.length cw2,.slice ah2 th.length ch2,.slice at2 ts.length ct2,.bool en,.slice an2 nx.length cn2,.string rt]:=by rw [<- hw1];exact Blk.newR _ _ [.int .i64 id,.int .i64 ep,.int .i64 rd,.string mk,.int .i64 qr,.int .i64 qb,.slice aq2 qw.length cq2,.int .i64 tr,.slice aw2 tw.length cw2,.slice ah2 th.length ch2,.slice at2 ts.length ct2,.bool en,.slice an2 nx.length cn2,.string rt] _ (by simp)
  have E1:=hide (fun V (hV:Below w.heap.size w V)=>eqQc_any qr qb (.slice aq qw.length cq) (.slice aq2 qw.length cq2) qw V (hq.below hV (Nat.le_refl _)) (gq.below hV (Nat.le_refl _)) hlq)
  have E2:=hide (fun V (hV:Below w.heap.size w V)=>eqTc_any tr (.slice aw tw.length cw) (.slice ah th.length ch) (.slice aw2 tw.length cw2) (.slice ah2 th.length ch2) tw th V (hw.below hV (Nat.le_refl _)) (hh.below hV (Nat.le_refl _)) (gw.below hV (Nat.le_refl _)) (gh.below hV (Nat.le_refl _)) hlw hlh)
  have E3:=hide (fun V (hV:Below w.heap.size w V)=>eqTxS_any (.slice at' ts.length ct) (.slice at2 ts.length ct2) ts ts V (ht.below hV (Nat.le_refl _)) (gt.below hV (Nat.le_refl _)) hlt hlt rfl)
  have E4:=hide (fun V (hV:Below w.heap.size w V)=>eqValS_any (.slice an nx.length cn) (.slice an2 nx.length cn2) nx nx V (hn.below hV (Nat.le_refl _)) (gn.below hV (Nat.le_refl _)) hln hln)
  rw [decide_eq_true rfl] at E4
  simp only [qcV,tcV] at E1 E2
  have HB1:=hide b1
  clear hq hw hh ht hn gq gw gh gt gn b1
  go_enter Tryz.func66,Tryz.ntmps66
  have x0:=k1.cell 0
  have y0:=m1.cell 0
  have x1:=k1.cell 1
  have y1:=m1.cell 1
  have x2:=k1.cell 2
  have y2:=m1.cell 2
  have x3:=k1.cell 3
  have y3:=m1.cell 3
  have x4:=k1.cell 4
  have y4:=m1.cell 4
  have x5:=k1.cell 5
  have y5:=m1.cell 5
  have x6:=k1.cell 6
  have y6:=m1.cell 6
  simp only [List.getElem?_cons_zero,List.getElem?_cons_succ] at x0 y0 x1 y1 x2 y2 x3 y3 x4 y4 x5 y5 x6 y6
  go_wp2_with fail
  refine (E1.out _ HB1.out).mono ?_
  rintro e w2 ⟨rfl,hb2⟩
  have k2:=k1.below hb2 k1.lt
  have m2:=m1.below hb2 m1.lt
  have HB2:=hide (HB1.out.trans (hb2.mono HB1.out.size))
  clear k1 m1 hb2
  clear x0 y0 x1 y1 x2 y2 x3 y3 x4 y4 x5 y5 x6 y6 hw1
  have x7:=k2.cell 7
  have y7:=m2.cell 7
  have x8:=k2.cell 8
  have y8:=m2.cell 8
  have x9:=k2.cell 9
  have y9:=m2.cell 9
  simp only [List.getElem?_cons_zero,List.getElem?_cons_succ] at x7 y7 x8 y8 x9 y9
  go_wp2_with fail
  refine (E2.out _ HB2.out).mono ?_
  rintro e w3 ⟨rfl,hb3⟩
  have k3:=k2.below hb3 k2.lt
  have m3:=m2.below hb3 m2.lt
  have HB3:=hide (HB2.out.trans (hb3.mono HB2.out.size))
  clear k2 m2 hb3
  clear x7 y7 x8 y8 x9 y9
  have x10:=k3.cell 10
  have y10:=m3.cell 10
  simp only [List.getElem?_cons_zero,List.getElem?_cons_succ] at x10 y10
  go_wp2_with fail
  refine (E3.out _ HB3.out).mono ?_
  rintro e w4 ⟨rfl,hb4⟩
  have k4:=k3.below hb4 k3.lt
  have m4:=m3.below hb4 m3.lt
  have HB4:=hide (HB3.out.trans (hb4.mono HB3.out.size))
  clear k3 m3 hb4
  clear x10 y10
  have x11:=k4.cell 11
  have y11:=m4.cell 11
  have x12:=k4.cell 12
  have y12:=m4.cell 12
  simp only [List.getElem?_cons_zero,List.getElem?_cons_succ] at x11 y11 x12 y12
  go_wp2_with fail
  refine (E4.out _ HB4.out).mono ?_
  rintro e w5 ⟨rfl,hb5⟩
  have k5:=k4.below hb5 k4.lt
  have m5:=m4.below hb5 m4.lt
  have HB5:=hide (HB4.out.trans (hb5.mono HB4.out.size))
  clear k4 m4 hb5
  clear x11 y11 x12 y12
  have x13:=k5.cell 13
  have y13:=m5.cell 13
  simp only [List.getElem?_cons_zero,List.getElem?_cons_succ] at x13 y13
  go_wp2
  go_ret
  exact ⟨rfl,HB5.out⟩
theorem toBlockS_any (v:Value) (l:List Bk) (w:World) (hr:RdKs w v l) (hl:l.length<=4000000) (hall:∀ a ∈ l,FewK a) :
    Calls Tryz.prog 29 #[v] w fun e w'=>∃ v',e=.returned v'/\OwnKs w.heap.size w' v' l/\Below w.heap.size w w':=by
  obtain ⟨i0,hi,hz0,hz1,hz2⟩:=info_parts Tryz.infoBk
  rcases hr with ⟨a,cap,rfl,rfl,-⟩ | ⟨b,off,cap,h0,rfl,h1,h2,h3,h4⟩
  · go_enter Tryz.func29,Tryz.ntmps29
    go_wp2_with (refine wpList_make_full _ rfl _ _ 40 rfl w.heap.size 69 i0 (.agg #[.int .i64 0,.int .i64 0,.int .i64 0,.string { data:=#[] },.int .i64 0,.int .i64 0,.slice none 0 0,.int .i64 0,.slice none 0 0,.slice none 0 0,.slice none 0 0,.bool false,.slice none 0 0,.string { data:=#[] }]) 14 Tryz.underlying40 hi hz0 hz1 .i64 .i64 _ _ 0 rfl rfl rfl rfl (by omega) (by unfold maxLen;omega) (Nat.le_refl _) ?_;intro w1 hown hgrow)
    have hb1:Below w.heap.size w w1:=(Below.refl _ _).grown hgrow (Nat.le_refl _) (by intro k hk;cases hk)
    refine wp_loop_rounds 1 ?_
    rw [rounds_succ]
    go_wp2
    go_ret
    have ho':OwnKs w.heap.size w1 (.slice (some ⟨w.heap.size,0,none⟩) 0 0) []:=by
      have e:=made_flat (Value.agg #[.int .i64 0,.int .i64 0,.int .i64 0,.string { data:=#[] },.int .i64 0,.int .i64 0,.slice none 0 0,.int .i64 0,.slice none 0 0,.slice none 0 0,.slice none 0 0,.bool false,.slice none 0 0,.string { data:=#[] }]).cells 14 0 rfl (by omega)
      rw [e] at hown
      exact ⟨_,_,[],rfl,rfl,hown,Kvs.nil _ _ _⟩
    exact ⟨_,rfl,ho',hb1⟩
  · go_enter Tryz.func29,Tryz.ntmps29
    go_wp2_with (refine wpList_make_full _ rfl _ _ 40 rfl w.heap.size 69 i0 (.agg #[.int .i64 0,.int .i64 0,.int .i64 0,.string { data:=#[] },.int .i64 0,.int .i64 0,.slice none 0 0,.int .i64 0,.slice none 0 0,.slice none 0 0,.slice none 0 0,.bool false,.slice none 0 0,.string { data:=#[] }]) 14 Tryz.underlying40 hi hz0 hz1 .i64 .i64 _ _ l.length rfl rfl rfl rfl (by rw [hz2];omega) (by unfold maxLen;omega) (Nat.le_refl _) ?_;intro w1 hown hgrow)
    have hb1:Below w.heap.size w w1:=(Below.refl _ _).grown hgrow (Nat.le_refl _) (by intro k hk;cases hk)
    go_loopw [4] (fun i wr=>∃ (k:Nat) (Z:List (Bk × Bv)),k<=l.length/\i=.int .i64 k/\Z.map (·.1)=l.take k/\wr.ownsRow w.heap.size 69 14 (.slice (some ⟨w.heap.size,0,none⟩) l.length l.length) l.length (prt (Z.map bkP) bkZ l.length).flatten/\Kvs w.heap.size wr w.heap.size Z/\Below w.heap.size w wr)
      (fun i _=>l.length - (intOf i).toNat)
    case atStart =>
      refine ⟨0,[],Nat.zero_le _,rfl,rfl,?_,Kvs.nil _ _ _,hb1⟩
      rw [List.map_nil,prt_zero]
      have e:=made_flat (Value.agg #[.int .i64 0,.int .i64 0,.int .i64 0,.string { data:=#[] },.int .i64 0,.int .i64 0,.slice none 0 0,.int .i64 0,.slice none 0 0,.slice none 0 0,.slice none 0 0,.bool false,.slice none 0 0,.string { data:=#[] }]).cells 14 l.length rfl (by omega)
      rw [e] at hown
      exact hown
    case round =>
      obtain ⟨k,Z,hk,rfl,hZ,ho,hlv,hb⟩:=hrel
      clear hown hgrow hb1
      have hZl:(Z.map bkP).length=k:=by have:=congrArg List.length hZ;simp at this;simp;omega
      by_cases hlt:k < l.length
      · obtain ⟨lv,hat,hrl⟩:=h4 k hlt
        have hat:=hat.below hb h3
        obtain ⟨c0,c1,c2,c3,c4,c5,c6,c7,c8,c9,c10,c11,c12,c13⟩:=hat.cells
        have hli:(k:Int) < (l.length:Int):=by omega
        have psz:=prt_sz 14 (Z.map bkP) bkZ l.length (bkP_sz Z) rfl
        have plen:=prt_len (Z.map bkP) bkZ l.length (by omega)
        have Hg:Hid (∀ j,j < 14->(prt (Z.map bkP) bkZ l.length).flatten[k * 14+j]?=bkZ[j]?):=hide (fun j hj=>by
          rw [flat_get 14 _ k j (by rw [plen];exact hlt) psz hj,prt_at _ _ _ k hZl.symm hlt])
        have HT:=hide (toBlockD_any l[k] lv wr (hrl.below hb (Nat.le_refl _)) (hall l[k] (List.getElem_mem _)))
        have Hput:Hid (∀ lv':Bv,setAll (prt (Z.map bkP) bkZ l.length).flatten (k * 14) (bkC l[k] lv')=(prt ((Z ++ [(l[k],lv')]).map bkP) bkZ l.length).flatten):=hide (fun lv'=>by
          rw [setAll_flat 14 (bkC l[k] lv') _ k (by rw [plen];exact hlt) psz rfl,prt_next _ _ _ _ k hZl.symm hlt,List.map_append]
          rfl)
        have HZ2:Hid (∀ lv':Bv,(Z ++ [(l[k],lv')]).map (·.1)=l.take (k+1)):=hide (fun lv'=>by rw [List.map_append,hZ,List.take_succ_eq_append_getElem hlt];rfl)
        have Hsz:=hide psz
        have Hpl:=hide plen
        have Hlv:=hide hlv
        have hgl:w.heap.size < wr.heap.size:=(World.ownsRow.lt ho w.heap.size rfl).2
        have Hsh:=hide hrl.shapes9
        clear h4 hlv hrl hat psz plen hZl hZ hall Hg
        generalize l[k]=ak at c0 c1 c2 c3 c4 c5 c7 c11 c13 HT Hput HZ2 Hsh
        obtain ⟨aq,cq,aw,cw,ah,ch,at_,ct,an,cn,rfl⟩:=Hsh.out
        clear Hsh
        have Ho:=hide ho
        clear ho
        obtain ⟨id,ep,rd,md,qr,qb,qw,tr,tw,th,ts,en,nx,rt⟩:=ak
        simp only [bkV] at c0 c1 c2 c3 c4 c5 c6 c7 c8 c9 c10 c11 c12 c13 HT
        go_wp2_with fail
        refine HT.out.mono ?_
        rintro e w2 ⟨lv',rfl,ho',hin,hb2⟩
        rw [show (Value.agg #[.int .i64 id,.int .i64 ep,.int .i64 rd,.string md,.int .i64 qr,.int .i64 qb,lv'.q,.int .i64 tr,lv'.w,lv'.h,lv'.t,.bool en,lv'.n,.string rt])=.agg (bkC ⟨id,ep,rd,md,qr,qb,qw,tr,tw,th,ts,en,nx,rt⟩ lv').toArray from rfl]
        have ho2:=row_below Ho.out hb2 (Nat.le_refl _)
        have hstore:=store14 w2 w.heap.size (k * 14) (bkC ⟨id,ep,rd,md,qr,qb,qw,tr,tw,th,ts,en,nx,rt⟩ lv') rfl (row_there ho2 (by rw [flat_len 14 _ Hsz.out,Hpl.out];omega)) (bkC_one ho'.rd)
        have n1:¬ lv'.has w.heap.size:=fun hk=>by have:=(ho'.in9 _ hk).1;omega
        have HL:Hid (Kvs w.heap.size w2 w.heap.size (Z ++ [(⟨id,ep,rd,md,qr,qb,qw,tr,tw,th,ts,en,nx,rt⟩,lv')])):=hide ((Hlv.out.below hb2 (Nat.le_refl _)).snoc _ (ho'.mono9 hb.size) n1 hin (fun i hi k hk e=>by have:=(Hlv.out.own i hi).in9 k hk;have:=(ho'.in9 k e).1;omega))
        have HP:=hide (putC_grown w.heap.size (bkC ⟨id,ep,rd,md,qr,qb,qw,tr,tw,th,ts,en,nx,rt⟩ lv') w2 (k * 14))
        have HR:=hide (putC_row (bkC ⟨id,ep,rd,md,qr,qb,qw,tr,tw,th,ts,en,nx,rt⟩ lv') w2 (k * 14) _ ho2)
        rw [Hput.out] at HR
        have HF:=hide ((hb.trans (hb2.mono hb.size)).trans (putC_below (Nat.le_refl _) (bkC ⟨id,ep,rd,md,qr,qb,qw,tr,tw,th,ts,en,nx,rt⟩ lv') w2 (k * 14)))
        have HZ3:=hide (HZ2.out lv')
        have hA:(bkC ⟨id,ep,rd,md,qr,qb,qw,tr,tw,th,ts,en,nx,rt⟩ lv').toArray.size=14:=rfl
        clear ho2 hb2 ho' hin HT n1 c0 c1 c2 c3 c4 c5 c6 c7 c8 c9 c10 c11 c12 c13 Hlv Hput HZ2
        generalize hcs:bkC ⟨id,ep,rd,md,qr,qb,qw,tr,tw,th,ts,en,nx,rt⟩ lv'=cs at hstore HP HR HF hA ⊢
        clear hcs
        go_wp2
        go_roundw
        case rel=>exact ⟨k+1,_,by omega,by go_num,HZ3.out,HR.out,HL.out.grown HP.out,HF.out⟩
        case measure=>simp [intOf];omega
      · have e:k=l.length:=by omega
        subst e
        rw [prt_all _ _ _ hZl] at ho
        rw [List.take_length] at hZ
        go_wp2
        go_ret
        exact ⟨_,rfl,⟨_,_,Z,hZ,rfl,ho,hlv⟩,hb⟩
def TwoAt (w:World) (g1 o1 g2 o2:Nat) (b:Bk) (u v:Bv):Prop:=w.cell? ⟨g1,o1,none⟩=some (.int .i64 b.id)/\w.cell? ⟨g1,o1+1,none⟩=some (.int .i64 b.ep)/\w.cell? ⟨g1,o1+2,none⟩=some (.int .i64 b.rd)/\w.cell? ⟨g1,o1+3,none⟩=some (.string b.md)/\w.cell? ⟨g1,o1+4,none⟩=some (.int .i64 b.qr)/\w.cell? ⟨g1,o1+5,none⟩=some (.int .i64 b.qb)/\w.cell? ⟨g1,o1+6,none⟩=some (u.q)/\w.cell? ⟨g1,o1+7,none⟩=some (.int .i64 b.tr)/\w.cell? ⟨g1,o1+8,none⟩=some (u.w)/\w.cell? ⟨g1,o1+9,none⟩=some (u.h)/\w.cell? ⟨g1,o1+10,none⟩=some (u.t)/\w.cell? ⟨g1,o1+11,none⟩=some (.bool b.en)/\w.cell? ⟨g1,o1+12,none⟩=some (u.n)/\w.cell? ⟨g1,o1+13,none⟩=some (.string b.rt)/\w.cell? ⟨g2,o2,none⟩=some (.int .i64 b.id)/\w.cell? ⟨g2,o2+1,none⟩=some (.int .i64 b.ep)/\w.cell? ⟨g2,o2+2,none⟩=some (.int .i64 b.rd)/\w.cell? ⟨g2,o2+3,none⟩=some (.string b.md)/\w.cell? ⟨g2,o2+4,none⟩=some (.int .i64 b.qr)/\w.cell? ⟨g2,o2+5,none⟩=some (.int .i64 b.qb)/\w.cell? ⟨g2,o2+6,none⟩=some (v.q)/\w.cell? ⟨g2,o2+7,none⟩=some (.int .i64 b.tr)/\w.cell? ⟨g2,o2+8,none⟩=some (v.w)/\w.cell? ⟨g2,o2+9,none⟩=some (v.h)/\w.cell? ⟨g2,o2+10,none⟩=some (v.t)/\w.cell? ⟨g2,o2+11,none⟩=some (.bool b.en)/\w.cell? ⟨g2,o2+12,none⟩=some (v.n)/\w.cell? ⟨g2,o2+13,none⟩=some (.string b.rt)
theorem TwoAt.of {w:World} {g1 o1 g2 o2:Nat} {b:Bk} {u v:Bv} (h1:BkAt w g1 o1 b u) (h2:BkAt w g2 o2 b v):TwoAt w g1 o1 g2 o2 b u v :=
  ⟨h1 0 (by omega),h1 1 (by omega),h1 2 (by omega),h1 3 (by omega),h1 4 (by omega),h1 5 (by omega),h1 6 (by omega),h1 7 (by omega),h1 8 (by omega),h1 9 (by omega),h1 10 (by omega),h1 11 (by omega),h1 12 (by omega),h1 13 (by omega),h2 0 (by omega),h2 1 (by omega),h2 2 (by omega),h2 3 (by omega),h2 4 (by omega),h2 5 (by omega),h2 6 (by omega),h2 7 (by omega),h2 8 (by omega),h2 9 (by omega),h2 10 (by omega),h2 11 (by omega),h2 12 (by omega),h2 13 (by omega)⟩
theorem eqBlockS_any (v1 v2:Value) (l:List Bk) (w:World) (hr1:RdKs w v1 l) (hr2:RdKs w v2 l) (hl:l.length<=4000000) (ha:∀ b ∈ l,FewK b) :
    Calls Tryz.prog 37 #[v1,v2] w fun e w'=>e=.returned (.bool true)/\Below w.heap.size w w':=by
  have hlen:((l.length:Int) != (l.length:Int))=false:=by simp
  rcases hr1 with ⟨a,cap,rfl,rfl,-⟩ | ⟨b,off,cap,h0,rfl,h1,h2,h3,h4⟩
  · obtain ⟨a2,cap2,rfl⟩:=hr2.shape
    clear hr2
    go_enter Tryz.func37,Tryz.ntmps37
    go_wp2
    refine wp_loop_rounds 1 ?_
    rw [rounds_succ]
    go_wp2
    go_ret
    exact ⟨rfl,Below.refl _ _⟩
  · rcases hr2 with ⟨a2,cap2,rfl,rfl,-⟩ | ⟨b2,off2,cap2,g0,rfl,g1,g2,g3,g4⟩
    · exact absurd rfl h0
    · have H4:=hide h4
      have G4:=hide g4
      have A1:=hide ha
      clear h4 g4 ha h0 g0
      go_enter Tryz.func37,Tryz.ntmps37
      go_wp2
      go_loopw [5] (fun i wr=>∃ k:Nat,k<=l.length/\i=.int .i64 k/\Below w.heap.size w wr) (fun i _=>l.length - (intOf i).toNat)
      case atStart=>exact ⟨0,Nat.zero_le _,rfl,Below.refl _ _⟩
      case round =>
        obtain ⟨k,hk,rfl,hs⟩:=hrel
        by_cases hlt:k < l.length
        · obtain ⟨la,ca,ra⟩:=H4.out k hlt
          obtain ⟨lb,cb',rb⟩:=G4.out k hlt
          have hS1:=TwoAt.of (ca.below hs.drew h3) (cb'.below hs.drew g3)
          have hS3:Hid (∀ w2,Below wr.drew.heap.size wr.drew w2->TwoAt w2 b (off+k * 14) b2 (off2+k * 14) l[k] la lb):=hide (fun w2 hb2=>TwoAt.of ((ca.below hs.drew h3).below hb2 (by have:=hs.drew.size;omega)) ((cb'.below hs.drew g3).below hb2 (by have:=hs.drew.size;omega)))
          have hli:(k:Int) < (l.length:Int):=by omega
          have HE:=hide (eqBlock_any l[k] la lb wr.drew (ra.below hs.drew (Nat.le_refl _)) (rb.below hs.drew (Nat.le_refl _)) (A1.out _ (List.getElem_mem _)))
          have Sa:=hide ra.shapes9
          have Sb:=hide rb.shapes9
          clear ra rb ca cb'
          generalize hp:l[k]=p at hS1 hS3 HE Sa Sb
          clear hp
          obtain ⟨aq,cq,aw,cw,ah,ch,at_,ct,an,cn,rfl⟩:=Sa.out
          obtain ⟨eq_,dq,ew,dw,eh,dh,et,dt,en_,dn,rfl⟩:=Sb.out
          clear Sa Sb
          simp only [bkV,TwoAt] at HE hS1 hS3
          go_wp2
          go_region_held_law (fun w'=>w'.cell? ⟨b,off+k * 14,none⟩=some (.int .i64 p.id)/\w'.cell? ⟨b,off+k * 14+1,none⟩=some (.int .i64 p.ep)/\w'.cell? ⟨b,off+k * 14+2,none⟩=some (.int .i64 p.rd)/\w'.cell? ⟨b,off+k * 14+3,none⟩=some (.string p.md)/\w'.cell? ⟨b,off+k * 14+4,none⟩=some (.int .i64 p.qr)/\w'.cell? ⟨b,off+k * 14+5,none⟩=some (.int .i64 p.qb)/\w'.cell? ⟨b,off+k * 14+6,none⟩=some (.slice aq p.qw.length cq)/\w'.cell? ⟨b,off+k * 14+7,none⟩=some (.int .i64 p.tr)/\w'.cell? ⟨b,off+k * 14+8,none⟩=some (.slice aw p.tw.length cw)/\w'.cell? ⟨b,off+k * 14+9,none⟩=some (.slice ah p.th.length ch)/\w'.cell? ⟨b,off+k * 14+10,none⟩=some (.slice at_ p.ts.length ct)/\w'.cell? ⟨b,off+k * 14+11,none⟩=some (.bool p.en)/\w'.cell? ⟨b,off+k * 14+12,none⟩=some (.slice an p.nx.length cn)/\w'.cell? ⟨b,off+k * 14+13,none⟩=some (.string p.rt)/\w'.cell? ⟨b2,off2+k * 14,none⟩=some (.int .i64 p.id)/\w'.cell? ⟨b2,off2+k * 14+1,none⟩=some (.int .i64 p.ep)/\w'.cell? ⟨b2,off2+k * 14+2,none⟩=some (.int .i64 p.rd)/\w'.cell? ⟨b2,off2+k * 14+3,none⟩=some (.string p.md)/\w'.cell? ⟨b2,off2+k * 14+4,none⟩=some (.int .i64 p.qr)/\w'.cell? ⟨b2,off2+k * 14+5,none⟩=some (.int .i64 p.qb)/\w'.cell? ⟨b2,off2+k * 14+6,none⟩=some (.slice eq_ p.qw.length dq)/\w'.cell? ⟨b2,off2+k * 14+7,none⟩=some (.int .i64 p.tr)/\w'.cell? ⟨b2,off2+k * 14+8,none⟩=some (.slice ew p.tw.length dw)/\w'.cell? ⟨b2,off2+k * 14+9,none⟩=some (.slice eh p.th.length dh)/\w'.cell? ⟨b2,off2+k * 14+10,none⟩=some (.slice et p.ts.length dt)/\w'.cell? ⟨b2,off2+k * 14+11,none⟩=some (.bool p.en)/\w'.cell? ⟨b2,off2+k * 14+12,none⟩=some (.slice en_ p.nx.length dn)/\w'.cell? ⟨b2,off2+k * 14+13,none⟩=some (.string p.rt)) (first | exact hS1 | exact hS2) ((go_at_call 66;refine HE.out.mono ?_;rintro e w2 ⟨rfl,hb2⟩;have hS2:=hS3.out w2 hb2))
          go_wp2
          go_roundw
          case rel=>exact ⟨k+1,by omega,by go_num,hs.drew.trans (hb2.mono hs.size)⟩
          case measure=>simp [intOf];omega
        · go_wp2
          go_ret
          exact ⟨rfl,hs⟩
end Go.Proofs.YthehfkafcdociaaGreatDoor
