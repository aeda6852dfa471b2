/- Votes and leavings, held against each other; their size. -/
import Derived.Test.YtfdbedenlbikgaaZlAcMem
import Derived.Test.YtfdbedenlbikgaaZlBkOpen
import Derived.Test.YtfdbedenlbikgaaZlBkEq
set_option maxRecDepth 20000
set_option maxHeartbeats 4000000
namespace Go.Proofs.Ytfdbedenlbikgaa
open Go.RowKit
set_option linter.unusedVariables false
theorem szIntN_any (v:Value) (l:List Int) (m:Nat) (w:World) (hr:RdI w v l) (hm:m<=100000000) (hl:l.length<=9223372036854775807) :
    Calls Try.prog 54 #[v,.int .i64 (m:Int)] w fun e w'=>∃ r:Int,e=.returned (.int .i64 r)/\(0<=r->(l.length:Int)+r<=(m:Int))/\w'=w:=by
  obtain ⟨a,c,rfl⟩:=hr.shape
  clear hr
  have w1:IntKind.i64.wrap ((m:Int) - (l.length:Int))=(m:Int) - (l.length:Int):=by rw [IntKind.wrap_i64];omega
  by_cases h:(m:Int) - (l.length:Int) < 0
  · go_enter Try.func54,Try.ntmps54
    go_wp2
    go_ret
    exact ⟨_,rfl,fun h=>by omega,rfl⟩
  · go_enter Try.func54,Try.ntmps54
    go_wp2
    go_ret
    exact ⟨_,rfl,fun _=>by omega,rfl⟩
theorem szQcN_any (r b:Int) (vw:Value) (ws:List ByteArray) (m:Nat) (w:World) (hrw:RdS w vw ws) (hm:m<=100000000) (hlw:ws.length<=9223372036854775807) (hsw:∀ s ∈ ws,s.size<=9223372036854775807) :
    Calls Try.prog 50 #[qcV r b vw,.int .i64 (m:Int)] w fun en w'=>∃ q:Int,en=.returned (.int .i64 q)/\(0<=q->(ws.length:Int)+q<=(m:Int))/\Below w.heap.size w w':=by
  obtain ⟨a1,c1,rfl⟩:=hrw.shape
  simp only [qcV] at *
  obtain ⟨w1,hw1⟩:∃ w1,w.alloc (.cells #[.int .i64 r,.int .i64 b,.slice a1 ws.length c1] 81)=w1:=⟨_,rfl⟩
  have hb1:Below w.heap.size w w1:=by rw [<- hw1];exact (Below.refl _ w).alloc (Nat.le_refl _) _
  have kA:Blk w1 w.heap.size 81 [.int .i64 r,.int .i64 b,.slice a1 ws.length c1]:=by rw [<- hw1];exact Blk.new w _ _
  have HZ:=hide (szStringS_any _ ws m w1 (hrw.below hb1 (Nat.le_refl _)) hm hlw hsw)
  have Hok:Hid (0<=szR ws m->(ws.length:Int)+szR ws m<=(m:Int)):=hide (fun h=>by unfold szR at h ⊢;split at h <;> rename_i h' <;> first | (rw [if_pos h'];omega) | omega)
  have x2:=kA.cell 2
  simp only [List.getElem?_cons_zero,List.getElem?_cons_succ] at x2
  generalize szR ws m=z at HZ Hok
  clear hrw hsw
  by_cases hz:z < 0
  · clear Hok
    go_enter Try.func50,Try.ntmps50
    go_wp2_with fail
    refine HZ.out.mono ?_
    rintro en w2 ⟨rfl,hw2⟩
    subst hw2
    go_wp2
    go_ret
    exact ⟨_,rfl,fun h=>by omega,hb1⟩
  · go_enter Try.func50,Try.ntmps50
    go_wp2_with fail
    refine HZ.out.mono ?_
    rintro en w2 ⟨rfl,hw2⟩
    subst hw2
    go_wp2
    go_ret
    exact ⟨_,rfl,Hok.out,hb1⟩
theorem szTcN_any (r:Int) (vw vh:Value) (ws:List ByteArray) (hs:List Int) (m:Nat) (w:World) (hrw:RdS w vw ws) (hrh:RdI w vh hs) (hm:m<=100000000) (hlw:ws.length<=9223372036854775807) (hsw:∀ s ∈ ws,s.size<=9223372036854775807) (hlh:hs.length<=9223372036854775807) :
    Calls Try.prog 51 #[tcV r vw vh,.int .i64 (m:Int)] w fun en w'=>∃ q:Int,en=.returned (.int .i64 q)/\(0<=q->(ws.length:Int)+hs.length+q<=(m:Int))/\Below w.heap.size w w':=by
  obtain ⟨a1,c1,rfl⟩:=hrw.shape
  obtain ⟨a2,c2,rfl⟩:=hrh.shape
  simp only [tcV] at *
  obtain ⟨w1,hw1⟩:∃ w1,w.alloc (.cells #[.int .i64 r,.slice a1 ws.length c1,.slice a2 hs.length c2] 82)=w1:=⟨_,rfl⟩
  have hb1:Below w.heap.size w w1:=by rw [<- hw1];exact (Below.refl _ w).alloc (Nat.le_refl _) _
  have kA:Blk w1 w.heap.size 82 [.int .i64 r,.slice a1 ws.length c1,.slice a2 hs.length c2]:=by rw [<- hw1];exact Blk.new w _ _
  have HZ:=hide (szStringS_any _ ws m w1 (hrw.below hb1 (Nat.le_refl _)) hm hlw hsw)
  have Hok:Hid (0<=szR ws m->szR ws m=((m - (ws.length+tot ws):Nat):Int)/\ws.length+tot ws<=m):=hide (fun h=>by unfold szR at h ⊢;split at h <;> rename_i h' <;> first | (rw [if_pos h'];omega) | omega)
  have Hh:=hide (fun (k:Nat) hk=>szIntN_any (.slice a2 hs.length c2) hs k w1 (hrh.below hb1 (Nat.le_refl _)) hk hlh)
  have x1:=kA.cell 1
  have x2:=kA.cell 2
  simp only [List.getElem?_cons_zero,List.getElem?_cons_succ] at x1 x2
  generalize szR ws m=z at HZ Hok
  clear hrw hrh hsw
  by_cases hz:z < 0
  · clear Hok Hh
    go_enter Try.func51,Try.ntmps51
    go_wp2_with fail
    refine HZ.out.mono ?_
    rintro en w2 ⟨rfl,hw2⟩
    subst hw2
    go_wp2
    go_ret
    exact ⟨_,rfl,fun h=>by omega,hb1⟩
  · obtain ⟨hz1,hz2⟩:=Hok.out (by omega)
    obtain ⟨k,hk⟩:∃ k,m - (ws.length+tot ws)=k:=⟨_,rfl⟩
    rw [hk] at hz1
    subst hz1
    have hkm:ws.length+tot ws+k=m:=by omega
    have Hkm:=hide hkm
    have Hk:=hide (Hh.out k (by omega))
    clear Hok Hh hk hkm hz2
    go_enter Try.func51,Try.ntmps51
    go_wp2_with fail
    refine HZ.out.mono ?_
    rintro en w2 ⟨rfl,hw2⟩
    obtain rfl:w2=w1:=hw2
    go_wp2_with fail
    refine Hk.out.mono ?_
    rintro en w3 ⟨q,rfl,hq,hw3⟩
    obtain rfl:w3=w2:=hw3
    by_cases hq0:q < 0
    · clear hq
      go_wp2
      go_ret
      exact ⟨_,rfl,fun h=>by omega,hb1⟩
    · have Hq:=hide (hq (by omega))
      clear hq
      go_wp2
      go_ret
      exact ⟨_,rfl,fun _=>by have:=Hq.out;have:=Hkm.out;omega,hb1⟩
theorem szTxN_any (v:Value) (l:List Tx5) (m:Nat) (w:World) (hr:RdT w v l) (hm:m<=100000000) (hl:l.length<=9223372036854775807) (hs:∀ t ∈ l,t.2.1.size<=9223372036854775807/\t.2.2.1.size<=9223372036854775807) :
    Calls Try.prog 55 #[v,.int .i64 (m:Int)] w fun e w'=>∃ r:Int,e=.returned (.int .i64 r)/\(0<=r->(l.length:Int)+r<=(m:Int))/\Below w.heap.size w w':=by
  by_cases hn:m < l.length
  · obtain ⟨a,cap,rfl⟩:=hr.shape
    clear hr hs
    go_enter Try.func55,Try.ntmps55
    go_wp2
    go_ret
    exact ⟨_,rfl,fun h=>by omega,Below.refl _ _⟩
  · rcases hr with ⟨a,cap,rfl,rfl,-⟩ | ⟨b,off,cap,h0,rfl,h1,h2,h3,h4⟩
    · go_enter Try.func55,Try.ntmps55
      go_wp2
      refine wp_loop_rounds 1 ?_
      rw [rounds_succ]
      go_wp2
      go_ret
      exact ⟨_,rfl,fun _=>by simp,Below.refl _ _⟩
    · have Hs:=hide hs
      have H4:=hide h4
      clear hs h4
      go_enter Try.func55,Try.ntmps55
      go_wp2
      go_loopw [1,5] (fun mv iv wr=>∃ k r:Nat,k<=l.length/\iv=.int .i64 (k:Int)/\mv=.int .i64 (r:Int)/\l.length+totT (l.take k)+r=m/\Below w.heap.size w wr) (fun _ iv _=>l.length - (intOf iv).toNat)
      case atStart=>exact ⟨0,m - l.length,Nat.zero_le _,rfl,by go_num,by simp [totT];omega,Below.refl _ _⟩
      case round =>
        obtain ⟨k,r,hk,rfl,rfl,hrem,hb⟩:=hrel
        have Hrem:=hide hrem
        have hrm:r<=m:=by omega
        clear hrem
        by_cases hlt:k < l.length
        · obtain ⟨c0,c1,c2,c3,c4⟩:=(H4.out k hlt).below hb h3
          have hsz:=Hs.out l[k] (List.getElem_mem hlt)
          have Hsn:=hide (totT_snoc l k hlt)
          have HZ:=hide (szTx_any l[k] (r:Int) wr (by omega) (by omega) hsz.1 hsz.2)
          have hli:(k:Int) < (l.length:Int):=by omega
          by_cases hfit:wgT l[k]<=r
          · rw [szT_fit _ _ hfit] at HZ
            obtain ⟨q,hq⟩:∃ q,r - wgT l[k]=q:=⟨_,rfl⟩
            have Hq:Hid (wgT l[k]+q=r):=hide (by omega)
            rw [hq] at HZ
            clear hfit hsz hq
            generalize l[k]=ak at c0 c1 c2 c3 c4 HZ Hsn Hq
            obtain ⟨kd,fr,tO,am,no⟩:=ak
            simp only [txV] at c0 c1 c2 c3 c4 HZ
            go_wp2_with (go_at_call 83;refine HZ.out.mono ?_;rintro e w2 ⟨rfl,hb2⟩)
            go_roundw
            case rel=>exact ⟨k+1,q,by omega,by go_num,rfl,by rw [Hsn.out];have:=Hrem.out;have:=Hq.out;omega,hb.trans (hb2.mono hb.size)⟩
            case measure=>simp [intOf];omega
          · rw [szT_not _ _ hfit] at HZ
            clear hfit hsz
            generalize l[k]=ak at c0 c1 c2 c3 c4 HZ Hsn
            obtain ⟨kd,fr,tO,am,no⟩:=ak
            simp only [txV] at c0 c1 c2 c3 c4 HZ
            go_wp2_with (go_at_call 83;refine HZ.out.mono ?_;rintro e w2 ⟨rfl,hb2⟩)
            go_ret
            exact ⟨_,rfl,fun h=>by omega,hb.trans (hb2.mono hb.size)⟩
        · have hf:Hid ((l.length:Int)+(r:Int)<=(m:Int)):=hide (by have:=Hrem.out;omega)
          go_wp2
          go_ret
          exact ⟨_,rfl,fun _=>hf.out,hb⟩
theorem szValN_any (v:Value) (l:List Vl) (m:Nat) (w:World) (hr:RdV w v l) (hm:m<=100000000) (hl:l.length<=9223372036854775807) (hs:∀ a ∈ l,a.1.size<=9223372036854775807) :
    Calls Try.prog 49 #[v,.int .i64 (m:Int)] w fun e w'=>∃ r:Int,e=.returned (.int .i64 r)/\(0<=r->(l.length:Int)+r<=(m:Int))/\Below w.heap.size w w':=by
  by_cases hn:m < l.length
  · obtain ⟨a,cap,rfl⟩:=hr.shape
    clear hr hs
    go_enter Try.func49,Try.ntmps49
    go_wp2
    go_ret
    exact ⟨_,rfl,fun h=>by omega,Below.refl _ _⟩
  · rcases hr with ⟨a,cap,rfl,rfl,-⟩ | ⟨b,off,cap,h0,rfl,h1,h2,h3,h4⟩
    · go_enter Try.func49,Try.ntmps49
      go_wp2
      refine wp_loop_rounds 1 ?_
      rw [rounds_succ]
      go_wp2
      go_ret
      exact ⟨_,rfl,fun _=>by simp,Below.refl _ _⟩
    · have Hs:=hide hs
      have H4:=hide h4
      clear hs h4
      go_enter Try.func49,Try.ntmps49
      go_wp2
      go_loopw [1,5] (fun mv iv wr=>∃ k r:Nat,k<=l.length/\iv=.int .i64 (k:Int)/\mv=.int .i64 (r:Int)/\l.length+totV (l.take k)+r=m/\Below w.heap.size w wr) (fun _ iv _=>l.length - (intOf iv).toNat)
      case atStart=>exact ⟨0,m - l.length,Nat.zero_le _,rfl,by go_num,by simp [totV];omega,Below.refl _ _⟩
      case round =>
        obtain ⟨k,r,hk,rfl,rfl,hrem,hb⟩:=hrel
        have Hrem:=hide hrem
        have hrm:r<=m:=by omega
        clear hrem
        by_cases hlt:k < l.length
        · obtain ⟨d0,d1⟩:=H4.out k hlt
          have c0:=(hb.cell (p:=⟨b,off+k * 2,none⟩) h3).trans d0
          have c1:=(hb.cell (p:=⟨b,off+k * 2+1,none⟩) h3).trans d1
          have hsz:=Hs.out l[k] (List.getElem_mem hlt)
          have Hsn:=hide (totV_snoc l k hlt)
          have hli:(k:Int) < (l.length:Int):=by omega
          clear d0 d1
          by_cases hfit:l[k].1.size<=r
          · have HZ:=hide (szVal_fit l[k] r wr hfit (by omega))
            obtain ⟨q,hq⟩:∃ q,r - l[k].1.size=q:=⟨_,rfl⟩
            have Hq:Hid (l[k].1.size+q=r):=hide (by omega)
            rw [hq] at HZ
            clear hfit hsz hq
            generalize l[k]=ak at c0 c1 HZ Hsn Hq
            obtain ⟨nm,wt⟩:=ak
            simp only at c0 c1 HZ
            go_wp2_with (go_at_call 82;refine HZ.out.mono ?_;rintro e w2 ⟨rfl,hb2⟩)
            go_roundw
            case rel=>exact ⟨k+1,q,by omega,by go_num,rfl,by rw [Hsn.out];have:=Hrem.out;have:=Hq.out;omega,hb.trans (hb2.mono hb.size)⟩
            case measure=>simp [intOf];omega
          · have HZ:=hide (szVal_not l[k] r wr hfit (by omega) hsz)
            clear hfit hsz
            generalize l[k]=ak at c0 c1 HZ Hsn
            obtain ⟨nm,wt⟩:=ak
            simp only at c0 c1 HZ
            go_wp2_with (go_at_call 82;refine HZ.out.mono ?_;rintro e w2 ⟨rfl,hb2⟩)
            go_ret
            exact ⟨_,rfl,fun h=>by omega,hb.trans (hb2.mono hb.size)⟩
        · have hf:Hid ((l.length:Int)+(r:Int)<=(m:Int)):=hide (by have:=Hrem.out;omega)
          go_wp2
          go_ret
          exact ⟨_,rfl,fun _=>hf.out,hb⟩
theorem szBlockN_any (b:Bk) (v:Bv) (m:Nat) (w:World) (hr:RdK w b v) (hm:m<=100000000) (l1:b.qw.length<=maxLen) (l2:b.tw.length<=maxLen) (l3:b.th.length<=maxLen) (l4:b.ts.length<=maxLen) (l5:b.nx.length<=maxLen) (s1:∀ s ∈ b.qw,s.size<=maxLen) (s2:∀ s ∈ b.tw,s.size<=maxLen) (s3:∀ t ∈ b.ts,t.2.1.size<=maxLen/\t.2.2.1.size<=maxLen) (s4:∀ p ∈ b.nx,p.1.size<=maxLen) (s5:b.md.size<=maxLen) (s6:b.rt.size<=maxLen) :
    Calls Try.prog 35 #[bkV b v,.int .i64 (m:Int)] w fun e w'=>∃ q:Int,e=.returned (.int .i64 q)/\(0<=q->(b.qw.length:Int)+b.tw.length+b.th.length+b.ts.length+b.nx.length+q<=(m:Int))/\Below w.heap.size w w':=by
  have em:maxLen<=9223372036854775807:=by unfold maxLen;omega
  obtain ⟨id,ep,rd,mk,qr,qb,qw,tr,tw,th,ts,en,nx,rt⟩:=b
  obtain ⟨vq,vw,vh,vt,vn⟩:=v
  obtain ⟨hq,hw,hh,ht,hn⟩:=hr
  simp only at *
  obtain ⟨aq,cq,rfl⟩:=hq.shape
  obtain ⟨aw,cw,rfl⟩:=hw.shape
  obtain ⟨ah,ch,rfl⟩:=hh.shape
  obtain ⟨at_,ct,rfl⟩:=ht.shape
  obtain ⟨an,cn,rfl⟩:=hn.shape
  have E1:=hide (fun (k:Nat) (hk:k<=100000000) V (hV:Below w.heap.size w V)=>szQcN_any qr qb (.slice aq qw.length cq) qw k V (hq.below hV (Nat.le_refl _)) hk (Nat.le_trans l1 em) (fun s hs=>Nat.le_trans (s1 s hs) em))
  have E2:=hide (fun (k:Nat) (hk:k<=100000000) V (hV:Below w.heap.size w V)=>szTcN_any tr (.slice aw tw.length cw) (.slice ah th.length ch) tw th k V (hw.below hV (Nat.le_refl _)) (hh.below hV (Nat.le_refl _)) hk (Nat.le_trans l2 em) (fun s hs=>Nat.le_trans (s2 s hs) em) (Nat.le_trans l3 em))
  have E3:=hide (fun (k:Nat) (hk:k<=100000000) V (hV:Below w.heap.size w V)=>szTxN_any (.slice at_ ts.length ct) ts k V (ht.below hV (Nat.le_refl _)) hk (Nat.le_trans l4 em) (fun t hs=>⟨Nat.le_trans (s3 t hs).1 em,Nat.le_trans (s3 t hs).2 em⟩))
  have E4:=hide (fun (k:Nat) (hk:k<=100000000) V (hV:Below w.heap.size w V)=>szValN_any (.slice an nx.length cn) nx k V (hn.below hV (Nat.le_refl _)) hk (Nat.le_trans l5 em) (fun p hs=>Nat.le_trans (s4 p hs) em))
  have s5':mk.size<=9223372036854775807:=Nat.le_trans s5 em
  have s6':rt.size<=9223372036854775807:=Nat.le_trans s6 em
  simp only [bkV,qcV,tcV] at *
  clear hq hw hh ht hn l1 l2 l3 l4 l5 s1 s2 s3 s4 s5 s6 em
  obtain ⟨w1,hw1⟩:∃ x,w.alloc (.cells #[.int .i64 id,.int .i64 ep,.int .i64 rd,.string mk,.int .i64 qr,.int .i64 qb,.slice aq qw.length cq,.int .i64 tr,.slice aw tw.length cw,.slice ah th.length ch,.slice at_ ts.length ct,.bool en,.slice an nx.length cn,.string rt] 91)=x:=⟨_,rfl⟩
  have b1:Below w.heap.size w w1:=by rw [<- hw1];exact (Below.refl _ w).alloc (Nat.le_refl _) _
  have k1:Blk w1 w.heap.size 91 [.int .i64 id,.int .i64 ep,.int .i64 rd,.string mk,.int .i64 qr,.int .i64 qb,.slice aq qw.length cq,.int .i64 tr,.slice aw tw.length cw,.slice ah th.length ch,.slice at_ ts.length ct,.bool en,.slice an nx.length cn,.string rt]:=by rw [<- hw1];exact Blk.new w _ _
  have x3:=k1.cell 3
  have x4:=k1.cell 4
  have x5:=k1.cell 5
  have x6:=k1.cell 6
  simp only [List.getElem?_cons_zero,List.getElem?_cons_succ] at x3 x4 x5 x6
  go_enter Try.func35,Try.ntmps35
  by_cases hz:m < mk.size
  · have hzi:(m:Int) - (mk.size:Int) < 0:=by omega
    have hwz:IntKind.i64.wrap ((m:Int) - (mk.size:Int))=(m:Int) - (mk.size:Int):=by rw [IntKind.wrap_i64];omega
    clear hz
    go_wp2
    go_ret
    exact ⟨_,rfl,fun h=>by omega,b1⟩
  obtain ⟨m1,hm1⟩:∃ k,m - mk.size=k:=⟨_,rfl⟩
  have hwz:IntKind.i64.wrap ((m:Int) - (mk.size:Int))=(m1:Int):=by rw [IntKind.wrap_i64];omega
  have hm1':m1<=m:=by omega
  have hnn:¬ (m1:Int) < 0:=by omega
  clear hz hm1
  go_wp2_with fail
  refine (E1.out m1 (by omega) _ b1).mono ?_
  rintro e w2 ⟨q1,rfl,f1,hb2⟩
  have k2:=k1.below hb2 k1.lt
  have b2:=b1.trans (hb2.mono b1.size)
  clear x3 x4 x5 x6 hw1 hwz k1 b1 hb2
  by_cases zq1:q1 < 0
  · go_wp2
    go_ret
    exact ⟨_,rfl,fun h=>by omega,b2⟩
  obtain ⟨m2,em2⟩:∃ k:Nat,q1=(k:Int):=⟨q1.toNat,by omega⟩
  subst em2
  have Ff1:=hide (f1 (by omega))
  clear f1
  have hm2:m2<=100000000:=by have:=Ff1.out;omega
  have x7:=k2.cell 7
  have x8:=k2.cell 8
  have x9:=k2.cell 9
  simp only [List.getElem?_cons_zero,List.getElem?_cons_succ] at x7 x8 x9
  go_wp2_with fail
  refine (E2.out m2 hm2 _ b2).mono ?_
  rintro e w3 ⟨q2,rfl,f2,hb3⟩
  have k3:=k2.below hb3 k2.lt
  have b3:=b2.trans (hb3.mono b2.size)
  clear x7 x8 x9 k2 b2 hb3
  by_cases zq2:q2 < 0
  · go_wp2
    go_ret
    exact ⟨_,rfl,fun h=>by omega,b3⟩
  obtain ⟨m3,em3⟩:∃ k:Nat,q2=(k:Int):=⟨q2.toNat,by omega⟩
  subst em3
  have Ff2:=hide (f2 (by omega))
  clear f2
  have hm3:m3<=100000000:=by have:=Ff2.out;omega
  have x10:=k3.cell 10
  simp only [List.getElem?_cons_zero,List.getElem?_cons_succ] at x10
  go_wp2_with fail
  refine (E3.out m3 hm3 _ b3).mono ?_
  rintro e w4 ⟨q3,rfl,f3,hb4⟩
  have k4:=k3.below hb4 k3.lt
  have b4:=b3.trans (hb4.mono b3.size)
  clear x10 k3 b3 hb4
  by_cases zq3:q3 < 0
  · go_wp2
    go_ret
    exact ⟨_,rfl,fun h=>by omega,b4⟩
  obtain ⟨m4,em4⟩:∃ k:Nat,q3=(k:Int):=⟨q3.toNat,by omega⟩
  subst em4
  have Ff3:=hide (f3 (by omega))
  clear f3
  have hm4:m4<=100000000:=by have:=Ff3.out;omega
  have x12:=k4.cell 12
  simp only [List.getElem?_cons_zero,List.getElem?_cons_succ] at x12
  go_wp2_with fail
  refine (E4.out m4 hm4 _ b4).mono ?_
  rintro e w5 ⟨q4,rfl,f4,hb5⟩
  have k5:=k4.below hb5 k4.lt
  have b5:=b4.trans (hb5.mono b4.size)
  have x13:=k5.cell 13
  simp only [List.getElem?_cons_zero,List.getElem?_cons_succ] at x13
  clear x12 k4 b4 hb5 k5
  by_cases zq4:q4 < 0
  · go_wp2
    go_ret
    exact ⟨_,rfl,fun h=>by omega,b5⟩
  obtain ⟨m5,em5⟩:∃ k:Nat,q4=(k:Int):=⟨q4.toNat,by omega⟩
  subst em5
  have Ff4:=hide (f4 (by omega))
  clear f4
  have hfin:Hid ((qw.length:Int)+tw.length+th.length+ts.length+nx.length+((m5:Int) - (rt.size:Int))<=(m:Int)):=hide (by
    have h1:=Ff1.out
    have h2:=Ff2.out
    have h3:=Ff3.out
    have h4:=Ff4.out
    omega)
  have hm5:m5<=100000000:=by have:=Ff4.out;omega
  have hw5:IntKind.i64.wrap ((m5:Int) - (rt.size:Int))=(m5:Int) - (rt.size:Int):=by rw [IntKind.wrap_i64];omega
  by_cases h9:(m5:Int) - (rt.size:Int) < 0
  · go_wp2
    go_ret
    exact ⟨_,rfl,fun h=>by omega,b5⟩
  · go_wp2
    go_ret
    exact ⟨_,rfl,fun _=>hfin.out,b5⟩
def wgK (b:Bk):Nat:=b.qw.length+b.tw.length+b.th.length+b.ts.length+b.nx.length
def totK (l:List Bk):Nat:=(l.map wgK).sum
theorem totK_snoc (l:List Bk) (k:Nat) (h:k < l.length):totK (l.take (k+1))=totK (l.take k)+wgK l[k]:=by
  unfold totK
  rw [List.take_succ_eq_append_getElem h,List.map_append,List.sum_append]
  simp only [List.map_cons,List.map_nil,List.sum_cons,List.sum_nil,Nat.add_zero]
theorem totK_at:∀ (l:List Bk) (b:Bk),b ∈ l->wgK b<=totK l
  | [],a,h=>by simp at h
  | b :: l,a,h=>by
    have e:totK (b :: l)=wgK b+totK l:=by simp [totK]
    rw [e]
    rcases List.mem_cons.1 h with rfl | h
    · omega
    · have:=totK_at l a h;omega
theorem szBlockSN_any (v:Value) (l:List Bk) (m:Nat) (w:World) (hr:RdKs w v l) (hm:m<=100000000) (hl:l.length<=maxLen) (hs:∀ b ∈ l,FitK b) :
    Calls Try.prog 15 #[v,.int .i64 (m:Int)] w fun e w'=>∃ r:Int,e=.returned (.int .i64 r)/\(0<=r->(l.length:Int)+totK l+r<=(m:Int))/\Below w.heap.size w w':=by
  have em:maxLen<=9223372036854775807:=by unfold maxLen;omega
  by_cases hn:m < l.length
  · obtain ⟨a,cap,rfl⟩:=hr.shape
    clear hr hs
    go_enter Try.func15,Try.ntmps15
    go_wp2
    go_ret
    exact ⟨_,rfl,fun h=>by omega,Below.refl _ _⟩
  · rcases hr with ⟨a,cap,rfl,rfl,-⟩ | ⟨b,off,cap,h0,rfl,h1,h2,h3,h4⟩
    · go_enter Try.func15,Try.ntmps15
      go_wp2
      refine wp_loop_rounds 1 ?_
      rw [rounds_succ]
      go_wp2
      go_ret
      exact ⟨_,rfl,fun _=>by simp [totK],Below.refl _ _⟩
    · have Hs := hide hs
      have H4:=hide h4
      clear hs h4 h0
      go_enter Try.func15,Try.ntmps15
      go_wp2
      go_loopw [1,5] (fun mv iv wr=>∃ k r:Nat,k<=l.length/\iv=.int .i64 (k:Int)/\mv=.int .i64 (r:Int)/\l.length+totK (l.take k)+r<=m/\Below w.heap.size w wr) (fun _ iv _=>l.length - (intOf iv).toNat)
      case atStart=>exact ⟨0,m - l.length,Nat.zero_le _,rfl,by go_num,by simp [totK];omega,Below.refl _ _⟩
      case round =>
        obtain ⟨k,r,hk,rfl,rfl,hrem,hb⟩:=hrel
        have Hrem:=hide hrem
        have hrm:r<=m:=by omega
        clear hrem
        by_cases hlt:k < l.length
        · obtain ⟨lv,hat,hrl⟩:=H4.out k hlt
          obtain ⟨c0,c1,c2,c3,c4,c5,c6,c7,c8,c9,c10,c11,c12,c13⟩:=(hat.below hb h3).cells
          have hf:=Hs.out l[k] (List.getElem_mem hlt)
          have HZ:=hide (szBlockN_any l[k] lv r wr (hrl.below hb (Nat.le_refl _)) (by omega) hf.q hf.w hf.h hf.t hf.n hf.qs hf.ws hf.ts hf.ns hf.ms hf.rs)
          have Hsn:=hide (totK_snoc l k hlt)
          have Hw:Hid (wgK l[k]=l[k].qw.length+l[k].tw.length+l[k].th.length+l[k].ts.length+l[k].nx.length):=hide rfl
          have Hsh:=hide hrl.shapes9
          have hli:(k:Int) < (l.length:Int):=by omega
          clear hf hrl hat
          generalize l[k]=ak at c0 c1 c2 c3 c4 c5 c6 c7 c8 c9 c10 c11 c12 c13 HZ Hsh Hsn Hw
          obtain ⟨aq,cq,aw,cw,ah,ch,at_,ct,an,cn,rfl⟩:=Hsh.out
          clear Hsh
          generalize wgK ak=W at Hsn Hw
          obtain ⟨id,ep,rd,md,qr,qb,qw,tr,tw,th,ts,en,nx,rt⟩:=ak
          simp only [bkV] at c0 c1 c2 c3 c4 c5 c6 c7 c8 c9 c10 c11 c12 c13 HZ Hw
          go_wp2_with fail
          refine HZ.out.mono ?_
          rintro e w2 ⟨q,rfl,hq,hb2⟩
          have HB2:=hide (hb.trans (hb2.mono hb.size))
          have Hq:=hide hq
          clear c0 c1 c2 c3 c4 c5 c6 c7 c8 c9 c10 c11 c12 c13 hq hb2
          by_cases hneg:q < 0
          · go_wp2
            go_ret
            exact ⟨_,rfl,fun h=>by omega,HB2.out⟩
          · obtain ⟨r2,hr2⟩:∃ r2:Nat,q=(r2:Int):=⟨q.toNat,by omega⟩
            subst hr2
            go_wp2
            go_roundw
            case rel =>
              have h9:=Hq.out (by omega)
              exact ⟨k+1,r2,by omega,by go_num,rfl,by rw [Hsn.out];have:=Hrem.out;have:=Hw.out;omega,HB2.out⟩
            case measure=>simp [intOf];omega
        · have hf:Hid ((l.length:Int)+totK l+(r:Int)<=(m:Int)):=hide (by
            have h:=Hrem.out
            rw [List.take_of_length_le (by omega)] at h
            omega)
          go_wp2
          go_ret
          exact ⟨_,rfl,fun _=>hf.out,hb⟩
theorem eqVote_any (p q:Tr) (w:World):Calls Try.prog 79 #[.agg #[.int .i64 p.1,.int .i64 p.2.1,.string p.2.2],.agg #[.int .i64 q.1,.int .i64 q.2.1,.string q.2.2]] w fun e w'=>e=.returned (.bool (decide (p=q)))/\Below w.heap.size w w':=by
  obtain ⟨a,b,c⟩:=p
  obtain ⟨d,f,g⟩:=q
  have hB:=hide (((Below.refl _ w).alloc (Nat.le_refl _) (.cells #[.int .i64 a,.int .i64 b,.string c] 109)).alloc (by simp) (.cells #[.int .i64 d,.int .i64 f,.string g] 109))
  by_cases h1:a=d
  · subst h1
    by_cases h2:b=f
    · subst h2
      by_cases h3:c=g
      · subst h3
        go_enter Try.func79,Try.ntmps79
        go_wp2
        go_ret
        exact ⟨by simp,hB.out⟩
      · have Hd:Hid (decide ((a,b,c)=(a,b,g))=false):=hide (by rw [decide_eq_false];intro e;injection e with _ e;injection e with _ e;exact h3 e)
        have hq:=bytes_ne h3
        clear h3
        go_enter Try.func79,Try.ntmps79
        go_wp2
        go_ret
        exact ⟨ret_bool Hd.out.symm,hB.out⟩
    · have Hd:Hid (decide ((a,b,c)=(a,f,g))=false):=hide (by rw [decide_eq_false];intro e;injection e with _ e;injection e with e _;exact h2 e)
      have hq:(b != f)=true:=by rw [bne_iff_ne];exact h2
      clear h2
      go_enter Try.func79,Try.ntmps79
      go_wp2
      go_ret
      exact ⟨ret_bool Hd.out.symm,hB.out⟩
  · have Hd:Hid (decide ((a,b,c)=(d,f,g))=false):=hide (by rw [decide_eq_false];intro e;injection e with e _;exact h1 e)
    have hq:(a != d)=true:=by rw [bne_iff_ne];exact h1
    clear h1
    go_enter Try.func79,Try.ntmps79
    go_wp2
    go_ret
    exact ⟨ret_bool Hd.out.symm,hB.out⟩
theorem eqVoteS_any (v1 v2:Value) (l1 l2:List Tr) (w:World) (hr1:RdR w v1 l1) (hr2:RdR w v2 l2) (hl1:l1.length<=4000000) (hl2:l2.length<=4000000) :
    Calls Try.prog 74 #[v1,v2] w fun e w'=>e=.returned (.bool (decide (l1=l2)))/\Below w.heap.size w w':=by
  by_cases hne:l1.length=l2.length
  · rcases hr1 with ⟨a,cap,rfl,rfl,-⟩ | ⟨b,off,cap,h0,rfl,h1,h2,h3,h4⟩
    · have e2:l2=[]:=List.length_eq_zero_iff.1 (by simpa using hne.symm)
      subst e2
      obtain ⟨a2,cap2,rfl⟩:=hr2.shape
      clear hr2
      go_enter Try.func74,Try.ntmps74
      go_wp2
      refine wp_loop_rounds 1 ?_
      rw [rounds_succ]
      go_wp2
      go_ret
      exact ⟨rfl,Below.refl _ _⟩
    · rcases hr2 with ⟨a2,cap2,rfl,rfl,-⟩ | ⟨b2,off2,cap2,g0,rfl,g1,g2,g3,g4⟩
      · exact absurd (List.length_eq_zero_iff.1 (by simpa using hne)) h0
      · have Hne:=hide hne
        have hlen:((l1.length:Int) != (l2.length:Int))=false:=by rw [hne];simp
        have hle:l1.length<=l2.length:=by omega
        have hge:l2.length<=l1.length:=by omega
        have H4:=hide h4
        have G4:=hide g4
        clear hne h4 g4
        go_enter Try.func74,Try.ntmps74
        go_wp2
        go_loopw [5] (fun i wr=>∃ k:Nat,k<=l1.length/\i=.int .i64 k/\l1.take k=l2.take k/\Below w.heap.size w wr) (fun i _=>l1.length - (intOf i).toNat)
        case atStart=>exact ⟨0,Nat.zero_le _,rfl,rfl,Below.refl _ _⟩
        case round =>
          obtain ⟨k,hk,rfl,ht,hs⟩:=hrel
          have Ht:=hide ht
          clear ht
          by_cases hlt:k < l1.length
          · have hlt2:k < l2.length:=by omega
            obtain ⟨d0,d1,d2⟩:=H4.out k hlt
            obtain ⟨e0,e1,e2⟩:=G4.out k hlt2
            have hc0:wr.drew.cell? ⟨b,off+k * 3,none⟩=some (.int .i64 l1[k].1):=(hs.cell (p:=⟨b,off+k * 3,none⟩) h3).trans d0
            have hd0:wr.drew.cell? ⟨b2,off2+k * 3,none⟩=some (.int .i64 l2[k].1):=(hs.cell (p:=⟨b2,off2+k * 3,none⟩) g3).trans e0
            have hc1:wr.drew.cell? ⟨b,off+k * 3+1,none⟩=some (.int .i64 l1[k].2.1):=(hs.cell (p:=⟨b,off+k * 3+1,none⟩) h3).trans d1
            have hd1:wr.drew.cell? ⟨b2,off2+k * 3+1,none⟩=some (.int .i64 l2[k].2.1):=(hs.cell (p:=⟨b2,off2+k * 3+1,none⟩) g3).trans e1
            have hc2:wr.drew.cell? ⟨b,off+k * 3+2,none⟩=some (.string l1[k].2.2):=(hs.cell (p:=⟨b,off+k * 3+2,none⟩) h3).trans d2
            have hd2:wr.drew.cell? ⟨b2,off2+k * 3+2,none⟩=some (.string l2[k].2.2):=(hs.cell (p:=⟨b2,off2+k * 3+2,none⟩) g3).trans e2
            have hli:(k:Int) < (l1.length:Int):=by omega
            have hli2:(k:Int) < (l2.length:Int):=by omega
            have HE:=hide (eqVote_any l1[k] l2[k] wr.drew)
            have Hnx:Hid (l1[k]=l2[k]->l1.take (k+1)=l2.take (k+1)):=hide (fun he=>take_eq_snoc hlt hlt2 Ht.out he)
            have Hno:Hid (l1[k] ≠ l2[k]->decide (l1=l2)=false):=hide (fun he=>by rw [decide_eq_false];intro e;subst e;exact he rfl)
            clear d0 d1 d2 e0 e1 e2
            generalize hp:l1[k]=p at hc0 hc1 hc2 HE Hnx Hno
            generalize hq:l2[k]=q at hd0 hd1 hd2 HE Hnx Hno
            clear hp hq
            by_cases he:p=q
            · rw [decide_eq_true he] at HE
              have Hnx:=hide (Hnx.out he)
              clear he Hno
              go_wp2
              go_region_held_law (fun w'=>w'.cell? ⟨b,off+k * 3,none⟩=some (.int .i64 p.1)/\w'.cell? ⟨b,off+k * 3+1,none⟩=some (.int .i64 p.2.1)/\w'.cell? ⟨b,off+k * 3+2,none⟩=some (.string p.2.2)/\w'.cell? ⟨b2,off2+k * 3,none⟩=some (.int .i64 q.1)/\w'.cell? ⟨b2,off2+k * 3+1,none⟩=some (.int .i64 q.2.1)/\w'.cell? ⟨b2,off2+k * 3+2,none⟩=some (.string q.2.2)) (first | exact ⟨hc0,hc1,hc2,hd0,hd1,hd2⟩ | exact hS2) ((go_at_call 79;refine HE.out.mono ?_;rintro e w2 ⟨rfl,hb2⟩;have hz:=hs.size;have hS2:w2.cell? ⟨b,off+k * 3,none⟩=some (.int .i64 p.1)/\w2.cell? ⟨b,off+k * 3+1,none⟩=some (.int .i64 p.2.1)/\w2.cell? ⟨b,off+k * 3+2,none⟩=some (.string p.2.2)/\w2.cell? ⟨b2,off2+k * 3,none⟩=some (.int .i64 q.1)/\w2.cell? ⟨b2,off2+k * 3+1,none⟩=some (.int .i64 q.2.1)/\w2.cell? ⟨b2,off2+k * 3+2,none⟩=some (.string q.2.2):=⟨(hb2.cell (p:=⟨b,off+k * 3,none⟩) (Nat.lt_of_lt_of_le h3 hz)).trans hc0,(hb2.cell (p:=⟨b,off+k * 3+1,none⟩) (Nat.lt_of_lt_of_le h3 hz)).trans hc1,(hb2.cell (p:=⟨b,off+k * 3+2,none⟩) (Nat.lt_of_lt_of_le h3 hz)).trans hc2,(hb2.cell (p:=⟨b2,off2+k * 3,none⟩) (Nat.lt_of_lt_of_le g3 hz)).trans hd0,(hb2.cell (p:=⟨b2,off2+k * 3+1,none⟩) (Nat.lt_of_lt_of_le g3 hz)).trans hd1,(hb2.cell (p:=⟨b2,off2+k * 3+2,none⟩) (Nat.lt_of_lt_of_le g3 hz)).trans hd2⟩))
              go_wp2
              go_roundw
              case rel=>exact ⟨k+1,by omega,by go_num,Hnx.out,hs.drew.trans (hb2.mono hs.size)⟩
              case measure=>simp [intOf];omega
            · rw [decide_eq_false he] at HE
              have Hno:=hide (Hno.out he)
              clear he Hnx
              go_wp2
              go_region_held_law (fun w'=>w'.cell? ⟨b,off+k * 3,none⟩=some (.int .i64 p.1)/\w'.cell? ⟨b,off+k * 3+1,none⟩=some (.int .i64 p.2.1)/\w'.cell? ⟨b,off+k * 3+2,none⟩=some (.string p.2.2)/\w'.cell? ⟨b2,off2+k * 3,none⟩=some (.int .i64 q.1)/\w'.cell? ⟨b2,off2+k * 3+1,none⟩=some (.int .i64 q.2.1)/\w'.cell? ⟨b2,off2+k * 3+2,none⟩=some (.string q.2.2)) (first | exact ⟨hc0,hc1,hc2,hd0,hd1,hd2⟩ | exact hS2) ((go_at_call 79;refine HE.out.mono ?_;rintro e w2 ⟨rfl,hb2⟩;have hz:=hs.size;have hS2:w2.cell? ⟨b,off+k * 3,none⟩=some (.int .i64 p.1)/\w2.cell? ⟨b,off+k * 3+1,none⟩=some (.int .i64 p.2.1)/\w2.cell? ⟨b,off+k * 3+2,none⟩=some (.string p.2.2)/\w2.cell? ⟨b2,off2+k * 3,none⟩=some (.int .i64 q.1)/\w2.cell? ⟨b2,off2+k * 3+1,none⟩=some (.int .i64 q.2.1)/\w2.cell? ⟨b2,off2+k * 3+2,none⟩=some (.string q.2.2):=⟨(hb2.cell (p:=⟨b,off+k * 3,none⟩) (Nat.lt_of_lt_of_le h3 hz)).trans hc0,(hb2.cell (p:=⟨b,off+k * 3+1,none⟩) (Nat.lt_of_lt_of_le h3 hz)).trans hc1,(hb2.cell (p:=⟨b,off+k * 3+2,none⟩) (Nat.lt_of_lt_of_le h3 hz)).trans hc2,(hb2.cell (p:=⟨b2,off2+k * 3,none⟩) (Nat.lt_of_lt_of_le g3 hz)).trans hd0,(hb2.cell (p:=⟨b2,off2+k * 3+1,none⟩) (Nat.lt_of_lt_of_le g3 hz)).trans hd1,(hb2.cell (p:=⟨b2,off2+k * 3+2,none⟩) (Nat.lt_of_lt_of_le g3 hz)).trans hd2⟩))
              go_wp2
              go_ret
              exact ⟨ret_bool Hno.out.symm,hs.drew.trans (hb2.mono hs.size)⟩
          · have hf:Hid (decide (l1=l2)=true):=hide (by
              rw [decide_eq_true]
              have:=Ht.out
              rwa [List.take_of_length_le (by omega),List.take_of_length_le (by omega)] at this)
            go_wp2
            go_ret
            exact ⟨ret_bool hf.out.symm,hs⟩
  · obtain ⟨a,cap,rfl⟩:=hr1.shape
    obtain ⟨a2,cap2,rfl⟩:=hr2.shape
    clear hr1 hr2
    have hlen:((l1.length:Int) != (l2.length:Int))=true:=by rw [bne_iff_ne];omega
    have hf:Hid (decide (l1=l2)=false):=hide (by rw [decide_eq_false];intro e;subst e;exact hne rfl)
    clear hne
    go_enter Try.func74,Try.ntmps74
    go_wp2
    go_ret
    exact ⟨ret_bool hf.out.symm,Below.refl _ _⟩
def totVote (l:List Tr):Nat:=(l.map (·.2.2.size)).sum
theorem totVoteote_snoc (l:List Tr) (k:Nat) (h:k < l.length):totVote (l.take (k+1))=totVote (l.take k)+l[k].2.2.size:=by
  unfold totVote
  rw [List.take_succ_eq_append_getElem h,List.map_append,List.sum_append]
  simp only [List.map_cons,List.map_nil,List.sum_cons,List.sum_nil,Nat.add_zero]
theorem szVote_fit (p:Tr) (r:Nat) (w:World) (h:p.2.2.size<=r) (hr:r<=100000000) :
    Calls Try.prog 57 #[.agg #[.int .i64 p.1,.int .i64 p.2.1,.string p.2.2],.int .i64 (r:Int)] w fun e w'=>e=.returned (.int .i64 ((r - p.2.2.size:Nat):Int))/\Below w.heap.size w w':=by
  obtain ⟨c,b,a⟩:=p
  simp only at h ⊢
  have HB:=hide ((Below.refl _ w).alloc (Nat.le_refl _) (.cells #[.int .i64 c,.int .i64 b,.string a] 97))
  have w1:IntKind.i64.wrap ((r:Int) - (a.size:Int))=((r - a.size:Nat):Int):=by rw [IntKind.wrap_i64];omega
  have h0:¬ ((r:Int) - (a.size:Int)) < 0:=by omega
  have h1:¬ (((r - a.size:Nat):Int)) < 0:=by omega
  generalize r - a.size=q at w1 h1 ⊢
  go_enter Try.func57,Try.ntmps57
  go_wp2
  go_ret
  exact ⟨rfl,HB.out⟩
theorem szVote_not (p:Tr) (r:Nat) (w:World) (h:¬ p.2.2.size<=r) (hr:r<=100000000) (hs:p.2.2.size<=9223372036854775807) :
    Calls Try.prog 57 #[.agg #[.int .i64 p.1,.int .i64 p.2.1,.string p.2.2],.int .i64 (r:Int)] w fun e w'=>e=.returned (.int .i64 (-1))/\Below w.heap.size w w':=by
  obtain ⟨c,b,a⟩:=p
  simp only at h hs ⊢
  have HB:=hide ((Below.refl _ w).alloc (Nat.le_refl _) (.cells #[.int .i64 c,.int .i64 b,.string a] 97))
  have w1:IntKind.i64.wrap ((r:Int) - (a.size:Int))=(r:Int) - (a.size:Int):=by rw [IntKind.wrap_i64];omega
  have h0:((r:Int) - (a.size:Int)) < 0:=by omega
  go_enter Try.func57,Try.ntmps57
  go_wp2
  go_ret
  exact ⟨rfl,HB.out⟩
theorem szVoteS_any (v:Value) (l:List Tr) (m:Nat) (w:World) (hr:RdR w v l) (hm:m<=100000000) (hl:l.length<=9223372036854775807) (hs:∀ a ∈ l,a.2.2.size<=9223372036854775807) :
    Calls Try.prog 52 #[v,.int .i64 (m:Int)] w fun e w'=>∃ r:Int,e=.returned (.int .i64 r)/\(0<=r->l.length+totVote l<=m/\r<=(m:Int))/\Below w.heap.size w w':=by
  by_cases hn:m < l.length
  · obtain ⟨a,cap,rfl⟩:=hr.shape
    clear hr hs
    go_enter Try.func52,Try.ntmps52
    go_wp2
    go_ret
    exact ⟨_,rfl,fun h=>by omega,Below.refl _ _⟩
  · rcases hr with ⟨a,cap,rfl,rfl,-⟩ | ⟨b,off,cap,h0,rfl,h1,h2,h3,h4⟩
    · go_enter Try.func52,Try.ntmps52
      go_wp2
      refine wp_loop_rounds 1 ?_
      rw [rounds_succ]
      go_wp2
      go_ret
      exact ⟨_,rfl,fun _=>⟨by simp [totVote],by simp⟩,Below.refl _ _⟩
    · have Hs:=hide hs
      have H4:=hide h4
      clear hs h4
      go_enter Try.func52,Try.ntmps52
      go_wp2
      go_loopw [1,5] (fun mv iv wr=>∃ k r:Nat,k<=l.length/\iv=.int .i64 (k:Int)/\mv=.int .i64 (r:Int)/\l.length+totVote (l.take k)+r=m/\Below w.heap.size w wr) (fun _ iv _=>l.length - (intOf iv).toNat)
      case atStart=>exact ⟨0,m - l.length,Nat.zero_le _,rfl,by go_num,by simp [totVote];omega,Below.refl _ _⟩
      case round =>
        obtain ⟨k,r,hk,rfl,rfl,hrem,hb⟩:=hrel
        have Hrem:=hide hrem
        have hrm:r<=m:=by omega
        clear hrem
        by_cases hlt:k < l.length
        · obtain ⟨d0,d1,d2⟩:=H4.out k hlt
          have c0:=(hb.cell (p:=⟨b,off+k * 3,none⟩) h3).trans d0
          have c1:=(hb.cell (p:=⟨b,off+k * 3+1,none⟩) h3).trans d1
          have c2:=(hb.cell (p:=⟨b,off+k * 3+2,none⟩) h3).trans d2
          have hsz:=Hs.out l[k] (List.getElem_mem hlt)
          have Hsn:=hide (totVoteote_snoc l k hlt)
          have hli:(k:Int) < (l.length:Int):=by omega
          clear d0 d1 d2
          by_cases hfit:l[k].2.2.size<=r
          · have HZ:=hide (szVote_fit l[k] r wr hfit (by omega))
            obtain ⟨q,hq⟩:∃ q,r - l[k].2.2.size=q:=⟨_,rfl⟩
            have Hq:Hid (l[k].2.2.size+q=r):=hide (by omega)
            rw [hq] at HZ
            clear hfit hsz hq
            generalize l[k]=ak at c0 c1 c2 HZ Hsn Hq
            obtain ⟨rd,wt,nm⟩:=ak
            simp only at c0 c1 c2 HZ
            go_wp2_with (go_at_call 57;refine HZ.out.mono ?_;rintro e w2 ⟨rfl,hb2⟩)
            go_roundw
            case rel=>exact ⟨k+1,q,by omega,by go_num,rfl,by rw [Hsn.out];have:=Hrem.out;have:=Hq.out;omega,hb.trans (hb2.mono hb.size)⟩
            case measure=>simp [intOf];omega
          · have HZ:=hide (szVote_not l[k] r wr hfit (by omega) hsz)
            clear hfit hsz
            generalize l[k]=ak at c0 c1 c2 HZ Hsn
            obtain ⟨rd,wt,nm⟩:=ak
            simp only at c0 c1 c2 HZ
            go_wp2_with (go_at_call 57;refine HZ.out.mono ?_;rintro e w2 ⟨rfl,hb2⟩)
            go_ret
            exact ⟨_,rfl,fun h=>by omega,hb.trans (hb2.mono hb.size)⟩
        · have hf:Hid (l.length+totVote l<=m/\(r:Int)<=(m:Int)):=hide (by have:=Hrem.out;rw [List.take_of_length_le (by omega)] at this;omega)
          go_wp2
          go_ret
          exact ⟨_,rfl,fun _=>hf.out,hb⟩
theorem eqGone_any (p q:Tr) (w:World):Calls Try.prog 80 #[.agg #[.int .i64 p.1,.int .i64 p.2.1,.string p.2.2],.agg #[.int .i64 q.1,.int .i64 q.2.1,.string q.2.2]] w fun e w'=>e=.returned (.bool (decide (p=q)))/\Below w.heap.size w w':=by
  obtain ⟨a,b,c⟩:=p
  obtain ⟨d,f,g⟩:=q
  have hB:=hide (((Below.refl _ w).alloc (Nat.le_refl _) (.cells #[.int .i64 a,.int .i64 b,.string c] 110)).alloc (by simp) (.cells #[.int .i64 d,.int .i64 f,.string g] 110))
  by_cases h1:a=d
  · subst h1
    by_cases h2:b=f
    · subst h2
      by_cases h3:c=g
      · subst h3
        go_enter Try.func80,Try.ntmps80
        go_wp2
        go_ret
        exact ⟨by simp,hB.out⟩
      · have Hd:Hid (decide ((a,b,c)=(a,b,g))=false):=hide (by rw [decide_eq_false];intro e;injection e with _ e;injection e with _ e;exact h3 e)
        have hq:=bytes_ne h3
        clear h3
        go_enter Try.func80,Try.ntmps80
        go_wp2
        go_ret
        exact ⟨ret_bool Hd.out.symm,hB.out⟩
    · have Hd:Hid (decide ((a,b,c)=(a,f,g))=false):=hide (by rw [decide_eq_false];intro e;injection e with _ e;injection e with e _;exact h2 e)
      have hq:(b != f)=true:=by rw [bne_iff_ne];exact h2
      clear h2
      go_enter Try.func80,Try.ntmps80
      go_wp2
      go_ret
      exact ⟨ret_bool Hd.out.symm,hB.out⟩
  · have Hd:Hid (decide ((a,b,c)=(d,f,g))=false):=hide (by rw [decide_eq_false];intro e;injection e with e _;exact h1 e)
    have hq:(a != d)=true:=by rw [bne_iff_ne];exact h1
    clear h1
    go_enter Try.func80,Try.ntmps80
    go_wp2
    go_ret
    exact ⟨ret_bool Hd.out.symm,hB.out⟩
theorem eqGoneS_any (v1 v2:Value) (l1 l2:List Tr) (w:World) (hr1:RdR w v1 l1) (hr2:RdR w v2 l2) (hl1:l1.length<=4000000) (hl2:l2.length<=4000000) :
    Calls Try.prog 75 #[v1,v2] w fun e w'=>e=.returned (.bool (decide (l1=l2)))/\Below w.heap.size w w':=by
  by_cases hne:l1.length=l2.length
  · rcases hr1 with ⟨a,cap,rfl,rfl,-⟩ | ⟨b,off,cap,h0,rfl,h1,h2,h3,h4⟩
    · have e2:l2=[]:=List.length_eq_zero_iff.1 (by simpa using hne.symm)
      subst e2
      obtain ⟨a2,cap2,rfl⟩:=hr2.shape
      clear hr2
      go_enter Try.func75,Try.ntmps75
      go_wp2
      refine wp_loop_rounds 1 ?_
      rw [rounds_succ]
      go_wp2
      go_ret
      exact ⟨rfl,Below.refl _ _⟩
    · rcases hr2 with ⟨a2,cap2,rfl,rfl,-⟩ | ⟨b2,off2,cap2,g0,rfl,g1,g2,g3,g4⟩
      · exact absurd (List.length_eq_zero_iff.1 (by simpa using hne)) h0
      · have Hne:=hide hne
        have hlen:((l1.length:Int) != (l2.length:Int))=false:=by rw [hne];simp
        have hle:l1.length<=l2.length:=by omega
        have hge:l2.length<=l1.length:=by omega
        have H4:=hide h4
        have G4:=hide g4
        clear hne h4 g4
        go_enter Try.func75,Try.ntmps75
        go_wp2
        go_loopw [5] (fun i wr=>∃ k:Nat,k<=l1.length/\i=.int .i64 k/\l1.take k=l2.take k/\Below w.heap.size w wr) (fun i _=>l1.length - (intOf i).toNat)
        case atStart=>exact ⟨0,Nat.zero_le _,rfl,rfl,Below.refl _ _⟩
        case round =>
          obtain ⟨k,hk,rfl,ht,hs⟩:=hrel
          have Ht:=hide ht
          clear ht
          by_cases hlt:k < l1.length
          · have hlt2:k < l2.length:=by omega
            obtain ⟨d0,d1,d2⟩:=H4.out k hlt
            obtain ⟨e0,e1,e2⟩:=G4.out k hlt2
            have hc0:wr.drew.cell? ⟨b,off+k * 3,none⟩=some (.int .i64 l1[k].1):=(hs.cell (p:=⟨b,off+k * 3,none⟩) h3).trans d0
            have hd0:wr.drew.cell? ⟨b2,off2+k * 3,none⟩=some (.int .i64 l2[k].1):=(hs.cell (p:=⟨b2,off2+k * 3,none⟩) g3).trans e0
            have hc1:wr.drew.cell? ⟨b,off+k * 3+1,none⟩=some (.int .i64 l1[k].2.1):=(hs.cell (p:=⟨b,off+k * 3+1,none⟩) h3).trans d1
            have hd1:wr.drew.cell? ⟨b2,off2+k * 3+1,none⟩=some (.int .i64 l2[k].2.1):=(hs.cell (p:=⟨b2,off2+k * 3+1,none⟩) g3).trans e1
            have hc2:wr.drew.cell? ⟨b,off+k * 3+2,none⟩=some (.string l1[k].2.2):=(hs.cell (p:=⟨b,off+k * 3+2,none⟩) h3).trans d2
            have hd2:wr.drew.cell? ⟨b2,off2+k * 3+2,none⟩=some (.string l2[k].2.2):=(hs.cell (p:=⟨b2,off2+k * 3+2,none⟩) g3).trans e2
            have hli:(k:Int) < (l1.length:Int):=by omega
            have hli2:(k:Int) < (l2.length:Int):=by omega
            have HE:=hide (eqGone_any l1[k] l2[k] wr.drew)
            have Hnx:Hid (l1[k]=l2[k]->l1.take (k+1)=l2.take (k+1)):=hide (fun he=>take_eq_snoc hlt hlt2 Ht.out he)
            have Hno:Hid (l1[k] ≠ l2[k]->decide (l1=l2)=false):=hide (fun he=>by rw [decide_eq_false];intro e;subst e;exact he rfl)
            clear d0 d1 d2 e0 e1 e2
            generalize hp:l1[k]=p at hc0 hc1 hc2 HE Hnx Hno
            generalize hq:l2[k]=q at hd0 hd1 hd2 HE Hnx Hno
            clear hp hq
            by_cases he:p=q
            · rw [decide_eq_true he] at HE
              have Hnx:=hide (Hnx.out he)
              clear he Hno
              go_wp2
              go_region_held_law (fun w'=>w'.cell? ⟨b,off+k * 3,none⟩=some (.int .i64 p.1)/\w'.cell? ⟨b,off+k * 3+1,none⟩=some (.int .i64 p.2.1)/\w'.cell? ⟨b,off+k * 3+2,none⟩=some (.string p.2.2)/\w'.cell? ⟨b2,off2+k * 3,none⟩=some (.int .i64 q.1)/\w'.cell? ⟨b2,off2+k * 3+1,none⟩=some (.int .i64 q.2.1)/\w'.cell? ⟨b2,off2+k * 3+2,none⟩=some (.string q.2.2)) (first | exact ⟨hc0,hc1,hc2,hd0,hd1,hd2⟩ | exact hS2) ((go_at_call 80;refine HE.out.mono ?_;rintro e w2 ⟨rfl,hb2⟩;have hz:=hs.size;have hS2:w2.cell? ⟨b,off+k * 3,none⟩=some (.int .i64 p.1)/\w2.cell? ⟨b,off+k * 3+1,none⟩=some (.int .i64 p.2.1)/\w2.cell? ⟨b,off+k * 3+2,none⟩=some (.string p.2.2)/\w2.cell? ⟨b2,off2+k * 3,none⟩=some (.int .i64 q.1)/\w2.cell? ⟨b2,off2+k * 3+1,none⟩=some (.int .i64 q.2.1)/\w2.cell? ⟨b2,off2+k * 3+2,none⟩=some (.string q.2.2):=⟨(hb2.cell (p:=⟨b,off+k * 3,none⟩) (Nat.lt_of_lt_of_le h3 hz)).trans hc0,(hb2.cell (p:=⟨b,off+k * 3+1,none⟩) (Nat.lt_of_lt_of_le h3 hz)).trans hc1,(hb2.cell (p:=⟨b,off+k * 3+2,none⟩) (Nat.lt_of_lt_of_le h3 hz)).trans hc2,(hb2.cell (p:=⟨b2,off2+k * 3,none⟩) (Nat.lt_of_lt_of_le g3 hz)).trans hd0,(hb2.cell (p:=⟨b2,off2+k * 3+1,none⟩) (Nat.lt_of_lt_of_le g3 hz)).trans hd1,(hb2.cell (p:=⟨b2,off2+k * 3+2,none⟩) (Nat.lt_of_lt_of_le g3 hz)).trans hd2⟩))
              go_wp2
              go_roundw
              case rel=>exact ⟨k+1,by omega,by go_num,Hnx.out,hs.drew.trans (hb2.mono hs.size)⟩
              case measure=>simp [intOf];omega
            · rw [decide_eq_false he] at HE
              have Hno:=hide (Hno.out he)
              clear he Hnx
              go_wp2
              go_region_held_law (fun w'=>w'.cell? ⟨b,off+k * 3,none⟩=some (.int .i64 p.1)/\w'.cell? ⟨b,off+k * 3+1,none⟩=some (.int .i64 p.2.1)/\w'.cell? ⟨b,off+k * 3+2,none⟩=some (.string p.2.2)/\w'.cell? ⟨b2,off2+k * 3,none⟩=some (.int .i64 q.1)/\w'.cell? ⟨b2,off2+k * 3+1,none⟩=some (.int .i64 q.2.1)/\w'.cell? ⟨b2,off2+k * 3+2,none⟩=some (.string q.2.2)) (first | exact ⟨hc0,hc1,hc2,hd0,hd1,hd2⟩ | exact hS2) ((go_at_call 80;refine HE.out.mono ?_;rintro e w2 ⟨rfl,hb2⟩;have hz:=hs.size;have hS2:w2.cell? ⟨b,off+k * 3,none⟩=some (.int .i64 p.1)/\w2.cell? ⟨b,off+k * 3+1,none⟩=some (.int .i64 p.2.1)/\w2.cell? ⟨b,off+k * 3+2,none⟩=some (.string p.2.2)/\w2.cell? ⟨b2,off2+k * 3,none⟩=some (.int .i64 q.1)/\w2.cell? ⟨b2,off2+k * 3+1,none⟩=some (.int .i64 q.2.1)/\w2.cell? ⟨b2,off2+k * 3+2,none⟩=some (.string q.2.2):=⟨(hb2.cell (p:=⟨b,off+k * 3,none⟩) (Nat.lt_of_lt_of_le h3 hz)).trans hc0,(hb2.cell (p:=⟨b,off+k * 3+1,none⟩) (Nat.lt_of_lt_of_le h3 hz)).trans hc1,(hb2.cell (p:=⟨b,off+k * 3+2,none⟩) (Nat.lt_of_lt_of_le h3 hz)).trans hc2,(hb2.cell (p:=⟨b2,off2+k * 3,none⟩) (Nat.lt_of_lt_of_le g3 hz)).trans hd0,(hb2.cell (p:=⟨b2,off2+k * 3+1,none⟩) (Nat.lt_of_lt_of_le g3 hz)).trans hd1,(hb2.cell (p:=⟨b2,off2+k * 3+2,none⟩) (Nat.lt_of_lt_of_le g3 hz)).trans hd2⟩))
              go_wp2
              go_ret
              exact ⟨ret_bool Hno.out.symm,hs.drew.trans (hb2.mono hs.size)⟩
          · have hf:Hid (decide (l1=l2)=true):=hide (by
              rw [decide_eq_true]
              have:=Ht.out
              rwa [List.take_of_length_le (by omega),List.take_of_length_le (by omega)] at this)
            go_wp2
            go_ret
            exact ⟨ret_bool hf.out.symm,hs⟩
  · obtain ⟨a,cap,rfl⟩:=hr1.shape
    obtain ⟨a2,cap2,rfl⟩:=hr2.shape
    clear hr1 hr2
    have hlen:((l1.length:Int) != (l2.length:Int))=true:=by rw [bne_iff_ne];omega
    have hf:Hid (decide (l1=l2)=false):=hide (by rw [decide_eq_false];intro e;subst e;exact hne rfl)
    clear hne
    go_enter Try.func75,Try.ntmps75
    go_wp2
    go_ret
    exact ⟨ret_bool hf.out.symm,Below.refl _ _⟩
def totGone (l:List Tr):Nat:=(l.map (·.2.2.size)).sum
theorem totGone_snoc (l:List Tr) (k:Nat) (h:k < l.length):totGone (l.take (k+1))=totGone (l.take k)+l[k].2.2.size:=by
  unfold totGone
  rw [List.take_succ_eq_append_getElem h,List.map_append,List.sum_append]
  simp only [List.map_cons,List.map_nil,List.sum_cons,List.sum_nil,Nat.add_zero]
theorem szGone_fit (p:Tr) (r:Nat) (w:World) (h:p.2.2.size<=r) (hr:r<=100000000) :
    Calls Try.prog 58 #[.agg #[.int .i64 p.1,.int .i64 p.2.1,.string p.2.2],.int .i64 (r:Int)] w fun e w'=>e=.returned (.int .i64 ((r - p.2.2.size:Nat):Int))/\Below w.heap.size w w':=by
  obtain ⟨c,b,a⟩:=p
  simp only at h ⊢
  have HB:=hide ((Below.refl _ w).alloc (Nat.le_refl _) (.cells #[.int .i64 c,.int .i64 b,.string a] 99))
  have w1:IntKind.i64.wrap ((r:Int) - (a.size:Int))=((r - a.size:Nat):Int):=by rw [IntKind.wrap_i64];omega
  have h0:¬ ((r:Int) - (a.size:Int)) < 0:=by omega
  have h1:¬ (((r - a.size:Nat):Int)) < 0:=by omega
  generalize r - a.size=q at w1 h1 ⊢
  go_enter Try.func58,Try.ntmps58
  go_wp2
  go_ret
  exact ⟨rfl,HB.out⟩
theorem szGone_not (p:Tr) (r:Nat) (w:World) (h:¬ p.2.2.size<=r) (hr:r<=100000000) (hs:p.2.2.size<=9223372036854775807) :
    Calls Try.prog 58 #[.agg #[.int .i64 p.1,.int .i64 p.2.1,.string p.2.2],.int .i64 (r:Int)] w fun e w'=>e=.returned (.int .i64 (-1))/\Below w.heap.size w w':=by
  obtain ⟨c,b,a⟩:=p
  simp only at h hs ⊢
  have HB:=hide ((Below.refl _ w).alloc (Nat.le_refl _) (.cells #[.int .i64 c,.int .i64 b,.string a] 99))
  have w1:IntKind.i64.wrap ((r:Int) - (a.size:Int))=(r:Int) - (a.size:Int):=by rw [IntKind.wrap_i64];omega
  have h0:((r:Int) - (a.size:Int)) < 0:=by omega
  go_enter Try.func58,Try.ntmps58
  go_wp2
  go_ret
  exact ⟨rfl,HB.out⟩
theorem szGoneS_any (v:Value) (l:List Tr) (m:Nat) (w:World) (hr:RdR w v l) (hm:m<=100000000) (hl:l.length<=9223372036854775807) (hs:∀ a ∈ l,a.2.2.size<=9223372036854775807) :
    Calls Try.prog 53 #[v,.int .i64 (m:Int)] w fun e w'=>∃ r:Int,e=.returned (.int .i64 r)/\(0<=r->l.length+totGone l<=m/\r<=(m:Int))/\Below w.heap.size w w':=by
  by_cases hn:m < l.length
  · obtain ⟨a,cap,rfl⟩:=hr.shape
    clear hr hs
    go_enter Try.func53,Try.ntmps53
    go_wp2
    go_ret
    exact ⟨_,rfl,fun h=>by omega,Below.refl _ _⟩
  · rcases hr with ⟨a,cap,rfl,rfl,-⟩ | ⟨b,off,cap,h0,rfl,h1,h2,h3,h4⟩
    · go_enter Try.func53,Try.ntmps53
      go_wp2
      refine wp_loop_rounds 1 ?_
      rw [rounds_succ]
      go_wp2
      go_ret
      exact ⟨_,rfl,fun _=>⟨by simp [totGone],by simp⟩,Below.refl _ _⟩
    · have Hs:=hide hs
      have H4:=hide h4
      clear hs h4
      go_enter Try.func53,Try.ntmps53
      go_wp2
      go_loopw [1,5] (fun mv iv wr=>∃ k r:Nat,k<=l.length/\iv=.int .i64 (k:Int)/\mv=.int .i64 (r:Int)/\l.length+totGone (l.take k)+r=m/\Below w.heap.size w wr) (fun _ iv _=>l.length - (intOf iv).toNat)
      case atStart=>exact ⟨0,m - l.length,Nat.zero_le _,rfl,by go_num,by simp [totGone];omega,Below.refl _ _⟩
      case round =>
        obtain ⟨k,r,hk,rfl,rfl,hrem,hb⟩:=hrel
        have Hrem:=hide hrem
        have hrm:r<=m:=by omega
        clear hrem
        by_cases hlt:k < l.length
        · obtain ⟨d0,d1,d2⟩:=H4.out k hlt
          have c0:=(hb.cell (p:=⟨b,off+k * 3,none⟩) h3).trans d0
          have c1:=(hb.cell (p:=⟨b,off+k * 3+1,none⟩) h3).trans d1
          have c2:=(hb.cell (p:=⟨b,off+k * 3+2,none⟩) h3).trans d2
          have hsz:=Hs.out l[k] (List.getElem_mem hlt)
          have Hsn:=hide (totGone_snoc l k hlt)
          have hli:(k:Int) < (l.length:Int):=by omega
          clear d0 d1 d2
          by_cases hfit:l[k].2.2.size<=r
          · have HZ:=hide (szGone_fit l[k] r wr hfit (by omega))
            obtain ⟨q,hq⟩:∃ q,r - l[k].2.2.size=q:=⟨_,rfl⟩
            have Hq:Hid (l[k].2.2.size+q=r):=hide (by omega)
            rw [hq] at HZ
            clear hfit hsz hq
            generalize l[k]=ak at c0 c1 c2 HZ Hsn Hq
            obtain ⟨rd,wt,nm⟩:=ak
            simp only at c0 c1 c2 HZ
            go_wp2_with (go_at_call 58;refine HZ.out.mono ?_;rintro e w2 ⟨rfl,hb2⟩)
            go_roundw
            case rel=>exact ⟨k+1,q,by omega,by go_num,rfl,by rw [Hsn.out];have:=Hrem.out;have:=Hq.out;omega,hb.trans (hb2.mono hb.size)⟩
            case measure=>simp [intOf];omega
          · have HZ:=hide (szGone_not l[k] r wr hfit (by omega) hsz)
            clear hfit hsz
            generalize l[k]=ak at c0 c1 c2 HZ Hsn
            obtain ⟨rd,wt,nm⟩:=ak
            simp only at c0 c1 c2 HZ
            go_wp2_with (go_at_call 58;refine HZ.out.mono ?_;rintro e w2 ⟨rfl,hb2⟩)
            go_ret
            exact ⟨_,rfl,fun h=>by omega,hb.trans (hb2.mono hb.size)⟩
        · have hf:Hid (l.length+totGone l<=m/\(r:Int)<=(m:Int)):=hide (by have:=Hrem.out;rw [List.take_of_length_le (by omega)] at this;omega)
          go_wp2
          go_ret
          exact ⟨_,rfl,fun _=>hf.out,hb⟩
end Go.Proofs.Ytfdbedenlbikgaa
