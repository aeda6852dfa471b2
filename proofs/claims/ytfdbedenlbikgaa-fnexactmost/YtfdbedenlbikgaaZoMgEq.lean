/- A word (the datum is MgMem's). Held against another. -/
import Derived.Test.YtfdbedenlbikgaaZoWdTo
set_option maxRecDepth 20000
set_option maxHeartbeats 8000000
namespace Go.Proofs.Ytfdbedenlbikgaa
open Go.RowKit
set_option linter.unusedVariables false
theorem eqMsg_same (p:Mg) (u t:Mv) (w:World) (hr:RdMg w p u) (ht:RdMg w p t) (hf:FewMg p) :
    Calls Try.prog 47 #[mgV p u,mgV p t] w fun e w'=>e=.returned (.bool true)/\Below w.heap.size w w':=by
  have hnb:=hf.nb
  have hfb:=hf.fb
  have hnq:=hf.nq
  have hnw:=hf.nw
  have hnh:=hf.nh
  clear hf
  obtain ⟨kd,tn,ep,bs,vr,vb,vw,gr,gh,gw,qr,qb,qw,tr,tw,th⟩:=p
  obtain ⟨yb,yq,yw,yh⟩:=u
  obtain ⟨hyb,hyq,hyw,hyh⟩:=hr
  simp only at *
  obtain ⟨adb,cpb,rfl⟩:=hyb.shape
  obtain ⟨adq,cpq,rfl⟩:=hyq.shape
  obtain ⟨adw,cpw,rfl⟩:=hyw.shape
  obtain ⟨adh,cph,rfl⟩:=hyh.shape
  obtain ⟨zb,zq,zw,zh⟩:=t
  obtain ⟨jyb,jyq,jyw,jyh⟩:=ht
  simp only at *
  obtain ⟨bdb,bpb,rfl⟩:=jyb.shape
  obtain ⟨bdq,bpq,rfl⟩:=jyq.shape
  obtain ⟨bdw,bpw,rfl⟩:=jyw.shape
  obtain ⟨bdh,bph,rfl⟩:=jyh.shape
  have E1:=hide (fun V (hV:Below w.heap.size w V)=>eqBlockS_any (.slice adb bs.length cpb) (.slice bdb bs.length bpb) bs V (hyb.below hV (Nat.le_refl _)) (jyb.below hV (Nat.le_refl _)) hnb hfb)
  have E2:=hide (fun V (hV:Below w.heap.size w V)=>eqVote_same vr vb vw V)
  have E3:=hide (fun V (hV:Below w.heap.size w V)=>eqGone_same gr gh gw V)
  have E4:=hide (fun V (hV:Below w.heap.size w V)=>eqQc_any qr qb (.slice adq qw.length cpq) (.slice bdq qw.length bpq) qw V (hyq.below hV (Nat.le_refl _)) (jyq.below hV (Nat.le_refl _)) hnq)
  have E5:=hide (fun V (hV:Below w.heap.size w V)=>eqTc_any tr (.slice adw tw.length cpw) (.slice adh th.length cph) (.slice bdw tw.length bpw) (.slice bdh th.length bph) tw th V (hyw.below hV (Nat.le_refl _)) (hyh.below hV (Nat.le_refl _)) (jyw.below hV (Nat.le_refl _)) (jyh.below hV (Nat.le_refl _)) hnw hnh)
  clear hyb hyq hyw hyh jyb jyq jyw jyh
  clear hfb
  simp only [mgV,qcV,tcV] at *
  obtain ⟨S0,hS0⟩:∃ x,(w.alloc (.cells #[.int .i64 kd,.string tn,.int .i64 ep,.slice adb bs.length cpb,.int .i64 vr,.int .i64 vb,.string vw,.int .i64 gr,.int .i64 gh,.string gw,.int .i64 qr,.int .i64 qb,.slice adq qw.length cpq,.int .i64 tr,.slice adw tw.length cpw,.slice adh th.length cph] 112)).alloc (.cells #[.int .i64 kd,.string tn,.int .i64 ep,.slice bdb bs.length bpb,.int .i64 vr,.int .i64 vb,.string vw,.int .i64 gr,.int .i64 gh,.string gw,.int .i64 qr,.int .i64 qb,.slice bdq qw.length bpq,.int .i64 tr,.slice bdw tw.length bpw,.slice bdh th.length bph] 112)=x:=⟨_,rfl⟩
  have kA0:Blk S0 w.heap.size 112 [.int .i64 kd,.string tn,.int .i64 ep,.slice adb bs.length cpb,.int .i64 vr,.int .i64 vb,.string vw,.int .i64 gr,.int .i64 gh,.string gw,.int .i64 qr,.int .i64 qb,.slice adq qw.length cpq,.int .i64 tr,.slice adw tw.length cpw,.slice adh th.length cph]:=by rw [<- hS0];exact (Blk.new w _ _).below ((Below.refl (w.heap.size+1) _).alloc (by simp) _) (by omega)
  have kB0:Blk S0 (w.heap.size+1) 112 [.int .i64 kd,.string tn,.int .i64 ep,.slice bdb bs.length bpb,.int .i64 vr,.int .i64 vb,.string vw,.int .i64 gr,.int .i64 gh,.string gw,.int .i64 qr,.int .i64 qb,.slice bdq qw.length bpq,.int .i64 tr,.slice bdw tw.length bpw,.slice bdh th.length bph]:=by rw [<- hS0];exact Blk.newR _ _ [.int .i64 kd,.string tn,.int .i64 ep,.slice bdb bs.length bpb,.int .i64 vr,.int .i64 vb,.string vw,.int .i64 gr,.int .i64 gh,.string gw,.int .i64 qr,.int .i64 qb,.slice bdq qw.length bpq,.int .i64 tr,.slice bdw tw.length bpw,.slice bdh th.length bph] _ (by simp)
  have b0:Below w.heap.size w S0:=by rw [<- hS0];exact ((Below.refl _ w).alloc (Nat.le_refl _) _).alloc (by simp) _
  have x0:=kA0.cell 0
  have x1:=kA0.cell 1
  have x2:=kA0.cell 2
  have x3:=kA0.cell 3
  simp only [List.getElem?_cons_zero,List.getElem?_cons_succ] at x0 x1 x2 x3
  have y0:=kB0.cell 0
  have y1:=kB0.cell 1
  have y2:=kB0.cell 2
  have y3:=kB0.cell 3
  simp only [List.getElem?_cons_zero,List.getElem?_cons_succ] at y0 y1 y2 y3
  have KA0:=hide kA0
  have KB0:=hide kB0
  clear kA0 kB0
  go_enter Try.func47,Try.ntmps47
  go_wp2_with fail
  (try rw [hS0])
  clear hS0
  refine (E1.out _ b0).mono ?_
  rintro e w1 ⟨rfl,hb1⟩
  have b1:=b0.trans (hb1.mono b0.size)
  have kA1:=KA0.out.below hb1 KA0.out.lt
  have kB1:=KB0.out.below hb1 KB0.out.lt
  clear x0 x1 x2 x3 y0 y1 y2 y3 KA0 KB0 b0 hb1 E1
  have x4:=kA1.cell 4
  have x5:=kA1.cell 5
  have x6:=kA1.cell 6
  simp only [List.getElem?_cons_zero,List.getElem?_cons_succ] at x4 x5 x6
  have y4:=kB1.cell 4
  have y5:=kB1.cell 5
  have y6:=kB1.cell 6
  simp only [List.getElem?_cons_zero,List.getElem?_cons_succ] at y4 y5 y6
  have KA1:=hide kA1
  have KB1:=hide kB1
  clear kA1 kB1
  go_wp2_with fail
  refine (E2.out _ b1).mono ?_
  rintro e w2 ⟨rfl,hb2⟩
  have b2:=b1.trans (hb2.mono b1.size)
  have kA2:=KA1.out.below hb2 KA1.out.lt
  have kB2:=KB1.out.below hb2 KB1.out.lt
  clear x4 x5 x6 y4 y5 y6 KA1 KB1 b1 hb2 E2
  have x7:=kA2.cell 7
  have x8:=kA2.cell 8
  have x9:=kA2.cell 9
  simp only [List.getElem?_cons_zero,List.getElem?_cons_succ] at x7 x8 x9
  have y7:=kB2.cell 7
  have y8:=kB2.cell 8
  have y9:=kB2.cell 9
  simp only [List.getElem?_cons_zero,List.getElem?_cons_succ] at y7 y8 y9
  have KA2:=hide kA2
  have KB2:=hide kB2
  clear kA2 kB2
  go_wp2_with fail
  refine (E3.out _ b2).mono ?_
  rintro e w3 ⟨rfl,hb3⟩
  have b3:=b2.trans (hb3.mono b2.size)
  have kA3:=KA2.out.below hb3 KA2.out.lt
  have kB3:=KB2.out.below hb3 KB2.out.lt
  clear x7 x8 x9 y7 y8 y9 KA2 KB2 b2 hb3 E3
  have x10:=kA3.cell 10
  have x11:=kA3.cell 11
  have x12:=kA3.cell 12
  simp only [List.getElem?_cons_zero,List.getElem?_cons_succ] at x10 x11 x12
  have y10:=kB3.cell 10
  have y11:=kB3.cell 11
  have y12:=kB3.cell 12
  simp only [List.getElem?_cons_zero,List.getElem?_cons_succ] at y10 y11 y12
  have KA3:=hide kA3
  have KB3:=hide kB3
  clear kA3 kB3
  go_wp2_with fail
  refine (E4.out _ b3).mono ?_
  rintro e w4 ⟨rfl,hb4⟩
  have b4:=b3.trans (hb4.mono b3.size)
  have kA4:=KA3.out.below hb4 KA3.out.lt
  have kB4:=KB3.out.below hb4 KB3.out.lt
  clear x10 x11 x12 y10 y11 y12 KA3 KB3 b3 hb4 E4
  have x13:=kA4.cell 13
  have x14:=kA4.cell 14
  have x15:=kA4.cell 15
  simp only [List.getElem?_cons_zero,List.getElem?_cons_succ] at x13 x14 x15
  have y13:=kB4.cell 13
  have y14:=kB4.cell 14
  have y15:=kB4.cell 15
  simp only [List.getElem?_cons_zero,List.getElem?_cons_succ] at y13 y14 y15
  have KA4:=hide kA4
  have KB4:=hide kB4
  clear kA4 kB4
  go_wp2_with fail
  refine (E5.out _ b4).mono ?_
  rintro e w5 ⟨rfl,hb5⟩
  have b5:=b4.trans (hb5.mono b4.size)
  have kA5:=KA4.out.below hb5 KA4.out.lt
  have kB5:=KB4.out.below hb5 KB4.out.lt
  clear x13 x14 x15 y13 y14 y15 KA4 KB4 b4 hb5 E5
  clear kA5 kB5
  go_wp2
  go_ret
  exact ⟨rfl,b5⟩
theorem Try.infoEMg:(Try.prog.info? 112).map (·.size)=some 16:=by kernel_rfl
theorem eqMsgS_any (v1 v2:Value) (l:List Mg) (w:World) (hr1:RdMs w v1 l) (hr2:RdMs w v2 l) (hl:l.length<=4000000) (hall:∀ a ∈ l,FewMg a) :
    Calls Try.prog 31 #[v1,v2] w fun e w'=>e=.returned (.bool true)/\Below w.heap.size w w':=by
  obtain ⟨Z1,rfl,hr1⟩:=hr1
  obtain ⟨Z2,hZ,hr2⟩:=hr2
  have hl':Z1.length<=4000000:=by simpa using hl
  have hN2:Z2.length=Z1.length:=by have:=congrArg List.length hZ;simpa using this
  have hel:∀ i (h1:i < Z1.length) (h2:i < Z2.length),Z2[i].1=Z1[i].1:=fun i h1 h2=>by
    have:=List.getElem_of_eq hZ (show i < (Z2.map (·.1)).length by simpa using h2)
    simpa using this
  rcases hr1 with ⟨a,cap,rfl,rfl,-⟩ | ⟨b,off,cap,h0,rfl,h1,h2,h3,h4⟩
  · obtain ⟨a2,cap2,rfl⟩:=hr2.shape
    rw [hN2]
    clear hr2 hel hN2 hZ
    go_enter Try.func31,Try.ntmps31
    go_wp2
    refine wp_loop_rounds 1 ?_
    rw [rounds_succ]
    go_wp2
    go_ret
    exact ⟨rfl,Below.refl _ _⟩
  · rcases hr2 with ⟨a2,cap2,rfl,e0,-⟩ | ⟨b2,off2,cap2,g0,rfl,g1,g2,g3,g4⟩
    · subst e0;exact absurd (List.length_eq_zero_iff.1 hN2.symm) h0
    · obtain ⟨N,hN⟩:∃ N,Z1.length=N:=⟨_,rfl⟩
      rw [hN] at h1 hl' hN2 ⊢
      rw [hN2] at g1 ⊢
      have HN:=hide hN
      have HN2:=hide hN2
      have H4:=hide h4
      have G4:=hide g4
      have HA:=hide hall
      have HE:=hide hel
      have hlen:((N:Int) != (N:Int))=false:=by simp
      clear hN hN2 h4 g4 hall hel hZ hl h0 g0
      go_enter Try.func31,Try.ntmps31
      go_wp2
      go_loopw [5] (fun i wr=>∃ k:Nat,k<=N/\i=.int .i64 k/\Below w.heap.size w wr) (fun i _=>N - (intOf i).toNat)
      case atStart=>exact ⟨0,Nat.zero_le _,rfl,Below.refl _ _⟩
      case round =>
        obtain ⟨k,hk,rfl,hb⟩:=hrel
        by_cases hlt:k < N
        · have hk1:k < Z1.length:=by rw [HN.out];exact hlt
          have hk2:k < Z2.length:=by rw [HN2.out];exact hlt
          have hbD:=hb.drew
          have hS0:(fun W:World=>W.rangeAt b (off+k * 16) (mgC Z1[k].1 Z1[k].2)/\W.rangeAt b2 (off2+k * 16) (mgC Z2[k].1 Z2[k].2)) wr.drew:=⟨range_below (H4.out k hk1).1 hbD h3,range_below (G4.out k hk2).1 hbD g3⟩
          have HS:Hid (∀ V,Below w.heap.size w V->(V.rangeAt b (off+k * 16) (mgC Z1[k].1 Z1[k].2)/\V.rangeAt b2 (off2+k * 16) (mgC Z2[k].1 Z2[k].2))):=hide (fun V hV=>⟨range_below (H4.out k hk1).1 hV h3,range_below (G4.out k hk2).1 hV g3⟩)
          have HT:=hide (eqMsg_same Z1[k].1 Z1[k].2 Z2[k].2 wr.drew ((H4.out k hk1).2.below hbD (Nat.le_refl _)) (by rw [<- HE.out k hk1 hk2];exact (G4.out k hk2).2.below hbD (Nat.le_refl _)) (HA.out _ (List.mem_map.2 ⟨_,List.getElem_mem hk1,rfl⟩)))
          rw [HE.out k hk1 hk2] at hS0 HS
          rw [show mgV Z1[k].1 Z1[k].2=.agg (mgC Z1[k].1 Z1[k].2).toArray from rfl,show mgV Z1[k].1 Z2[k].2=.agg (mgC Z1[k].1 Z2[k].2).toArray from rfl] at HT
          have Hi1:=hide (show (Try.prog.info? 112).map (·.size)=some (mgC Z1[k].1 Z1[k].2).length from Try.infoEMg)
          have Hi2:=hide (show (Try.prog.info? 112).map (·.size)=some (mgC Z1[k].1 Z2[k].2).length from Try.infoEMg)
          have hli:(k:Int) < (N:Int):=by omega
          have hk0:(0:Int)<=(k:Int):=by omega
          have HB:=hide hb
          have HBD:=hide hbD
          clear hb hbD
          generalize mgC Z1[k].1 Z1[k].2=cs at hS0 HS HT Hi1
          generalize mgC Z1[k].1 Z2[k].2=ds at hS0 HS HT Hi2
          go_wp2
          refine wp_region_held_drew (S:=fun W=>W.rangeAt b (off+k * 16) cs/\W.rangeAt b2 (off2+k * 16) ds) (by kernel_rfl) hS0 (fun hHeld=>?_)
          refine wpAnyH_take (i:=0) (v:=.slice (some ⟨b,off,none⟩) N cap) rfl (by kernel_rfl) (by kernel_rfl) (by kernel_rfl) (fun _ _ _ h=>h) (Or.inl ⟨by rfl,fun W hW=>by go_simp⟩) (by assumption) ?_
          change wpAnyH Try.prog _ _ _ _ _ _ (Act.put _ (some 17) _) _
          simp only [Act.put,List.setIfInBounds_toArray,List.set_cons_zero,List.set_cons_succ]
          refine wpAnyH_take (i:=1) (v:=.int .i64 (k:Int)) rfl (by kernel_rfl) (by kernel_rfl) (by kernel_rfl) (fun _ _ _ h=>h) (Or.inl ⟨by rfl,fun W hW=>by go_simp⟩) (by assumption) ?_
          change wpAnyH Try.prog _ _ _ _ _ _ (Act.put _ (some 18) _) _
          simp only [Act.put,List.setIfInBounds_toArray,List.set_cons_zero,List.set_cons_succ]
          refine wpAnyH_take (i:=2) (v:=.pointer (some ⟨b,off+k * 16,none⟩)) rfl (by kernel_rfl) (by kernel_rfl) (by kernel_rfl) (fun _ _ _ h=>h) (Or.inl ⟨by rfl,fun W hW=>by go_simp⟩) (by assumption) ?_
          change wpAnyH Try.prog _ _ _ _ _ _ (Act.put _ (some 19) _) _
          simp only [Act.put,List.setIfInBounds_toArray,List.set_cons_zero,List.set_cons_succ]
          refine wpAnyH_take (i:=3) (v:=.agg cs.toArray) rfl (by kernel_rfl) (by kernel_rfl) (by kernel_rfl) (fun _ _ _ h=>h) (yieldsIf_load_mid (by rfl) 112 _ rfl b (off+k * 16) rfl cs _ (fun W hW=>hW.1) Try.underlying112 rfl Hi1.out) (by assumption) ?_
          change wpAnyH Try.prog _ _ _ _ _ _ (Act.put _ (some 20) _) _
          simp only [Act.put,List.setIfInBounds_toArray,List.set_cons_zero,List.set_cons_succ]
          refine wpAnyH_take (i:=4) (v:=.slice (some ⟨b2,off2,none⟩) N cap2) rfl (by kernel_rfl) (by kernel_rfl) (by kernel_rfl) (fun _ _ _ h=>h) (Or.inl ⟨by rfl,fun W hW=>by go_simp⟩) (by assumption) ?_
          change wpAnyH Try.prog _ _ _ _ _ _ (Act.put _ (some 21) _) _
          simp only [Act.put,List.setIfInBounds_toArray,List.set_cons_zero,List.set_cons_succ]
          refine wpAnyH_take (i:=5) (v:=.int .i64 (k:Int)) rfl (by kernel_rfl) (by kernel_rfl) (by kernel_rfl) (fun _ _ _ h=>h) (Or.inl ⟨by rfl,fun W hW=>by go_simp⟩) (by assumption) ?_
          change wpAnyH Try.prog _ _ _ _ _ _ (Act.put _ (some 22) _) _
          simp only [Act.put,List.setIfInBounds_toArray,List.set_cons_zero,List.set_cons_succ]
          refine wpAnyH_take (i:=6) (v:=.pointer (some ⟨b2,off2+k * 16,none⟩)) rfl (by kernel_rfl) (by kernel_rfl) (by kernel_rfl) (fun _ _ _ h=>h) (Or.inl ⟨by rfl,fun W hW=>by go_simp⟩) (by assumption) ?_
          change wpAnyH Try.prog _ _ _ _ _ _ (Act.put _ (some 23) _) _
          simp only [Act.put,List.setIfInBounds_toArray,List.set_cons_zero,List.set_cons_succ]
          refine wpAnyH_take (i:=7) (v:=.agg ds.toArray) rfl (by kernel_rfl) (by kernel_rfl) (by kernel_rfl) (fun _ _ _ h=>h) (yieldsIf_load_mid (by rfl) 112 _ rfl b2 (off2+k * 16) rfl ds _ (fun W hW=>hW.2) Try.underlying112 rfl Hi2.out) (by assumption) ?_
          change wpAnyH Try.prog _ _ _ _ _ _ (Act.put _ (some 24) _) _
          simp only [Act.put,List.setIfInBounds_toArray,List.set_cons_zero,List.set_cons_succ]
          refine wpAnyH_ready (rs:=[8]) (by kernel_rfl) (by simp) ?_
          refine AllReadyH.cons rfl (fun K hK=>?_) AllReadyH.nil
          go_simp
          go_wp2_with (go_at_call 47;(with_reducible refine HT.out.mono ?_);rintro e w2 ⟨rfl,hb2⟩;have hB2:=HBD.out.trans (hb2.mono HBD.out.size);have hS2:=HS.out _ hB2)
          refine hK.out _ _ hS2 (fun hHeld=>?_)
          try simp only [Act.put,List.setIfInBounds_toArray,List.set_cons_zero,List.set_cons_succ]
          refine wpAnyH_take (i:=9) (v:=.bool false) rfl (by kernel_rfl) (by kernel_rfl) (by kernel_rfl) (fun _ _ _ h=>h) (Or.inl ⟨by rfl,fun W hW=>by go_simp⟩) (by assumption) ?_
          change wpAnyH Try.prog _ _ _ _ _ _ (Act.put _ (some 26) _) _
          simp only [Act.put,List.setIfInBounds_toArray,List.set_cons_zero,List.set_cons_succ]
          refine wpAnyH_done (by kernel_rfl) ?_ _
          clear hS0 hS2 hb2
          go_wp2
          go_roundw
          case rel=>exact ⟨k+1,by omega,by go_num,hB2⟩
          case measure=>simp [intOf];omega
        · go_wp2
          go_ret
          exact ⟨rfl,hb⟩
end Go.Proofs.Ytfdbedenlbikgaa
