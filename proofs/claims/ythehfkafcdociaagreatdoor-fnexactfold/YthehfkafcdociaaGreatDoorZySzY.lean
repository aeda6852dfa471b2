/- The sizes of lists, each told alike, with what they count. -/
import Derived.Test.YthehfkafcdociaaGreatDoorZyNdEq
set_option maxRecDepth 20000
set_option maxHeartbeats 8000000
namespace Go.Proofs.YthehfkafcdociaaGreatDoor
open Go.RowKit
set_option linter.unusedVariables false
theorem eqMsg_same (p:Mg) (u t:Mv) (w:World) (hr:RdMg w p u) (ht:RdMg w p t) (hf:FewMg p) :
    Calls Tryz.prog 68 #[mgV p u,mgV p t] w fun e w'=>e=.returned (.bool true)/\Below w.heap.size w w':=by
  have hnb:=hf.nb
  have hfb:=hf.fb
  have hnq:=hf.nq
  have hnw:=hf.nw
  have hnh:=hf.nh
  clear hf
  obtain ⟨kd,tn,ep,bs,vr,vb,vw,gr,gh,gw,qr,qb,qw,tr,tw,th⟩:=p
  obtain ⟨yb,yq,yw,yh⟩:=u
  obtain ⟨hyb,hyq,hyw,hyh⟩:=hr
  simp only at *
  obtain ⟨adb,cpb,rfl⟩:=hyb.shape
  obtain ⟨adq,cpq,rfl⟩:=hyq.shape
  obtain ⟨adw,cpw,rfl⟩:=hyw.shape
  obtain ⟨adh,cph,rfl⟩:=hyh.shape
  obtain ⟨zb,zq,zw,zh⟩:=t
  obtain ⟨jyb,jyq,jyw,jyh⟩:=ht
  simp only at *
  obtain ⟨bdb,bpb,rfl⟩:=jyb.shape
  obtain ⟨bdq,bpq,rfl⟩:=jyq.shape
  obtain ⟨bdw,bpw,rfl⟩:=jyw.shape
  obtain ⟨bdh,bph,rfl⟩:=jyh.shape
  have E1:=hide (fun V (hV:Below w.heap.size w V)=>eqBlockS_any (.slice adb bs.length cpb) (.slice bdb bs.length bpb) bs V (hyb.below hV (Nat.le_refl _)) (jyb.below hV (Nat.le_refl _)) hnb hfb)
  have E2:=hide (fun V (hV:Below w.heap.size w V)=>eqVote_same vr vb vw V)
  have E3:=hide (fun V (hV:Below w.heap.size w V)=>eqGone_same gr gh gw V)
  have E4:=hide (fun V (hV:Below w.heap.size w V)=>eqQc_any qr qb (.slice adq qw.length cpq) (.slice bdq qw.length bpq) qw V (hyq.below hV (Nat.le_refl _)) (jyq.below hV (Nat.le_refl _)) hnq)
  have E5:=hide (fun V (hV:Below w.heap.size w V)=>eqTc_any tr (.slice adw tw.length cpw) (.slice adh th.length cph) (.slice bdw tw.length bpw) (.slice bdh th.length bph) tw th V (hyw.below hV (Nat.le_refl _)) (hyh.below hV (Nat.le_refl _)) (jyw.below hV (Nat.le_refl _)) (jyh.below hV (Nat.le_refl _)) hnw hnh)
  clear hyb hyq hyw hyh jyb jyq jyw jyh
  clear hfb
  simp only [mgV,qcV,tcV] at *
  obtain ⟨S0,hS0⟩:∃ x,(w.alloc (.cells #[.int .i64 kd,.string tn,.int .i64 ep,.slice adb bs.length cpb,.int .i64 vr,.int .i64 vb,.string vw,.int .i64 gr,.int .i64 gh,.string gw,.int .i64 qr,.int .i64 qb,.slice adq qw.length cpq,.int .i64 tr,.slice adw tw.length cpw,.slice adh th.length cph] 138)).alloc (.cells #[.int .i64 kd,.string tn,.int .i64 ep,.slice bdb bs.length bpb,.int .i64 vr,.int .i64 vb,.string vw,.int .i64 gr,.int .i64 gh,.string gw,.int .i64 qr,.int .i64 qb,.slice bdq qw.length bpq,.int .i64 tr,.slice bdw tw.length bpw,.slice bdh th.length bph] 138)=x:=⟨_,rfl⟩
  have kA0:Blk S0 w.heap.size 138 [.int .i64 kd,.string tn,.int .i64 ep,.slice adb bs.length cpb,.int .i64 vr,.int .i64 vb,.string vw,.int .i64 gr,.int .i64 gh,.string gw,.int .i64 qr,.int .i64 qb,.slice adq qw.length cpq,.int .i64 tr,.slice adw tw.length cpw,.slice adh th.length cph]:=by rw [<- hS0];exact (Blk.new w _ _).below ((Below.refl (w.heap.size+1) _).alloc (by simp) _) (by omega)
  have kB0:Blk S0 (w.heap.size+1) 138 [.int .i64 kd,.string tn,.int .i64 ep,.slice bdb bs.length bpb,.int .i64 vr,.int .i64 vb,.string vw,.int .i64 gr,.int .i64 gh,.string gw,.int .i64 qr,.int .i64 qb,.slice bdq qw.length bpq,.int .i64 tr,.slice bdw tw.length bpw,.slice bdh th.length bph]:=by rw [<- hS0];exact Blk.newR _ _ [.int .i64 kd,.string tn,.int .i64 ep,.slice bdb bs.length bpb,.int .i64 vr,.int .i64 vb,.string vw,.int .i64 gr,.int .i64 gh,.string gw,.int .i64 qr,.int .i64 qb,.slice bdq qw.length bpq,.int .i64 tr,.slice bdw tw.length bpw,.slice bdh th.length bph] _ (by simp)
  have b0:Below w.heap.size w S0:=by rw [<- hS0];exact ((Below.refl _ w).alloc (Nat.le_refl _) _).alloc (by simp) _
  have x0:=kA0.cell 0
  have x1:=kA0.cell 1
  have x2:=kA0.cell 2
  have x3:=kA0.cell 3
  simp only [List.getElem?_cons_zero,List.getElem?_cons_succ] at x0 x1 x2 x3
  have y0:=kB0.cell 0
  have y1:=kB0.cell 1
  have y2:=kB0.cell 2
  have y3:=kB0.cell 3
  simp only [List.getElem?_cons_zero,List.getElem?_cons_succ] at y0 y1 y2 y3
  have KA0:=hide kA0
  have KB0:=hide kB0
  clear kA0 kB0
  go_enter Tryz.func68,Tryz.ntmps68
  go_wp2_with fail
  (try rw [hS0])
  clear hS0
  refine (E1.out _ b0).mono ?_
  rintro e w1 ⟨rfl,hb1⟩
  have b1:=b0.trans (hb1.mono b0.size)
  have kA1:=KA0.out.below hb1 KA0.out.lt
  have kB1:=KB0.out.below hb1 KB0.out.lt
  clear x0 x1 x2 x3 y0 y1 y2 y3 KA0 KB0 b0 hb1 E1
  have x4:=kA1.cell 4
  have x5:=kA1.cell 5
  have x6:=kA1.cell 6
  simp only [List.getElem?_cons_zero,List.getElem?_cons_succ] at x4 x5 x6
  have y4:=kB1.cell 4
  have y5:=kB1.cell 5
  have y6:=kB1.cell 6
  simp only [List.getElem?_cons_zero,List.getElem?_cons_succ] at y4 y5 y6
  have KA1:=hide kA1
  have KB1:=hide kB1
  clear kA1 kB1
  go_wp2_with fail
  refine (E2.out _ b1).mono ?_
  rintro e w2 ⟨rfl,hb2⟩
  have b2:=b1.trans (hb2.mono b1.size)
  have kA2:=KA1.out.below hb2 KA1.out.lt
  have kB2:=KB1.out.below hb2 KB1.out.lt
  clear x4 x5 x6 y4 y5 y6 KA1 KB1 b1 hb2 E2
  have x7:=kA2.cell 7
  have x8:=kA2.cell 8
  have x9:=kA2.cell 9
  simp only [List.getElem?_cons_zero,List.getElem?_cons_succ] at x7 x8 x9
  have y7:=kB2.cell 7
  have y8:=kB2.cell 8
  have y9:=kB2.cell 9
  simp only [List.getElem?_cons_zero,List.getElem?_cons_succ] at y7 y8 y9
  have KA2:=hide kA2
  have KB2:=hide kB2
  clear kA2 kB2
  go_wp2_with fail
  refine (E3.out _ b2).mono ?_
  rintro e w3 ⟨rfl,hb3⟩
  have b3:=b2.trans (hb3.mono b2.size)
  have kA3:=KA2.out.below hb3 KA2.out.lt
  have kB3:=KB2.out.below hb3 KB2.out.lt
  clear x7 x8 x9 y7 y8 y9 KA2 KB2 b2 hb3 E3
  have x10:=kA3.cell 10
  have x11:=kA3.cell 11
  have x12:=kA3.cell 12
  simp only [List.getElem?_cons_zero,List.getElem?_cons_succ] at x10 x11 x12
  have y10:=kB3.cell 10
  have y11:=kB3.cell 11
  have y12:=kB3.cell 12
  simp only [List.getElem?_cons_zero,List.getElem?_cons_succ] at y10 y11 y12
  have KA3:=hide kA3
  have KB3:=hide kB3
  clear kA3 kB3
  go_wp2_with fail
  refine (E4.out _ b3).mono ?_
  rintro e w4 ⟨rfl,hb4⟩
  have b4:=b3.trans (hb4.mono b3.size)
  have kA4:=KA3.out.below hb4 KA3.out.lt
  have kB4:=KB3.out.below hb4 KB3.out.lt
  clear x10 x11 x12 y10 y11 y12 KA3 KB3 b3 hb4 E4
  have x13:=kA4.cell 13
  have x14:=kA4.cell 14
  have x15:=kA4.cell 15
  simp only [List.getElem?_cons_zero,List.getElem?_cons_succ] at x13 x14 x15
  have y13:=kB4.cell 13
  have y14:=kB4.cell 14
  have y15:=kB4.cell 15
  simp only [List.getElem?_cons_zero,List.getElem?_cons_succ] at y13 y14 y15
  have KA4:=hide kA4
  have KB4:=hide kB4
  clear kA4 kB4
  go_wp2_with fail
  refine (E5.out _ b4).mono ?_
  rintro e w5 ⟨rfl,hb5⟩
  have b5:=b4.trans (hb5.mono b4.size)
  have kA5:=KA4.out.below hb5 KA4.out.lt
  have kB5:=KB4.out.below hb5 KB4.out.lt
  clear x13 x14 x15 y13 y14 y15 KA4 KB4 b4 hb5 E5
  clear kA5 kB5
  go_wp2
  go_ret
  exact ⟨rfl,b5⟩
theorem Tryz.infoEMg:(Tryz.prog.info? 138).map (·.size)=some 16:=by kernel_rfl
theorem eqMsgS_any (v1 v2:Value) (l:List Mg) (w:World) (hr1:RdMs w v1 l) (hr2:RdMs w v2 l) (hl:l.length<=4000000) (hall:∀ a ∈ l,FewMg a) :
    Calls Tryz.prog 39 #[v1,v2] w fun e w'=>e=.returned (.bool true)/\Below w.heap.size w w':=by
  obtain ⟨Z1,rfl,hr1⟩:=hr1
  obtain ⟨Z2,hZ,hr2⟩:=hr2
  have hl':Z1.length<=4000000:=by simpa using hl
  have hN2:Z2.length=Z1.length:=by have:=congrArg List.length hZ;simpa using this
  have hel:∀ i (h1:i < Z1.length) (h2:i < Z2.length),Z2[i].1=Z1[i].1:=fun i h1 h2=>by
    have:=List.getElem_of_eq hZ (show i < (Z2.map (·.1)).length by simpa using h2)
    simpa using this
  rcases hr1 with ⟨a,cap,rfl,rfl,-⟩ | ⟨b,off,cap,h0,rfl,h1,h2,h3,h4⟩
  · obtain ⟨a2,cap2,rfl⟩:=hr2.shape
    rw [hN2]
    clear hr2 hel hN2 hZ
    go_enter Tryz.func39,Tryz.ntmps39
    go_wp2
    refine wp_loop_rounds 1 ?_
    rw [rounds_succ]
    go_wp2
    go_ret
    exact ⟨rfl,Below.refl _ _⟩
  · rcases hr2 with ⟨a2,cap2,rfl,e0,-⟩ | ⟨b2,off2,cap2,g0,rfl,g1,g2,g3,g4⟩
    · subst e0;exact absurd (List.length_eq_zero_iff.1 hN2.symm) h0
    · obtain ⟨N,hN⟩:∃ N,Z1.length=N:=⟨_,rfl⟩
      rw [hN] at h1 hl' hN2 ⊢
      rw [hN2] at g1 ⊢
      have HN:=hide hN
      have HN2:=hide hN2
      have H4:=hide h4
      have G4:=hide g4
      have HA:=hide hall
      have HE:=hide hel
      have hlen:((N:Int) != (N:Int))=false:=by simp
      clear hN hN2 h4 g4 hall hel hZ hl h0 g0
      go_enter Tryz.func39,Tryz.ntmps39
      go_wp2
      go_loopw [5] (fun i wr=>∃ k:Nat,k<=N/\i=.int .i64 k/\Below w.heap.size w wr) (fun i _=>N - (intOf i).toNat)
      case atStart=>exact ⟨0,Nat.zero_le _,rfl,Below.refl _ _⟩
      case round =>
        obtain ⟨k,hk,rfl,hb⟩:=hrel
        by_cases hlt:k < N
        · have hk1:k < Z1.length:=by rw [HN.out];exact hlt
          have hk2:k < Z2.length:=by rw [HN2.out];exact hlt
          have hbD:=hb.drew
          have hS0:(fun W:World=>W.rangeAt b (off+k * 16) (mgC Z1[k].1 Z1[k].2)/\W.rangeAt b2 (off2+k * 16) (mgC Z2[k].1 Z2[k].2)) wr.drew:=⟨range_below (H4.out k hk1).1 hbD h3,range_below (G4.out k hk2).1 hbD g3⟩
          have HS:Hid (∀ V,Below w.heap.size w V->(V.rangeAt b (off+k * 16) (mgC Z1[k].1 Z1[k].2)/\V.rangeAt b2 (off2+k * 16) (mgC Z2[k].1 Z2[k].2))):=hide (fun V hV=>⟨range_below (H4.out k hk1).1 hV h3,range_below (G4.out k hk2).1 hV g3⟩)
          have HT:=hide (eqMsg_same Z1[k].1 Z1[k].2 Z2[k].2 wr.drew ((H4.out k hk1).2.below hbD (Nat.le_refl _)) (by rw [<- HE.out k hk1 hk2];exact (G4.out k hk2).2.below hbD (Nat.le_refl _)) (HA.out _ (List.mem_map.2 ⟨_,List.getElem_mem hk1,rfl⟩)))
          rw [HE.out k hk1 hk2] at hS0 HS
          rw [show mgV Z1[k].1 Z1[k].2=.agg (mgC Z1[k].1 Z1[k].2).toArray from rfl,show mgV Z1[k].1 Z2[k].2=.agg (mgC Z1[k].1 Z2[k].2).toArray from rfl] at HT
          have Hi1:=hide (show (Tryz.prog.info? 138).map (·.size)=some (mgC Z1[k].1 Z1[k].2).length from Tryz.infoEMg)
          have Hi2:=hide (show (Tryz.prog.info? 138).map (·.size)=some (mgC Z1[k].1 Z2[k].2).length from Tryz.infoEMg)
          have hli:(k:Int) < (N:Int):=by omega
          have hk0:(0:Int)<=(k:Int):=by omega
          have HB:=hide hb
          have HBD:=hide hbD
          clear hb hbD
          generalize mgC Z1[k].1 Z1[k].2=cs at hS0 HS HT Hi1
          generalize mgC Z1[k].1 Z2[k].2=ds at hS0 HS HT Hi2
          go_wp2
          refine wp_region_held_drew (S:=fun W=>W.rangeAt b (off+k * 16) cs/\W.rangeAt b2 (off2+k * 16) ds) (by kernel_rfl) hS0 (fun hHeld=>?_)
          refine wpAnyH_take (i:=0) (v:=.slice (some ⟨b,off,none⟩) N cap) rfl (by kernel_rfl) (by kernel_rfl) (by kernel_rfl) (fun _ _ _ h=>h) (Or.inl ⟨by rfl,fun W hW=>by go_simp⟩) (by assumption) ?_
          change wpAnyH Tryz.prog _ _ _ _ _ _ (Act.put _ (some 17) _) _
          simp only [Act.put,List.setIfInBounds_toArray,List.set_cons_zero,List.set_cons_succ]
          refine wpAnyH_take (i:=1) (v:=.int .i64 (k:Int)) rfl (by kernel_rfl) (by kernel_rfl) (by kernel_rfl) (fun _ _ _ h=>h) (Or.inl ⟨by rfl,fun W hW=>by go_simp⟩) (by assumption) ?_
          change wpAnyH Tryz.prog _ _ _ _ _ _ (Act.put _ (some 18) _) _
          simp only [Act.put,List.setIfInBounds_toArray,List.set_cons_zero,List.set_cons_succ]
          refine wpAnyH_take (i:=2) (v:=.pointer (some ⟨b,off+k * 16,none⟩)) rfl (by kernel_rfl) (by kernel_rfl) (by kernel_rfl) (fun _ _ _ h=>h) (Or.inl ⟨by rfl,fun W hW=>by go_simp⟩) (by assumption) ?_
          change wpAnyH Tryz.prog _ _ _ _ _ _ (Act.put _ (some 19) _) _
          simp only [Act.put,List.setIfInBounds_toArray,List.set_cons_zero,List.set_cons_succ]
          refine wpAnyH_take (i:=3) (v:=.agg cs.toArray) rfl (by kernel_rfl) (by kernel_rfl) (by kernel_rfl) (fun _ _ _ h=>h) (yieldsIf_load_mid (by rfl) 138 _ rfl b (off+k * 16) rfl cs _ (fun W hW=>hW.1) Tryz.underlying138 rfl Hi1.out) (by assumption) ?_
          change wpAnyH Tryz.prog _ _ _ _ _ _ (Act.put _ (some 20) _) _
          simp only [Act.put,List.setIfInBounds_toArray,List.set_cons_zero,List.set_cons_succ]
          refine wpAnyH_take (i:=4) (v:=.slice (some ⟨b2,off2,none⟩) N cap2) rfl (by kernel_rfl) (by kernel_rfl) (by kernel_rfl) (fun _ _ _ h=>h) (Or.inl ⟨by rfl,fun W hW=>by go_simp⟩) (by assumption) ?_
          change wpAnyH Tryz.prog _ _ _ _ _ _ (Act.put _ (some 21) _) _
          simp only [Act.put,List.setIfInBounds_toArray,List.set_cons_zero,List.set_cons_succ]
          refine wpAnyH_take (i:=5) (v:=.int .i64 (k:Int)) rfl (by kernel_rfl) (by kernel_rfl) (by kernel_rfl) (fun _ _ _ h=>h) (Or.inl ⟨by rfl,fun W hW=>by go_simp⟩) (by assumption) ?_
          change wpAnyH Tryz.prog _ _ _ _ _ _ (Act.put _ (some 22) _) _
          simp only [Act.put,List.setIfInBounds_toArray,List.set_cons_zero,List.set_cons_succ]
          refine wpAnyH_take (i:=6) (v:=.pointer (some ⟨b2,off2+k * 16,none⟩)) rfl (by kernel_rfl) (by kernel_rfl) (by kernel_rfl) (fun _ _ _ h=>h) (Or.inl ⟨by rfl,fun W hW=>by go_simp⟩) (by assumption) ?_
          change wpAnyH Tryz.prog _ _ _ _ _ _ (Act.put _ (some 23) _) _
          simp only [Act.put,List.setIfInBounds_toArray,List.set_cons_zero,List.set_cons_succ]
          refine wpAnyH_take (i:=7) (v:=.agg ds.toArray) rfl (by kernel_rfl) (by kernel_rfl) (by kernel_rfl) (fun _ _ _ h=>h) (yieldsIf_load_mid (by rfl) 138 _ rfl b2 (off2+k * 16) rfl ds _ (fun W hW=>hW.2) Tryz.underlying138 rfl Hi2.out) (by assumption) ?_
          change wpAnyH Tryz.prog _ _ _ _ _ _ (Act.put _ (some 24) _) _
          simp only [Act.put,List.setIfInBounds_toArray,List.set_cons_zero,List.set_cons_succ]
          refine wpAnyH_ready (rs:=[8]) (by kernel_rfl) (by simp) ?_
          refine AllReadyH.cons rfl (fun K hK=>?_) AllReadyH.nil
          go_simp
          go_wp2_with (go_at_call 68;(with_reducible refine HT.out.mono ?_);rintro e w2 ⟨rfl,hb2⟩;have hB2:=HBD.out.trans (hb2.mono HBD.out.size);have hS2:=HS.out _ hB2)
          refine hK.out _ _ hS2 (fun hHeld=>?_)
          try simp only [Act.put,List.setIfInBounds_toArray,List.set_cons_zero,List.set_cons_succ]
          refine wpAnyH_take (i:=9) (v:=.bool false) rfl (by kernel_rfl) (by kernel_rfl) (by kernel_rfl) (fun _ _ _ h=>h) (Or.inl ⟨by rfl,fun W hW=>by go_simp⟩) (by assumption) ?_
          change wpAnyH Tryz.prog _ _ _ _ _ _ (Act.put _ (some 26) _) _
          simp only [Act.put,List.setIfInBounds_toArray,List.set_cons_zero,List.set_cons_succ]
          refine wpAnyH_done (by kernel_rfl) ?_ _
          clear hS0 hS2 hb2
          go_wp2
          go_roundw
          case rel=>exact ⟨k+1,by omega,by go_num,hB2⟩
          case measure=>simp [intOf];omega
        · go_wp2
          go_ret
          exact ⟨rfl,hb⟩
theorem eqWorld_same (p:Wd) (u t:Wv) (w:World) (hr:RdWd w p u) (ht:RdWd w p t) (hf:FewWd p) :
    Calls Tryz.prog 10 #[wdV p u,wdV p t] w fun e w'=>e=.returned (.bool true)/\Below w.heap.size w w':=by
  have hna:=hf.na
  have hfa:=hf.fa
  have hnf:=hf.nf
  have hnn:=hf.nn
  have hfn:=hf.fn
  have hnb:=hf.nb
  have hfb:=hf.fb
  have hns:=hf.ns
  have hfs:=hf.fs
  have hnm:=hf.nm
  have hfm:=hf.fm
  clear hf
  obtain ⟨ep,la,fo,ns,bs,sg,ms⟩:=p
  obtain ⟨ya,yf,yn,yb,ys,ym⟩:=u
  obtain ⟨hya,hyf,hyn,hyb,hys,hym⟩:=hr
  simp only at *
  obtain ⟨ada,cpa,rfl⟩:=hya.shape
  obtain ⟨adf,cpf,rfl⟩:=hyf.shape
  obtain ⟨adn,cpn,rfl⟩:=hyn.shape
  obtain ⟨adb,cpb,rfl⟩:=hyb.shape
  obtain ⟨ads,cps,rfl⟩:=hys.shape
  obtain ⟨adm,cpm,rfl⟩:=hym.shape
  obtain ⟨za,zf,zn,zb,zs,zm⟩:=t
  obtain ⟨jya,jyf,jyn,jyb,jys,jym⟩:=ht
  simp only at *
  obtain ⟨bda,bpa,rfl⟩:=jya.shape
  obtain ⟨bdf,bpf,rfl⟩:=jyf.shape
  obtain ⟨bdn,bpn,rfl⟩:=jyn.shape
  obtain ⟨bdb,bpb,rfl⟩:=jyb.shape
  obtain ⟨bds,bps,rfl⟩:=jys.shape
  obtain ⟨bdm,bpm,rfl⟩:=jym.shape
  have E1:=hide (fun V (hV:Below w.heap.size w V)=>equLedger ep (.slice ada la.length cpa) (.slice bda la.length bpa) la V (hya.below hV (Nat.le_refl _)) (jya.below hV (Nat.le_refl _)) hna hfa)
  have E2:=hide (fun V (hV:Below w.heap.size w V)=>equString (.slice adf fo.length cpf) (.slice bdf fo.length bpf) fo V (hyf.below hV (Nat.le_refl _)) (jyf.below hV (Nat.le_refl _)) hnf)
  have E3:=hide (fun V (hV:Below w.heap.size w V)=>eqNodeS_any (.slice adn ns.length cpn) (.slice bdn ns.length bpn) ns V (hyn.below hV (Nat.le_refl _)) (jyn.below hV (Nat.le_refl _)) hnn hfn)
  have E4:=hide (fun V (hV:Below w.heap.size w V)=>eqBlockS_any (.slice adb bs.length cpb) (.slice bdb bs.length bpb) bs V (hyb.below hV (Nat.le_refl _)) (jyb.below hV (Nat.le_refl _)) hnb hfb)
  have E5:=hide (fun V (hV:Below w.heap.size w V)=>eqSigS_any (.slice ads sg.length cps) (.slice bds sg.length bps) sg V (hys.below hV (Nat.le_refl _)) (jys.below hV (Nat.le_refl _)) hns hfs)
  have E6:=hide (fun V (hV:Below w.heap.size w V)=>eqMsgS_any (.slice adm ms.length cpm) (.slice bdm ms.length bpm) ms V (hym.below hV (Nat.le_refl _)) (jym.below hV (Nat.le_refl _)) hnm hfm)
  clear hya hyf hyn hyb hys hym jya jyf jyn jyb jys jym
  clear hfa
  clear hfn
  clear hfb
  clear hfs
  clear hfm
  simp only [wdV,lgV] at *
  obtain ⟨S0,hS0⟩:∃ x,(w.alloc (.cells #[.int .i64 ep,.slice ada la.length cpa,.slice adf fo.length cpf,.slice adn ns.length cpn,.slice adb bs.length cpb,.slice ads sg.length cps,.slice adm ms.length cpm] 44)).alloc (.cells #[.int .i64 ep,.slice bda la.length bpa,.slice bdf fo.length bpf,.slice bdn ns.length bpn,.slice bdb bs.length bpb,.slice bds sg.length bps,.slice bdm ms.length bpm] 44)=x:=⟨_,rfl⟩
  have kA0:Blk S0 w.heap.size 44 [.int .i64 ep,.slice ada la.length cpa,.slice adf fo.length cpf,.slice adn ns.length cpn,.slice adb bs.length cpb,.slice ads sg.length cps,.slice adm ms.length cpm]:=by rw [<- hS0];exact (Blk.new w _ _).below ((Below.refl (w.heap.size+1) _).alloc (by simp) _) (by omega)
  have kB0:Blk S0 (w.heap.size+1) 44 [.int .i64 ep,.slice bda la.length bpa,.slice bdf fo.length bpf,.slice bdn ns.length bpn,.slice bdb bs.length bpb,.slice bds sg.length bps,.slice bdm ms.length bpm]:=by rw [<- hS0];exact Blk.newR _ _ [.int .i64 ep,.slice bda la.length bpa,.slice bdf fo.length bpf,.slice bdn ns.length bpn,.slice bdb bs.length bpb,.slice bds sg.length bps,.slice bdm ms.length bpm] _ (by simp)
  have b0:Below w.heap.size w S0:=by rw [<- hS0];exact ((Below.refl _ w).alloc (Nat.le_refl _) _).alloc (by simp) _
  have x0:=kA0.cell 0
  have x1:=kA0.cell 1
  simp only [List.getElem?_cons_zero,List.getElem?_cons_succ] at x0 x1
  have y0:=kB0.cell 0
  have y1:=kB0.cell 1
  simp only [List.getElem?_cons_zero,List.getElem?_cons_succ] at y0 y1
  have KA0:=hide kA0
  have KB0:=hide kB0
  clear kA0 kB0
  go_enter Tryz.func10,Tryz.ntmps10
  go_wp2_with fail
  (try rw [hS0])
  clear hS0
  refine (E1.out _ b0).mono ?_
  rintro e w1 ⟨rfl,hb1⟩
  have b1:=b0.trans (hb1.mono b0.size)
  have kA1:=KA0.out.below hb1 KA0.out.lt
  have kB1:=KB0.out.below hb1 KB0.out.lt
  clear x0 x1 y0 y1 KA0 KB0 b0 hb1 E1
  have x2:=kA1.cell 2
  simp only [List.getElem?_cons_zero,List.getElem?_cons_succ] at x2
  have y2:=kB1.cell 2
  simp only [List.getElem?_cons_zero,List.getElem?_cons_succ] at y2
  have KA1:=hide kA1
  have KB1:=hide kB1
  clear kA1 kB1
  go_wp2_with fail
  refine (E2.out _ b1).mono ?_
  rintro e w2 ⟨rfl,hb2⟩
  have b2:=b1.trans (hb2.mono b1.size)
  have kA2:=KA1.out.below hb2 KA1.out.lt
  have kB2:=KB1.out.below hb2 KB1.out.lt
  clear x2 y2 KA1 KB1 b1 hb2 E2
  have x3:=kA2.cell 3
  simp only [List.getElem?_cons_zero,List.getElem?_cons_succ] at x3
  have y3:=kB2.cell 3
  simp only [List.getElem?_cons_zero,List.getElem?_cons_succ] at y3
  have KA2:=hide kA2
  have KB2:=hide kB2
  clear kA2 kB2
  go_wp2_with fail
  refine (E3.out _ b2).mono ?_
  rintro e w3 ⟨rfl,hb3⟩
  have b3:=b2.trans (hb3.mono b2.size)
  have kA3:=KA2.out.below hb3 KA2.out.lt
  have kB3:=KB2.out.below hb3 KB2.out.lt
  clear x3 y3 KA2 KB2 b2 hb3 E3
  have x4:=kA3.cell 4
  simp only [List.getElem?_cons_zero,List.getElem?_cons_succ] at x4
  have y4:=kB3.cell 4
  simp only [List.getElem?_cons_zero,List.getElem?_cons_succ] at y4
  have KA3:=hide kA3
  have KB3:=hide kB3
  clear kA3 kB3
  go_wp2_with fail
  refine (E4.out _ b3).mono ?_
  rintro e w4 ⟨rfl,hb4⟩
  have b4:=b3.trans (hb4.mono b3.size)
  have kA4:=KA3.out.below hb4 KA3.out.lt
  have kB4:=KB3.out.below hb4 KB3.out.lt
  clear x4 y4 KA3 KB3 b3 hb4 E4
  have x5:=kA4.cell 5
  simp only [List.getElem?_cons_zero,List.getElem?_cons_succ] at x5
  have y5:=kB4.cell 5
  simp only [List.getElem?_cons_zero,List.getElem?_cons_succ] at y5
  have KA4:=hide kA4
  have KB4:=hide kB4
  clear kA4 kB4
  go_wp2_with fail
  refine (E5.out _ b4).mono ?_
  rintro e w5 ⟨rfl,hb5⟩
  have b5:=b4.trans (hb5.mono b4.size)
  have kA5:=KA4.out.below hb5 KA4.out.lt
  have kB5:=KB4.out.below hb5 KB4.out.lt
  clear x5 y5 KA4 KB4 b4 hb5 E5
  have x6:=kA5.cell 6
  simp only [List.getElem?_cons_zero,List.getElem?_cons_succ] at x6
  have y6:=kB5.cell 6
  simp only [List.getElem?_cons_zero,List.getElem?_cons_succ] at y6
  have KA5:=hide kA5
  have KB5:=hide kB5
  clear kA5 kB5
  go_wp2_with fail
  refine (E6.out _ b5).mono ?_
  rintro e w6 ⟨rfl,hb6⟩
  have b6:=b5.trans (hb6.mono b5.size)
  have kA6:=KA5.out.below hb6 KA5.out.lt
  have kB6:=KB5.out.below hb6 KB5.out.lt
  clear x6 y6 KA5 KB5 b5 hb6 E6
  clear kA6 kB6
  go_wp2
  go_ret
  exact ⟨rfl,b6⟩
theorem szAcctN_any (v:Value) (l:List Ac) (m:Nat) (w:World) (hr:RdA w v l) (hm:m<=100000000) (hl:l.length<=9223372036854775807) (hs:∀ a ∈ l,a.1.size<=9223372036854775807/\a.2.2.2.2.length<=9223372036854775807) :
    Calls Tryz.prog 47 #[v,.int .i64 (m:Int)] w fun e w'=>∃ r:Int,e=.returned (.int .i64 r)/\(0<=r->((l.length+totA l:Nat):Int)+r<=(m:Int))/\Below w.heap.size w w':=by
  by_cases hn:m < l.length
  · obtain ⟨a,cap,rfl⟩:=hr.shape
    clear hr hs
    go_enter Tryz.func47,Tryz.ntmps47
    go_wp2
    go_ret
    exact ⟨_,rfl,fun h=>by omega,Below.refl _ _⟩
  · rcases hr with ⟨a,cap,rfl,rfl,-⟩ | ⟨b,off,cap,h0,rfl,h1,h2,h3,h4⟩
    · go_enter Tryz.func47,Tryz.ntmps47
      go_wp2
      refine wp_loop_rounds 1 ?_
      rw [rounds_succ]
      go_wp2
      go_ret
      exact ⟨_,rfl,fun _=>by simp [totA],Below.refl _ _⟩
    · have Hs:=hide hs
      have H4:=hide h4
      clear hs h4
      go_enter Tryz.func47,Tryz.ntmps47
      go_wp2
      go_loopw [1,5] (fun mv iv wr=>∃ k r:Nat,k<=l.length/\iv=.int .i64 (k:Int)/\mv=.int .i64 (r:Int)/\l.length+totA (l.take k)+r=m/\Below w.heap.size w wr) (fun _ iv _=>l.length - (intOf iv).toNat)
      case atStart=>exact ⟨0,m - l.length,Nat.zero_le _,rfl,by go_num,by simp [totA];omega,Below.refl _ _⟩
      case round =>
        obtain ⟨k,r,hk,rfl,rfl,hrem,hb⟩:=hrel
        have Hrem:=hide hrem
        have hrm:r<=m:=by omega
        clear hrem
        by_cases hlt:k < l.length
        · obtain ⟨lv,hat,hrl⟩:=H4.out k hlt
          obtain ⟨c0,c1,c2,c3,c4⟩:=hat.below hb h3
          have hsz:=Hs.out l[k] (List.getElem_mem hlt)
          have Hsn:=hide (totA_snoc l k hlt)
          have HZ:=hide (szAcct_any l[k] lv (r:Int) wr (hrl.below hb (Nat.le_refl _)) (by omega) (by omega) hsz.1 hsz.2)
          have hshape:=hrl.shape
          have hli:(k:Int) < (l.length:Int):=by omega
          by_cases hfit:wgA l[k]<=r
          · rw [szAc_fit _ _ hfit] at HZ
            obtain ⟨q,hq⟩:∃ q,r - wgA l[k]=q:=⟨_,rfl⟩
            have Hq:Hid (wgA l[k]+q=r):=hide (by omega)
            rw [hq] at HZ
            clear hfit hsz hrl hat hq
            generalize l[k]=ak at c0 c1 c2 c3 HZ hshape Hsn Hq
            obtain ⟨nm,fr,no,st,ls⟩:=ak
            obtain ⟨av,cv,rfl⟩:=hshape
            simp only [acV] at c0 c1 c2 c3 HZ
            go_wp2_with (go_at_call 77;refine HZ.out.mono ?_;rintro e w2 ⟨rfl,hb2⟩)
            go_roundw
            case rel=>exact ⟨k+1,q,by omega,by go_num,rfl,by rw [Hsn.out];have:=Hrem.out;have:=Hq.out;omega,hb.trans (hb2.mono hb.size)⟩
            case measure=>simp [intOf];omega
          · rw [szAc_not _ _ hfit] at HZ
            clear hfit hsz hrl hat
            generalize l[k]=ak at c0 c1 c2 c3 HZ hshape Hsn
            obtain ⟨nm,fr,no,st,ls⟩:=ak
            obtain ⟨av,cv,rfl⟩:=hshape
            simp only [acV] at c0 c1 c2 c3 HZ
            go_wp2_with (go_at_call 77;refine HZ.out.mono ?_;rintro e w2 ⟨rfl,hb2⟩)
            go_ret
            exact ⟨_,rfl,fun h=>by omega,hb.trans (hb2.mono hb.size)⟩
        · have hf:Hid (((l.length+totA l:Nat):Int)+(r:Int)<=(m:Int)):=hide (by
            have h:=Hrem.out
            rw [List.take_of_length_le (by omega)] at h
            omega)
          go_wp2
          go_ret
          exact ⟨_,rfl,fun _=>hf.out,hb⟩
theorem szLedgerN_any (e:Int) (v:Value) (l:List Ac) (m:Nat) (w:World) (hr:RdA w v l) (hm:m<=100000000) (hl:l.length<=9223372036854775807) (hs:∀ a ∈ l,a.1.size<=9223372036854775807/\a.2.2.2.2.length<=9223372036854775807) :
    Calls Tryz.prog 16 #[lgV e v,.int .i64 (m:Int)] w fun en w'=>∃ r:Int,en=.returned (.int .i64 r)/\(0<=r->((l.length+totA l:Nat):Int)+r<=(m:Int))/\Below w.heap.size w w':=by
  obtain ⟨a1,cv1,rfl⟩:=hr.shape
  simp only [lgV] at *
  have hb3:Below w.heap.size w (w.alloc (.cells #[.int .i64 e,.slice a1 l.length cv1] 24)):=(Below.refl _ w).alloc (Nat.le_refl _) _
  have HE:=hide (szAcctN_any _ l m _ (hr.below hb3 (Nat.le_refl _)) hm hl hs)
  have Hb3:=hide hb3
  clear hb3 hr
  go_enter Tryz.func16,Tryz.ntmps16
  go_wp2_with fail
  refine HE.out.mono ?_
  rintro en w3 ⟨r,rfl,hr3,hb3⟩
  have HB:=hide (Hb3.out.trans (hb3.mono Hb3.out.size))
  have HR:=hide hr3
  clear hb3 Hb3 HE hr3
  by_cases h:r < 0
  · go_wp2
    go_ret
    exact ⟨-1,rfl,by omega,HB.out⟩
  · go_wp2
    go_ret
    exact ⟨r,rfl,HR.out,HB.out⟩
theorem szVoteN_any (v:Value) (l:List Tr) (m:Nat) (w:World) (hr:RdR w v l) (hm:m<=100000000) (hl:l.length<=9223372036854775807) (hs:∀ a ∈ l,a.2.2.size<=9223372036854775807) :
    Calls Tryz.prog 81 #[v,.int .i64 (m:Int)] w fun e w'=>∃ r:Int,e=.returned (.int .i64 r)/\(0<=r->((l.length+totVote l:Nat):Int)+r<=(m:Int))/\Below w.heap.size w w':=by
  by_cases hn:m < l.length
  · obtain ⟨a,cap,rfl⟩:=hr.shape
    clear hr hs
    go_enter Tryz.func81,Tryz.ntmps81
    go_wp2
    go_ret
    exact ⟨_,rfl,fun h=>by omega,Below.refl _ _⟩
  · rcases hr with ⟨a,cap,rfl,rfl,-⟩ | ⟨b,off,cap,h0,rfl,h1,h2,h3,h4⟩
    · go_enter Tryz.func81,Tryz.ntmps81
      go_wp2
      refine wp_loop_rounds 1 ?_
      rw [rounds_succ]
      go_wp2
      go_ret
      exact ⟨_,rfl,fun _=>by simp [totVote],Below.refl _ _⟩
    · have Hs:=hide hs
      have H4:=hide h4
      clear hs h4
      go_enter Tryz.func81,Tryz.ntmps81
      go_wp2
      go_loopw [1,5] (fun mv iv wr=>∃ k r:Nat,k<=l.length/\iv=.int .i64 (k:Int)/\mv=.int .i64 (r:Int)/\l.length+totVote (l.take k)+r=m/\Below w.heap.size w wr) (fun _ iv _=>l.length - (intOf iv).toNat)
      case atStart=>exact ⟨0,m - l.length,Nat.zero_le _,rfl,by go_num,by simp [totVote];omega,Below.refl _ _⟩
      case round =>
        obtain ⟨k,r,hk,rfl,rfl,hrem,hb⟩:=hrel
        have Hrem:=hide hrem
        have hrm:r<=m:=by omega
        clear hrem
        by_cases hlt:k < l.length
        · obtain ⟨d0,d1,d2⟩:=H4.out k hlt
          have c0:=(hb.cell (p:=⟨b,off+k * 3,none⟩) h3).trans d0
          have c1:=(hb.cell (p:=⟨b,off+k * 3+1,none⟩) h3).trans d1
          have c2:=(hb.cell (p:=⟨b,off+k * 3+2,none⟩) h3).trans d2
          have hsz:=Hs.out l[k] (List.getElem_mem hlt)
          have Hsn:=hide (totVoteote_snoc l k hlt)
          have hli:(k:Int) < (l.length:Int):=by omega
          clear d0 d1 d2
          by_cases hfit:l[k].2.2.size<=r
          · have HZ:=hide (szVote_fit l[k] r wr hfit (by omega))
            obtain ⟨q,hq⟩:∃ q,r - l[k].2.2.size=q:=⟨_,rfl⟩
            have Hq:Hid (l[k].2.2.size+q=r):=hide (by omega)
            rw [hq] at HZ
            clear hfit hsz hq
            generalize l[k]=ak at c0 c1 c2 HZ Hsn Hq
            obtain ⟨rd,wt,nm⟩:=ak
            simp only at c0 c1 c2 HZ
            go_wp2_with (go_at_call 86;refine HZ.out.mono ?_;rintro e w2 ⟨rfl,hb2⟩)
            go_roundw
            case rel=>exact ⟨k+1,q,by omega,by go_num,rfl,by rw [Hsn.out];have:=Hrem.out;have:=Hq.out;omega,hb.trans (hb2.mono hb.size)⟩
            case measure=>simp [intOf];omega
          · have HZ:=hide (szVote_not l[k] r wr hfit (by omega) hsz)
            clear hfit hsz
            generalize l[k]=ak at c0 c1 c2 HZ Hsn
            obtain ⟨rd,wt,nm⟩:=ak
            simp only at c0 c1 c2 HZ
            go_wp2_with (go_at_call 86;refine HZ.out.mono ?_;rintro e w2 ⟨rfl,hb2⟩)
            go_ret
            exact ⟨_,rfl,fun h=>by omega,hb.trans (hb2.mono hb.size)⟩
        · have hf:Hid (((l.length+totVote l:Nat):Int)+(r:Int)<=(m:Int)):=hide (by have:=Hrem.out;rw [List.take_of_length_le (by omega)] at this;omega)
          go_wp2
          go_ret
          exact ⟨_,rfl,fun _=>hf.out,hb⟩
theorem szGoneN_any (v:Value) (l:List Tr) (m:Nat) (w:World) (hr:RdR w v l) (hm:m<=100000000) (hl:l.length<=9223372036854775807) (hs:∀ a ∈ l,a.2.2.size<=9223372036854775807) :
    Calls Tryz.prog 82 #[v,.int .i64 (m:Int)] w fun e w'=>∃ r:Int,e=.returned (.int .i64 r)/\(0<=r->((l.length+totGone l:Nat):Int)+r<=(m:Int))/\Below w.heap.size w w':=by
  by_cases hn:m < l.length
  · obtain ⟨a,cap,rfl⟩:=hr.shape
    clear hr hs
    go_enter Tryz.func82,Tryz.ntmps82
    go_wp2
    go_ret
    exact ⟨_,rfl,fun h=>by omega,Below.refl _ _⟩
  · rcases hr with ⟨a,cap,rfl,rfl,-⟩ | ⟨b,off,cap,h0,rfl,h1,h2,h3,h4⟩
    · go_enter Tryz.func82,Tryz.ntmps82
      go_wp2
      refine wp_loop_rounds 1 ?_
      rw [rounds_succ]
      go_wp2
      go_ret
      exact ⟨_,rfl,fun _=>by simp [totGone],Below.refl _ _⟩
    · have Hs:=hide hs
      have H4:=hide h4
      clear hs h4
      go_enter Tryz.func82,Tryz.ntmps82
      go_wp2
      go_loopw [1,5] (fun mv iv wr=>∃ k r:Nat,k<=l.length/\iv=.int .i64 (k:Int)/\mv=.int .i64 (r:Int)/\l.length+totGone (l.take k)+r=m/\Below w.heap.size w wr) (fun _ iv _=>l.length - (intOf iv).toNat)
      case atStart=>exact ⟨0,m - l.length,Nat.zero_le _,rfl,by go_num,by simp [totGone];omega,Below.refl _ _⟩
      case round =>
        obtain ⟨k,r,hk,rfl,rfl,hrem,hb⟩:=hrel
        have Hrem:=hide hrem
        have hrm:r<=m:=by omega
        clear hrem
        by_cases hlt:k < l.length
        · obtain ⟨d0,d1,d2⟩:=H4.out k hlt
          have c0:=(hb.cell (p:=⟨b,off+k * 3,none⟩) h3).trans d0
          have c1:=(hb.cell (p:=⟨b,off+k * 3+1,none⟩) h3).trans d1
          have c2:=(hb.cell (p:=⟨b,off+k * 3+2,none⟩) h3).trans d2
          have hsz:=Hs.out l[k] (List.getElem_mem hlt)
          have Hsn:=hide (totGone_snoc l k hlt)
          have hli:(k:Int) < (l.length:Int):=by omega
          clear d0 d1 d2
          by_cases hfit:l[k].2.2.size<=r
          · have HZ:=hide (szGone_fit l[k] r wr hfit (by omega))
            obtain ⟨q,hq⟩:∃ q,r - l[k].2.2.size=q:=⟨_,rfl⟩
            have Hq:Hid (l[k].2.2.size+q=r):=hide (by omega)
            rw [hq] at HZ
            clear hfit hsz hq
            generalize l[k]=ak at c0 c1 c2 HZ Hsn Hq
            obtain ⟨rd,wt,nm⟩:=ak
            simp only at c0 c1 c2 HZ
            go_wp2_with (go_at_call 87;refine HZ.out.mono ?_;rintro e w2 ⟨rfl,hb2⟩)
            go_roundw
            case rel=>exact ⟨k+1,q,by omega,by go_num,rfl,by rw [Hsn.out];have:=Hrem.out;have:=Hq.out;omega,hb.trans (hb2.mono hb.size)⟩
            case measure=>simp [intOf];omega
          · have HZ:=hide (szGone_not l[k] r wr hfit (by omega) hsz)
            clear hfit hsz
            generalize l[k]=ak at c0 c1 c2 HZ Hsn
            obtain ⟨rd,wt,nm⟩:=ak
            simp only at c0 c1 c2 HZ
            go_wp2_with (go_at_call 87;refine HZ.out.mono ?_;rintro e w2 ⟨rfl,hb2⟩)
            go_ret
            exact ⟨_,rfl,fun h=>by omega,hb.trans (hb2.mono hb.size)⟩
        · have hf:Hid (((l.length+totGone l:Nat):Int)+(r:Int)<=(m:Int)):=hide (by have:=Hrem.out;rw [List.take_of_length_le (by omega)] at this;omega)
          go_wp2
          go_ret
          exact ⟨_,rfl,fun _=>hf.out,hb⟩
def SzdW (P:Prop) (W m:Nat) (w:World) (e:Ending) (w':World):Prop:=∃ r:Int,e=.returned (.int .i64 r)/\(0<=r->P/\(W:Int)+r<=(m:Int))/\Below w.heap.size w w'
def totG {α:Type} (f:α->Nat) (l:List α):Nat:=(l.map f).sum
theorem totG_snoc {α:Type} {f:α->Nat} {l:List α} {k:Nat} (h:k < l.length):totG f (l.take (k+1))=totG f (l.take k)+f l[k]:=by
  unfold totG
  rw [List.take_succ_eq_append_getElem h,List.map_append,List.sum_append]
  simp
theorem totG_map {α β:Type} (g:α->β) (f:β->Nat) (l:List α):totG f (l.map g)=totG (fun a=>f (g a)) l:=by
  unfold totG
  rw [List.map_map]
  rfl
theorem szwVal (v:Value) (l:List Vl) (m:Nat) (w:World) (hr:RdV w v l) (hm:m<=4000000) (hl:l.length<=maxLen) (hs:∀ a ∈ l,a.1.size<=maxLen) :
    Calls Tryz.prog 78 #[v,.int .i64 (m:Int)] w fun en w'=>SzdW (l.length<=4000000) (l.length) m w en w':=by
  have em:maxLen<=9223372036854775807:=by unfold maxLen;omega
  refine (szValN_any v l m w hr (by omega) (by omega) (fun a ha=>by have:=hs a ha;omega)).mono ?_
  rintro en w' ⟨r,h1,h2,h3⟩
  exact ⟨r,h1,fun h=>by have:=h2 h;exact ⟨by omega,by omega⟩,h3⟩
theorem szwBlock (v:Value) (l:List Bk) (m:Nat) (w:World) (hr:RdKs w v l) (hm:m<=4000000) (hl:l.length<=maxLen) (hs:∀ b ∈ l,FitK b) :
    Calls Tryz.prog 19 #[v,.int .i64 (m:Int)] w fun en w'=>SzdW (l.length<=4000000/\∀ b ∈ l,FewK b) ((l.length+totK l)) m w en w':=by
  refine (szBlockSN_any v l m w hr (by omega) hl hs).mono ?_
  rintro en w' ⟨r,h1,h2,h3⟩
  exact ⟨r,h1,fun h=>by
    have a:=h2 h
    exact ⟨⟨by omega,fun b hb=>by
      have t:=totK_at l b hb
      have f:=hs b hb
      unfold wgK at t
      exact ⟨by omega,by omega,by omega,by omega,by omega,f.qs,f.ws,f.ts,f.ns,f.ms,f.rs⟩⟩,by omega⟩,h3⟩
theorem szwQc (r b:Int) (v:Value) (l:List ByteArray) (m:Nat) (w:World) (hr:RdS w v l) (hm:m<=4000000) (hl:l.length<=maxLen) (hs:∀ s ∈ l,s.size<=maxLen) :
    Calls Tryz.prog 79 #[qcV r b v,.int .i64 (m:Int)] w fun en w'=>SzdW (l.length<=4000000) (l.length) m w en w':=by
  have em:maxLen<=9223372036854775807:=by unfold maxLen;omega
  refine (szQcN_any r b v l m w hr (by omega) (by omega) (fun a ha=>by have:=hs a ha;omega)).mono ?_
  rintro en w' ⟨r,h1,h2,h3⟩
  exact ⟨r,h1,fun h=>by have:=h2 h;exact ⟨by omega,by omega⟩,h3⟩
theorem szwTc (r:Int) (v u:Value) (l:List ByteArray) (n:List Int) (m:Nat) (w:World) (hr:RdS w v l) (hi:RdI w u n) (hm:m<=4000000) (hl:l.length<=maxLen) (hs:∀ s ∈ l,s.size<=maxLen) (hn:n.length<=maxLen) :
    Calls Tryz.prog 80 #[tcV r v u,.int .i64 (m:Int)] w fun en w'=>SzdW (l.length<=4000000/\n.length<=4000000) ((l.length+n.length)) m w en w':=by
  have em:maxLen<=9223372036854775807:=by unfold maxLen;omega
  refine (szTcN_any r v u l n m w hr hi (by omega) (by omega) (fun a ha=>by have:=hs a ha;omega) (by omega)).mono ?_
  rintro en w' ⟨r,h1,h2,h3⟩
  exact ⟨r,h1,fun h=>by have:=h2 h;exact ⟨⟨by omega,by omega⟩,by omega⟩,h3⟩
theorem szwVote (v:Value) (l:List Tr) (m:Nat) (w:World) (hr:RdR w v l) (hm:m<=4000000) (hl:l.length<=maxLen) (hs:∀ a ∈ l,a.2.2.size<=maxLen) :
    Calls Tryz.prog 81 #[v,.int .i64 (m:Int)] w fun en w'=>SzdW (l.length<=4000000) (l.length) m w en w':=by
  have em:maxLen<=9223372036854775807:=by unfold maxLen;omega
  refine (szVoteN_any v l m w hr (by omega) (by omega) (fun a ha=>by have:=hs a ha;omega)).mono ?_
  rintro en w' ⟨r,h1,h2,h3⟩
  exact ⟨r,h1,fun h=>by have:=h2 h;exact ⟨by omega,by omega⟩,h3⟩
theorem szwGone (v:Value) (l:List Tr) (m:Nat) (w:World) (hr:RdR w v l) (hm:m<=4000000) (hl:l.length<=maxLen) (hs:∀ a ∈ l,a.2.2.size<=maxLen) :
    Calls Tryz.prog 82 #[v,.int .i64 (m:Int)] w fun en w'=>SzdW (l.length<=4000000) (l.length) m w en w':=by
  have em:maxLen<=9223372036854775807:=by unfold maxLen;omega
  refine (szGoneN_any v l m w hr (by omega) (by omega) (fun a ha=>by have:=hs a ha;omega)).mono ?_
  rintro en w' ⟨r,h1,h2,h3⟩
  exact ⟨r,h1,fun h=>by have:=h2 h;exact ⟨by omega,by omega⟩,h3⟩
theorem szwInt (v:Value) (l:List Int) (m:Nat) (w:World) (hr:RdI w v l) (hm:m<=4000000) (hl:l.length<=maxLen) :
    Calls Tryz.prog 83 #[v,.int .i64 (m:Int)] w fun en w'=>SzdW (l.length<=4000000) (l.length) m w en w':=by
  have em:maxLen<=9223372036854775807:=by unfold maxLen;omega
  refine (szIntN_any v l m w hr (by omega) (by omega)).mono ?_
  rintro en w' ⟨r,h1,h2,h3⟩
  exact ⟨r,h1,fun h=>by have:=h2 h;exact ⟨by omega,by omega⟩,by rw [h3];exact Below.refl _ _⟩
theorem szwTx (v:Value) (l:List Tx5) (m:Nat) (w:World) (hr:RdT w v l) (hm:m<=4000000) (hl:l.length<=maxLen) (hs:∀ t ∈ l,t.2.1.size<=maxLen/\t.2.2.1.size<=maxLen) :
    Calls Tryz.prog 84 #[v,.int .i64 (m:Int)] w fun en w'=>SzdW (l.length<=4000000) (l.length) m w en w':=by
  have em:maxLen<=9223372036854775807:=by unfold maxLen;omega
  refine (szTxN_any v l m w hr (by omega) (by omega) (fun a ha=>by have:=hs a ha;omega)).mono ?_
  rintro en w' ⟨r,h1,h2,h3⟩
  exact ⟨r,h1,fun h=>by have:=h2 h;exact ⟨by omega,by omega⟩,h3⟩
theorem szwStr (v:Value) (l:List ByteArray) (m:Nat) (w:World) (hr:RdS w v l) (hm:m<=4000000) (hl:l.length<=maxLen) (hs:∀ s ∈ l,s.size<=maxLen) :
    Calls Tryz.prog 17 #[v,.int .i64 (m:Int)] w fun en w'=>SzdW (l.length<=4000000) (l.length) m w en w':=by
  have em:maxLen<=9223372036854775807:=by unfold maxLen;omega
  refine (szStringS_any v l m w hr (by omega) (by omega) (fun a ha=>by have:=hs a ha;omega)).mono ?_
  rintro en w' ⟨h1,h2⟩
  refine ⟨_,h1,fun h=>?_,by rw [h2];exact Below.refl _ _⟩
  unfold szR at h ⊢
  split at h <;> rename_i h'
  · rw [if_pos h'];exact ⟨by omega,by omega⟩
  · omega
theorem szwVt (r k:Int) (s:ByteArray) (m:Nat) (w:World) (hm:m<=4000000) (hs:s.size<=maxLen) :
    Calls Tryz.prog 86 #[.agg #[.int .i64 r,.int .i64 k,.string s],.int .i64 (m:Int)] w fun en w'=>Szd True m w en w':=by
  have em:maxLen<=9223372036854775807:=by unfold maxLen;omega
  refine (szVote_any r k s m w (by omega) (by omega)).mono ?_
  rintro en w' ⟨r,h1,h2,h3⟩
  exact ⟨r,h1,fun h=>⟨trivial,h2 h⟩,h3⟩
theorem szwGn (r k:Int) (s:ByteArray) (m:Nat) (w:World) (hm:m<=4000000) (hs:s.size<=maxLen) :
    Calls Tryz.prog 87 #[.agg #[.int .i64 r,.int .i64 k,.string s],.int .i64 (m:Int)] w fun en w'=>Szd True m w en w':=by
  have em:maxLen<=9223372036854775807:=by unfold maxLen;omega
  refine (szGone_any r k s m w (by omega) (by omega)).mono ?_
  rintro en w' ⟨r,h1,h2,h3⟩
  exact ⟨r,h1,fun h=>⟨trivial,h2 h⟩,h3⟩
theorem szwLedger (e:Int) (v:Value) (l:List Ac) (m:Nat) (w:World) (hr:RdA w v l) (hm:m<=4000000) (hl:l.length<=maxLen) (hs:∀ a ∈ l,a.1.size<=maxLen/\a.2.2.2.2.length<=maxLen) :
    Calls Tryz.prog 16 #[lgV e v,.int .i64 (m:Int)] w fun en w'=>SzdW (l.length<=4000000/\∀ a ∈ l,a.2.2.2.2.length<=4000000) (l.length+totA l) m w en w':=by
  have em:maxLen<=9223372036854775807:=by unfold maxLen;omega
  refine (szLedgerN_any e v l m w hr (by omega) (by omega) (fun a ha=>by have:=hs a ha;omega)).mono ?_
  rintro en w' ⟨r,h1,h2,h3⟩
  exact ⟨r,h1,fun h=>by
    have b:=h2 h
    exact ⟨⟨by omega,fun x hx=>by have:=totA_at l x hx;unfold wgA at this;omega⟩,by omega⟩,h3⟩
end Go.Proofs.YthehfkafcdociaaGreatDoor
