/- A proof. -/
import Derived.Test.YtaidhenkijjcfaaGreatZoPfOpen
set_option maxRecDepth 20000
set_option maxHeartbeats 8000000
namespace Go.Proofs.YtaidhenkijjcfaaGreat
open Go.RowKit Go.ChangeShapes Go.WideShapes
set_option linter.unusedVariables false
section
variable {H:Type} {enc:TypeId × Value->H} {w:World} {base:Nat} {spare:Nat->Bool} {held:Bool}
theorem open_Nd {fuel:Nat} {cs:List Value} {x:DataW H × List MemPlace} (h:DataW.trod enc Tryz.prog w base spare held fuel 60 cs=some x) :
    ∃ (p:Nd) (u:Nv),cs=noC p u/\RdNd w p u/\FitNd p:=by
  obtain ⟨xs,n,_,_,hlen,hxl,hf⟩:=DataW.trod_struct Tryz.underlying60 h
  have h5:cs.length=20:=hlen.trans (by kernel_rfl)
  have hx5:xs.length=15:=hxl
  match cs,h5,xs,hx5 with
  | [c0,c1,c2,c3,c4,c5,c6,c7,c8,c9,c10,c11,c12,c13,c14,c15,c16,c17,c18,c19],_,[y0,y1,y2,y3,y4,y5,y6,y7,y8,y9,y10,y11,y12,y13,y14],_ =>
    have k_string:Tryz.prog.cellsOf 9=1:=by kernel_rfl
    have k_int:Tryz.prog.cellsOf 3=1:=by kernel_rfl
    have k_laws_Ledger:Tryz.prog.cellsOf 51=2:=by kernel_rfl
    have k_Slaws_Val:Tryz.prog.cellsOf 22=1:=by kernel_rfl
    have k_Slaws_Block:Tryz.prog.cellsOf 25=1:=by kernel_rfl
    have k_laws_Qc:Tryz.prog.cellsOf 28=3:=by kernel_rfl
    have k_laws_Tc:Tryz.prog.cellsOf 54=3:=by kernel_rfl
    have k_Slaws_Vote:Tryz.prog.cellsOf 55=1:=by kernel_rfl
    have k_Slaws_Gone:Tryz.prog.cellsOf 56=1:=by kernel_rfl
    have k_Sint:Tryz.prog.cellsOf 52=1:=by kernel_rfl
    have k_Slaws_Tx:Tryz.prog.cellsOf 57=1:=by kernel_rfl
    have k_Slaws_Proof:Tryz.prog.cellsOf 58=1:=by kernel_rfl
    have g0:DataW.trod enc Tryz.prog w base spare held n 9 [c0]=some y0:=by
      have e:=hf 0 _ rfl
      change DataW.trod enc Tryz.prog w base spare held n 9 (List.take (Tryz.prog.cellsOf 9) [c0,c1,c2,c3,c4,c5,c6,c7,c8,c9,c10,c11,c12,c13,c14,c15,c16,c17,c18,c19])=some y0 at e
      rw [k_string] at e
      exact e
    have g1:DataW.trod enc Tryz.prog w base spare held n 3 [c1]=some y1:=by
      have e:=hf 1 _ rfl
      change DataW.trod enc Tryz.prog w base spare held n 3 (List.take (Tryz.prog.cellsOf 3) [c1,c2,c3,c4,c5,c6,c7,c8,c9,c10,c11,c12,c13,c14,c15,c16,c17,c18,c19])=some y1 at e
      rw [k_int] at e
      exact e
    have g2:DataW.trod enc Tryz.prog w base spare held n 51 [c2,c3]=some y2:=by
      have e:=hf 2 _ rfl
      change DataW.trod enc Tryz.prog w base spare held n 51 (List.take (Tryz.prog.cellsOf 51) [c2,c3,c4,c5,c6,c7,c8,c9,c10,c11,c12,c13,c14,c15,c16,c17,c18,c19])=some y2 at e
      rw [k_laws_Ledger] at e
      exact e
    have g3:DataW.trod enc Tryz.prog w base spare held n 22 [c4]=some y3:=by
      have e:=hf 3 _ rfl
      change DataW.trod enc Tryz.prog w base spare held n 22 (List.take (Tryz.prog.cellsOf 22) [c4,c5,c6,c7,c8,c9,c10,c11,c12,c13,c14,c15,c16,c17,c18,c19])=some y3 at e
      rw [k_Slaws_Val] at e
      exact e
    have g4:DataW.trod enc Tryz.prog w base spare held n 25 [c5]=some y4:=by
      have e:=hf 4 _ rfl
      change DataW.trod enc Tryz.prog w base spare held n 25 (List.take (Tryz.prog.cellsOf 25) [c5,c6,c7,c8,c9,c10,c11,c12,c13,c14,c15,c16,c17,c18,c19])=some y4 at e
      rw [k_Slaws_Block] at e
      exact e
    have g5:DataW.trod enc Tryz.prog w base spare held n 3 [c6]=some y5:=by
      have e:=hf 5 _ rfl
      change DataW.trod enc Tryz.prog w base spare held n 3 (List.take (Tryz.prog.cellsOf 3) [c6,c7,c8,c9,c10,c11,c12,c13,c14,c15,c16,c17,c18,c19])=some y5 at e
      rw [k_int] at e
      exact e
    have g6:DataW.trod enc Tryz.prog w base spare held n 3 [c7]=some y6:=by
      have e:=hf 6 _ rfl
      change DataW.trod enc Tryz.prog w base spare held n 3 (List.take (Tryz.prog.cellsOf 3) [c7,c8,c9,c10,c11,c12,c13,c14,c15,c16,c17,c18,c19])=some y6 at e
      rw [k_int] at e
      exact e
    have g7:DataW.trod enc Tryz.prog w base spare held n 28 [c8,c9,c10]=some y7:=by
      have e:=hf 7 _ rfl
      change DataW.trod enc Tryz.prog w base spare held n 28 (List.take (Tryz.prog.cellsOf 28) [c8,c9,c10,c11,c12,c13,c14,c15,c16,c17,c18,c19])=some y7 at e
      rw [k_laws_Qc] at e
      exact e
    have g8:DataW.trod enc Tryz.prog w base spare held n 54 [c11,c12,c13]=some y8:=by
      have e:=hf 8 _ rfl
      change DataW.trod enc Tryz.prog w base spare held n 54 (List.take (Tryz.prog.cellsOf 54) [c11,c12,c13,c14,c15,c16,c17,c18,c19])=some y8 at e
      rw [k_laws_Tc] at e
      exact e
    have g9:DataW.trod enc Tryz.prog w base spare held n 3 [c14]=some y9:=by
      have e:=hf 9 _ rfl
      change DataW.trod enc Tryz.prog w base spare held n 3 (List.take (Tryz.prog.cellsOf 3) [c14,c15,c16,c17,c18,c19])=some y9 at e
      rw [k_int] at e
      exact e
    have g10:DataW.trod enc Tryz.prog w base spare held n 55 [c15]=some y10:=by
      have e:=hf 10 _ rfl
      change DataW.trod enc Tryz.prog w base spare held n 55 (List.take (Tryz.prog.cellsOf 55) [c15,c16,c17,c18,c19])=some y10 at e
      rw [k_Slaws_Vote] at e
      exact e
    have g11:DataW.trod enc Tryz.prog w base spare held n 56 [c16]=some y11:=by
      have e:=hf 11 _ rfl
      change DataW.trod enc Tryz.prog w base spare held n 56 (List.take (Tryz.prog.cellsOf 56) [c16,c17,c18,c19])=some y11 at e
      rw [k_Slaws_Gone] at e
      exact e
    have g12:DataW.trod enc Tryz.prog w base spare held n 52 [c17]=some y12:=by
      have e:=hf 12 _ rfl
      change DataW.trod enc Tryz.prog w base spare held n 52 (List.take (Tryz.prog.cellsOf 52) [c17,c18,c19])=some y12 at e
      rw [k_Sint] at e
      exact e
    have g13:DataW.trod enc Tryz.prog w base spare held n 57 [c18]=some y13:=by
      have e:=hf 13 _ rfl
      change DataW.trod enc Tryz.prog w base spare held n 57 (List.take (Tryz.prog.cellsOf 57) [c18,c19])=some y13 at e
      rw [k_Slaws_Tx] at e
      exact e
    have g14:DataW.trod enc Tryz.prog w base spare held n 58 [c19]=some y14:=by
      have e:=hf 14 _ rfl
      change DataW.trod enc Tryz.prog w base spare held n 58 (List.take (Tryz.prog.cellsOf 58) [c19])=some y14 at e
      rw [k_Slaws_Proof] at e
      exact e
    obtain ⟨z0,e0,_,f0⟩:=DataW.trod_string Tryz.underlying9 g0
    obtain ⟨z1,e1,_,f1⟩:=DataW.trod_int Tryz.underlying3 g1
    obtain ⟨z2,e2,_,f2⟩:∃ z,[c2]=[.int .i64 z]/\True/\(Lit.int .i64 z).wf=true:=ledger_wf g2
    obtain ⟨zz2,v2,l2,ee2,r2,n2,q2⟩:=open_ledger g2
    simp only [List.cons.injEq,and_true] at ee2 e2
    obtain ⟨-,ev2⟩:=ee2
    subst e2 ev2
    obtain ⟨l3,r3,n3,q3⟩:=opuVal g3
    obtain ⟨l4,r4,n4,q4⟩:=opuBlock g4
    obtain ⟨z5,e5,_,f5⟩:=DataW.trod_int Tryz.underlying3 g5
    obtain ⟨z6,e6,_,f6⟩:=DataW.trod_int Tryz.underlying3 g6
    obtain ⟨z7,b7,v7,l7,e7,r7,n7,q7,f7,ff7⟩:=open_qc9 g7
    simp only [List.cons.injEq,and_true] at e7
    obtain ⟨ea7,eb7,ec7⟩:=e7
    subst ea7 eb7 ec7
    obtain ⟨z8,v8,t8,l8,h8,e8,r8,rr8,n8,q8,nn8,f8⟩:=open_tc9 g8
    simp only [List.cons.injEq,and_true] at e8
    obtain ⟨ea8,eb8,ec8⟩:=e8
    subst ea8 eb8 ec8
    obtain ⟨z9,e9,_,f9⟩:=DataW.trod_int Tryz.underlying3 g9
    obtain ⟨l10,r10,n10,q10⟩:=opuVote g10
    obtain ⟨l11,r11,n11,q11⟩:=opuGone g11
    obtain ⟨l12,r12,n12⟩:=opuInt g12
    obtain ⟨l13,r13,n13,q13⟩:=opuTx g13
    obtain ⟨l14,r14,n14,q14⟩:=opuProof g14
    simp only [List.cons.injEq,and_true] at e0 e1 e5 e6 e9
    subst e0 e1 e5 e6 e9
    exact ⟨⟨z0,z1,z2,l2,l3,l4,z5,z6,z7,b7,l7,z8,l8,h8,z9,l10,l11,l12,l13,l14⟩,⟨c3,c4,c5,c10,c12,c13,c15,c16,c17,c18,c19⟩,rfl,⟨r2,r3,r4,r7,r8,rr8,r10,r11,r12,r13,r14⟩,⟨f0,f1,f2,n2,q2,n3,q3,n4,q4,f5,f6,f7,ff7,n7,q7,f8,n8,q8,nn8,f9,n10,q10,n11,q11,n12,n13,q13,n14,q14⟩⟩
end
end Go.Proofs.YtaidhenkijjcfaaGreat
namespace Go.Proofs.YtaidhenkijjcfaaGreat
open Go.RowKit
set_option linter.unusedVariables false
theorem eqProof_same (p:Pf) (u t:Pv) (w:World) (hr:RdPf w p u) (ht:RdPf w p t) (hf:FewPf p) :
    Calls Tryz.prog 13 #[pfV p u,pfV p t] w fun e w'=>e=.returned (.bool true)/\Below w.heap.size w w':=by
  have hnb:=hf.nb
  have hfb:=hf.fb
  have hnw:=hf.nw
  clear hf
  obtain ⟨ep,bs,qr,qb,qw⟩:=p
  obtain ⟨yb,yw⟩:=u
  obtain ⟨hyb,hyw⟩:=hr
  simp only at *
  obtain ⟨adb,cpb,rfl⟩:=hyb.shape
  obtain ⟨adw,cpw,rfl⟩:=hyw.shape
  obtain ⟨zb,zw⟩:=t
  obtain ⟨jyb,jyw⟩:=ht
  simp only at *
  obtain ⟨bdb,bpb,rfl⟩:=jyb.shape
  obtain ⟨bdw,bpw,rfl⟩:=jyw.shape
  have E1:=hide (fun V (hV:Below w.heap.size w V)=>eqBlockS_any (.slice adb bs.length cpb) (.slice bdb bs.length bpb) bs V (hyb.below hV (Nat.le_refl _)) (jyb.below hV (Nat.le_refl _)) hnb hfb)
  have E2:=hide (fun V (hV:Below w.heap.size w V)=>eqQc_any qr qb (.slice adw qw.length cpw) (.slice bdw qw.length bpw) qw V (hyw.below hV (Nat.le_refl _)) (jyw.below hV (Nat.le_refl _)) hnw)
  clear hyb hyw jyb jyw
  clear hfb
  simp only [pfV,qcV] at *
  obtain ⟨S0,hS0⟩:∃ x,(w.alloc (.cells #[.int .i64 ep,.slice adb bs.length cpb,.int .i64 qr,.int .i64 qb,.slice adw qw.length cpw] 42)).alloc (.cells #[.int .i64 ep,.slice bdb bs.length bpb,.int .i64 qr,.int .i64 qb,.slice bdw qw.length bpw] 42)=x:=⟨_,rfl⟩
  have kA0:Blk S0 w.heap.size 42 [.int .i64 ep,.slice adb bs.length cpb,.int .i64 qr,.int .i64 qb,.slice adw qw.length cpw]:=by rw [<- hS0];exact (Blk.new w _ _).below ((Below.refl (w.heap.size+1) _).alloc (by simp) _) (by omega)
  have kB0:Blk S0 (w.heap.size+1) 42 [.int .i64 ep,.slice bdb bs.length bpb,.int .i64 qr,.int .i64 qb,.slice bdw qw.length bpw]:=by rw [<- hS0];exact Blk.newR _ _ [.int .i64 ep,.slice bdb bs.length bpb,.int .i64 qr,.int .i64 qb,.slice bdw qw.length bpw] _ (by simp)
  have b0:Below w.heap.size w S0:=by rw [<- hS0];exact ((Below.refl _ w).alloc (Nat.le_refl _) _).alloc (by simp) _
  have x0:=kA0.cell 0
  have x1:=kA0.cell 1
  simp only [List.getElem?_cons_zero,List.getElem?_cons_succ] at x0 x1
  have y0:=kB0.cell 0
  have y1:=kB0.cell 1
  simp only [List.getElem?_cons_zero,List.getElem?_cons_succ] at y0 y1
  have KA0:=hide kA0
  have KB0:=hide kB0
  clear kA0 kB0
  go_enter Tryz.func13,Tryz.ntmps13
  go_wp2_with fail
  (try rw [hS0])
  clear hS0
  refine (E1.out _ b0).mono ?_
  rintro e w1 ⟨rfl,hb1⟩
  have b1:=b0.trans (hb1.mono b0.size)
  have kA1:=KA0.out.below hb1 KA0.out.lt
  have kB1:=KB0.out.below hb1 KB0.out.lt
  clear x0 x1 y0 y1 KA0 KB0 b0 hb1 E1
  have x2:=kA1.cell 2
  have x3:=kA1.cell 3
  have x4:=kA1.cell 4
  simp only [List.getElem?_cons_zero,List.getElem?_cons_succ] at x2 x3 x4
  have y2:=kB1.cell 2
  have y3:=kB1.cell 3
  have y4:=kB1.cell 4
  simp only [List.getElem?_cons_zero,List.getElem?_cons_succ] at y2 y3 y4
  have KA1:=hide kA1
  have KB1:=hide kB1
  clear kA1 kB1
  go_wp2_with fail
  refine (E2.out _ b1).mono ?_
  rintro e w2 ⟨rfl,hb2⟩
  have b2:=b1.trans (hb2.mono b1.size)
  have kA2:=KA1.out.below hb2 KA1.out.lt
  have kB2:=KB1.out.below hb2 KB1.out.lt
  clear x2 x3 x4 y2 y3 y4 KA1 KB1 b1 hb2 E2
  clear kA2 kB2
  go_wp2
  go_ret
  exact ⟨rfl,b2⟩
theorem Tryz.infoEPf:(Tryz.prog.info? 42).map (·.size)=some 5:=by kernel_rfl
theorem eqProofS_any (v1 v2:Value) (l:List Pf) (w:World) (hr1:RdPs w v1 l) (hr2:RdPs w v2 l) (hl:l.length<=4000000) (hall:∀ a ∈ l,FewPf a) :
    Calls Tryz.prog 71 #[v1,v2] w fun e w'=>e=.returned (.bool true)/\Below w.heap.size w w':=by
  obtain ⟨Z1,rfl,hr1⟩:=hr1
  obtain ⟨Z2,hZ,hr2⟩:=hr2
  have hl':Z1.length<=4000000:=by simpa using hl
  have hN2:Z2.length=Z1.length:=by have:=congrArg List.length hZ;simpa using this
  have hel:∀ i (h1:i < Z1.length) (h2:i < Z2.length),Z2[i].1=Z1[i].1:=fun i h1 h2=>by
    have:=List.getElem_of_eq hZ (show i < (Z2.map (·.1)).length by simpa using h2)
    simpa using this
  rcases hr1 with ⟨a,cap,rfl,rfl,-⟩ | ⟨b,off,cap,h0,rfl,h1,h2,h3,h4⟩
  · obtain ⟨a2,cap2,rfl⟩:=hr2.shape
    rw [hN2]
    clear hr2 hel hN2 hZ
    go_enter Tryz.func71,Tryz.ntmps71
    go_wp2
    refine wp_loop_rounds 1 ?_
    rw [rounds_succ]
    go_wp2
    go_ret
    exact ⟨rfl,Below.refl _ _⟩
  · rcases hr2 with ⟨a2,cap2,rfl,e0,-⟩ | ⟨b2,off2,cap2,g0,rfl,g1,g2,g3,g4⟩
    · subst e0;exact absurd (List.length_eq_zero_iff.1 hN2.symm) h0
    · obtain ⟨N,hN⟩:∃ N,Z1.length=N:=⟨_,rfl⟩
      rw [hN] at h1 hl' hN2 ⊢
      rw [hN2] at g1 ⊢
      have HN:=hide hN
      have HN2:=hide hN2
      have H4:=hide h4
      have G4:=hide g4
      have HA:=hide hall
      have HE:=hide hel
      have hlen:((N:Int) != (N:Int))=false:=by simp
      clear hN hN2 h4 g4 hall hel hZ hl h0 g0
      go_enter Tryz.func71,Tryz.ntmps71
      go_wp2
      go_loopw [5] (fun i wr=>∃ k:Nat,k<=N/\i=.int .i64 k/\Below w.heap.size w wr) (fun i _=>N - (intOf i).toNat)
      case atStart=>exact ⟨0,Nat.zero_le _,rfl,Below.refl _ _⟩
      case round =>
        obtain ⟨k,hk,rfl,hb⟩:=hrel
        by_cases hlt:k < N
        · have hk1:k < Z1.length:=by rw [HN.out];exact hlt
          have hk2:k < Z2.length:=by rw [HN2.out];exact hlt
          have hbD:=hb.drew
          have hS0:(fun W:World=>W.rangeAt b (off+k * 5) (pfC Z1[k].1 Z1[k].2)/\W.rangeAt b2 (off2+k * 5) (pfC Z2[k].1 Z2[k].2)) wr.drew:=⟨range_below (H4.out k hk1).1 hbD h3,range_below (G4.out k hk2).1 hbD g3⟩
          have HS:Hid (∀ V,Below w.heap.size w V->(V.rangeAt b (off+k * 5) (pfC Z1[k].1 Z1[k].2)/\V.rangeAt b2 (off2+k * 5) (pfC Z2[k].1 Z2[k].2))):=hide (fun V hV=>⟨range_below (H4.out k hk1).1 hV h3,range_below (G4.out k hk2).1 hV g3⟩)
          have HT:=hide (eqProof_same Z1[k].1 Z1[k].2 Z2[k].2 wr.drew ((H4.out k hk1).2.below hbD (Nat.le_refl _)) (by rw [<- HE.out k hk1 hk2];exact (G4.out k hk2).2.below hbD (Nat.le_refl _)) (HA.out _ (List.mem_map.2 ⟨_,List.getElem_mem hk1,rfl⟩)))
          rw [HE.out k hk1 hk2] at hS0 HS
          rw [show pfV Z1[k].1 Z1[k].2=.agg (pfC Z1[k].1 Z1[k].2).toArray from rfl,show pfV Z1[k].1 Z2[k].2=.agg (pfC Z1[k].1 Z2[k].2).toArray from rfl] at HT
          have Hi1:=hide (show (Tryz.prog.info? 42).map (·.size)=some (pfC Z1[k].1 Z1[k].2).length from Tryz.infoEPf)
          have Hi2:=hide (show (Tryz.prog.info? 42).map (·.size)=some (pfC Z1[k].1 Z2[k].2).length from Tryz.infoEPf)
          have hli:(k:Int) < (N:Int):=by omega
          have hk0:(0:Int)<=(k:Int):=by omega
          have HB:=hide hb
          have HBD:=hide hbD
          clear hb hbD
          generalize pfC Z1[k].1 Z1[k].2=cs at hS0 HS HT Hi1
          generalize pfC Z1[k].1 Z2[k].2=ds at hS0 HS HT Hi2
          go_wp2
          refine wp_region_held_drew (S:=fun W=>W.rangeAt b (off+k * 5) cs/\W.rangeAt b2 (off2+k * 5) ds) (by kernel_rfl) hS0 (fun hHeld=>?_)
          refine wpAnyH_take (i:=0) (v:=.slice (some ⟨b,off,none⟩) N cap) rfl (by kernel_rfl) (by kernel_rfl) (by kernel_rfl) (fun _ _ _ h=>h) (Or.inl ⟨by rfl,fun W hW=>by go_simp⟩) (by assumption) ?_
          change wpAnyH Tryz.prog _ _ _ _ _ _ (Act.put _ (some 17) _) _
          simp only [Act.put,List.setIfInBounds_toArray,List.set_cons_zero,List.set_cons_succ]
          refine wpAnyH_take (i:=1) (v:=.int .i64 (k:Int)) rfl (by kernel_rfl) (by kernel_rfl) (by kernel_rfl) (fun _ _ _ h=>h) (Or.inl ⟨by rfl,fun W hW=>by go_simp⟩) (by assumption) ?_
          change wpAnyH Tryz.prog _ _ _ _ _ _ (Act.put _ (some 18) _) _
          simp only [Act.put,List.setIfInBounds_toArray,List.set_cons_zero,List.set_cons_succ]
          refine wpAnyH_take (i:=2) (v:=.pointer (some ⟨b,off+k * 5,none⟩)) rfl (by kernel_rfl) (by kernel_rfl) (by kernel_rfl) (fun _ _ _ h=>h) (Or.inl ⟨by rfl,fun W hW=>by go_simp⟩) (by assumption) ?_
          change wpAnyH Tryz.prog _ _ _ _ _ _ (Act.put _ (some 19) _) _
          simp only [Act.put,List.setIfInBounds_toArray,List.set_cons_zero,List.set_cons_succ]
          refine wpAnyH_take (i:=3) (v:=.agg cs.toArray) rfl (by kernel_rfl) (by kernel_rfl) (by kernel_rfl) (fun _ _ _ h=>h) (yieldsIf_load_mid (by rfl) 42 _ rfl b (off+k * 5) rfl cs _ (fun W hW=>hW.1) Tryz.underlying42 rfl Hi1.out) (by assumption) ?_
          change wpAnyH Tryz.prog _ _ _ _ _ _ (Act.put _ (some 20) _) _
          simp only [Act.put,List.setIfInBounds_toArray,List.set_cons_zero,List.set_cons_succ]
          refine wpAnyH_take (i:=4) (v:=.slice (some ⟨b2,off2,none⟩) N cap2) rfl (by kernel_rfl) (by kernel_rfl) (by kernel_rfl) (fun _ _ _ h=>h) (Or.inl ⟨by rfl,fun W hW=>by go_simp⟩) (by assumption) ?_
          change wpAnyH Tryz.prog _ _ _ _ _ _ (Act.put _ (some 21) _) _
          simp only [Act.put,List.setIfInBounds_toArray,List.set_cons_zero,List.set_cons_succ]
          refine wpAnyH_take (i:=5) (v:=.int .i64 (k:Int)) rfl (by kernel_rfl) (by kernel_rfl) (by kernel_rfl) (fun _ _ _ h=>h) (Or.inl ⟨by rfl,fun W hW=>by go_simp⟩) (by assumption) ?_
          change wpAnyH Tryz.prog _ _ _ _ _ _ (Act.put _ (some 22) _) _
          simp only [Act.put,List.setIfInBounds_toArray,List.set_cons_zero,List.set_cons_succ]
          refine wpAnyH_take (i:=6) (v:=.pointer (some ⟨b2,off2+k * 5,none⟩)) rfl (by kernel_rfl) (by kernel_rfl) (by kernel_rfl) (fun _ _ _ h=>h) (Or.inl ⟨by rfl,fun W hW=>by go_simp⟩) (by assumption) ?_
          change wpAnyH Tryz.prog _ _ _ _ _ _ (Act.put _ (some 23) _) _
          simp only [Act.put,List.setIfInBounds_toArray,List.set_cons_zero,List.set_cons_succ]
          refine wpAnyH_take (i:=7) (v:=.agg ds.toArray) rfl (by kernel_rfl) (by kernel_rfl) (by kernel_rfl) (fun _ _ _ h=>h) (yieldsIf_load_mid (by rfl) 42 _ rfl b2 (off2+k * 5) rfl ds _ (fun W hW=>hW.2) Tryz.underlying42 rfl Hi2.out) (by assumption) ?_
          change wpAnyH Tryz.prog _ _ _ _ _ _ (Act.put _ (some 24) _) _
          simp only [Act.put,List.setIfInBounds_toArray,List.set_cons_zero,List.set_cons_succ]
          refine wpAnyH_ready (rs:=[8]) (by kernel_rfl) (by simp) ?_
          refine AllReadyH.cons rfl (fun K hK=>?_) AllReadyH.nil
          go_simp
          go_wp2_with (go_at_call 13;(with_reducible refine HT.out.mono ?_);rintro e w2 ⟨rfl,hb2⟩;have hB2:=HBD.out.trans (hb2.mono HBD.out.size);have hS2:=HS.out _ hB2)
          refine hK.out _ _ hS2 (fun hHeld=>?_)
          try simp only [Act.put,List.setIfInBounds_toArray,List.set_cons_zero,List.set_cons_succ]
          refine wpAnyH_take (i:=9) (v:=.bool false) rfl (by kernel_rfl) (by kernel_rfl) (by kernel_rfl) (fun _ _ _ h=>h) (Or.inl ⟨by rfl,fun W hW=>by go_simp⟩) (by assumption) ?_
          change wpAnyH Tryz.prog _ _ _ _ _ _ (Act.put _ (some 26) _) _
          simp only [Act.put,List.setIfInBounds_toArray,List.set_cons_zero,List.set_cons_succ]
          refine wpAnyH_done (by kernel_rfl) ?_ _
          clear hS0 hS2 hb2
          go_wp2
          go_roundw
          case rel=>exact ⟨k+1,by omega,by go_num,hB2⟩
          case measure=>simp [intOf];omega
        · go_wp2
          go_ret
          exact ⟨rfl,hb⟩
end Go.Proofs.YtaidhenkijjcfaaGreat
