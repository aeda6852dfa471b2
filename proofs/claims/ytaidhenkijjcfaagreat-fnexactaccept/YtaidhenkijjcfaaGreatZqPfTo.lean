/- A proof. -/
import Derived.Test.YtaidhenkijjcfaaGreatZqPfMem
import Derived.Test.YtaidhenkijjcfaaGreatZqKsEq
set_option maxRecDepth 20000
set_option maxHeartbeats 8000000
namespace Go.Proofs.YtaidhenkijjcfaaGreat
open Go.RowKit
set_option linter.unusedVariables false
structure Tg (T1 T2:TypeId) (zs ps:List Value) (w S:World) (os:List Value):Prop where
  p:Blk S w.heap.size T1 ps
  r:Blk S (w.heap.size+1) T2 zs
  o:Blk S (w.heap.size+2) T2 os
  b:Below w.heap.size w S
theorem Tg.lt {T1 T2:TypeId} {zs ps os:List Value} {w S:World} (h:Tg T1 T2 zs ps w S os):w.heap.size+3<=S.heap.size:=by have:=h.o.lt;omega
theorem Tg.call {T1 T2:TypeId} {zs ps os:List Value} {w S S':World} (h:Tg T1 T2 zs ps w S os) (hb:Below S.heap.size S S'):Tg T1 T2 zs ps w S' os :=
  ⟨h.p.below hb h.p.lt,h.r.below hb h.r.lt,h.o.below hb h.o.lt,h.b.trans (hb.mono h.b.size)⟩
theorem Tg.put {T1 T2:TypeId} {zs ps os:List Value} {w S:World} (h:Tg T1 T2 zs ps w S os) (j:Nat) (u:Value):Tg T1 T2 zs ps w (S.setCell ⟨w.heap.size+2,j,none⟩ u) (os.set j u) :=
  ⟨h.p.otherC _ j u (by omega),h.r.otherC _ j u (by omega),h.o.setC j u,h.b.setCell (p:=⟨w.heap.size+2,j,none⟩) (show w.heap.size<=w.heap.size+2 by omega) u⟩
theorem tg_oth {w S S':World} (hb:Below S.heap.size S S') (j:Nat) (u:Value):Oth (fun g=>g=w.heap.size+2) S (S'.setCell ⟨w.heap.size+2,j,none⟩ u) :=
  (Oth.of_below (S:=fun g=>g=w.heap.size+2) hb).set (g:=w.heap.size+2) rfl j u
theorem Blk.there {W:World} {B n:Nat} {t:TypeId} {cs:List Value} (h:Blk W B t cs) (hn:cs.length=n):W.there B 0 n:=fun j hj=>by
  rw [Nat.zero_add]
  exact ⟨by rw [h.cell j,List.getElem?_eq_getElem (by omega)];rfl,h.frozen j⟩
theorem blk_sets {B:Nat} {t:TypeId}:∀ (ys:List Value) (W:World) (o:Nat) (xs:List Value),Blk W B t xs->Blk (W.setCells B o ys) B t (setAll xs o ys)
  | [],W,o,xs,h=>h
  | y :: ys,W,o,xs,h=>blk_sets ys _ (o+1) _ (h.setC o y)
theorem size_sets (g:Nat):∀ (ys:List Value) (w:World) (o:Nat),(w.setCells g o ys).heap.size=w.heap.size
  | [],w,o=>rfl
  | y :: ys,w,o=>(size_sets g ys _ (o+1)).trans (by simp)
theorem blk_all {W:World} {B:Nat} {t:TypeId} {xs ys:List Value} (h:Blk W B t xs) (hl:xs.length=ys.length):Blk (W.setCells B 0 ys) B t ys:=by
  have e:=blk_sets ys W 0 xs h
  have e2:=setAll_whole ys xs [] hl
  simp only [List.nil_append,List.length_nil] at e2
  rw [e2] at e
  exact e
structure FewPf (p:Pf):Prop where
  nb:p.bs.length<=4000000
  fb:∀ b ∈ p.bs,FewK b
  nw:p.qw.length<=4000000
theorem Tryz.infoPf:(Tryz.prog.info? 42).map (·.size)=some 5:=by kernel_rfl
theorem res_toProof {X:World} {a:Act} {R:Ending->World->Prop} {F:List Value} (g:Nat) (h:X.rangeAt g 0 F) (h2:a.tmps[2]?.getD undef=.pointer (some ⟨g,0,none⟩)) (hs:(Tryz.prog.info? 42).map (·.size)=some F.length) (hd:a.defers=[]) (hR:R (.returned (.agg F.toArray)) X):bodyPost Tryz.prog Tryz.f10 R .ret a X:=by
  have hl:=run_loadVar_mid (P:=Tryz.prog) X g 0 42 F _ h Tryz.underlying42 rfl hs
  refine bodyPost_ret (v:=.agg F.toArray) ?_ hd hR
  simp [results,Tryz.f10,h2,asAddr,hl]
theorem toProof_any (p:Pf) (u:Pv) (w:World) (hr:RdPf w p u) (hf:FewPf p) :
    Calls Tryz.prog 10 #[pfV p u] w fun e w'=>∃ u',e=.returned (pfV p u')/\OwnPf w.heap.size w'.heap.size w' p u'/\Below w.heap.size w w':=by
  have hnb:=hf.nb
  have hfb:=hf.fb
  have hnw:=hf.nw
  clear hf
  obtain ⟨ep,bs,qr,qb,qw⟩:=p
  obtain ⟨yb,yw⟩:=u
  obtain ⟨hyb,hyw⟩:=hr
  simp only at *
  obtain ⟨adb,cpb,rfl⟩:=hyb.shape
  obtain ⟨adw,cpw,rfl⟩:=hyw.shape
  have E1:=hide (fun V (hV:Below w.heap.size w V)=>toBlockS_any (.slice adb bs.length cpb) bs V (hyb.below hV (Nat.le_refl _)) hnb hfb)
  have E2:=hide (fun V (hV:Below w.heap.size w V)=>toQc_any qr qb (.slice adw qw.length cpw) qw V (hyw.below hV (Nat.le_refl _)) hnw)
  clear hyb hyw
  clear hfb
  simp only [pfV,qcV] at *
  go_enter Tryz.func10,Tryz.ntmps10
  go_wp2_with fail
  obtain ⟨S0,hS0⟩:∃ x,((w.alloc (.cells #[.int .i64 ep,.slice adb bs.length cpb,.int .i64 qr,.int .i64 qb,.slice adw qw.length cpw] 30)).alloc (.cells #[.int .i64 0,.slice none 0 0,.int .i64 0,.int .i64 0,.slice none 0 0] 42)).alloc (.cells #[.int .i64 ep,.slice none 0 0,.int .i64 0,.int .i64 0,.slice none 0 0] 42)=x:=⟨_,rfl⟩
  rw [hS0]
  have C0:=hide (show Tg 30 42 [.int .i64 0,.slice none 0 0,.int .i64 0,.int .i64 0,.slice none 0 0] [.int .i64 ep,.slice adb bs.length cpb,.int .i64 qr,.int .i64 qb,.slice adw qw.length cpw] w S0 [.int .i64 ep,.slice none 0 0,.int .i64 0,.int .i64 0,.slice none 0 0] from by
    rw [<- hS0]
    exact ⟨(Blk.new w _ _).below (((Below.refl (w.heap.size+1) _).alloc (by simp) _).alloc (by simp) _) (by omega),(Blk.newR _ _ [.int .i64 0,.slice none 0 0,.int .i64 0,.int .i64 0,.slice none 0 0] _ (by simp)).below ((Below.refl (w.heap.size+2) _).alloc (by simp) _) (by omega),Blk.newR _ _ [.int .i64 ep,.slice none 0 0,.int .i64 0,.int .i64 0,.slice none 0 0] _ (by simp),(((Below.refl _ w).alloc (Nat.le_refl _) _).alloc (by simp) _).alloc (by simp;omega) _⟩)
  clear hS0
  refine (E1.out S0 C0.out.b).mono ?_
  rintro e w1 ⟨v1,rfl,o1,hb1⟩
  obtain ⟨bdb,bpb,rfl⟩:=o1.rd.shape
  have G1:=C0.out.call hb1
  have q1:=G1.o.cell 1
  have g1:=G1.o.frozen 1
  simp only [List.getElem?_cons_zero,List.getElem?_cons_succ] at q1
  obtain ⟨S1,hS1⟩:∃ x,(w1).setCell ⟨w.heap.size+2,1,none⟩ (.slice bdb bs.length bpb)=x:=⟨_,rfl⟩
  have C1:=hide (show Tg 30 42 [.int .i64 0,.slice none 0 0,.int .i64 0,.int .i64 0,.slice none 0 0] [.int .i64 ep,.slice adb bs.length cpb,.int .i64 qr,.int .i64 qb,.slice adw qw.length cpw] w S1 [.int .i64 ep,.slice bdb bs.length bpb,.int .i64 0,.int .i64 0,.slice none 0 0] from by rw [<- hS1];exact (G1.put 1 _))
  have P1:=hide (show Oth (fun g=>g=w.heap.size+2) S0 S1 from by rw [<- hS1];exact (tg_oth hb1 1 _))
  have N1:=hide (show w1.heap.size=S1.heap.size from by rw [<- hS1];simp)
  have Rb:=hide (show OwnKx S0.heap.size S1.heap.size S1 (.slice bdb bs.length bpb) bs from by rw [<- N1.out,<- hS1];exact ((OwnKs.kx o1)).kept (Kept.set _ 1 _ (.inl (by have:=C0.out.lt;omega))))
  clear G1 hb1 o1
  have p2:=C1.out.p.cell 2
  have p3:=C1.out.p.cell 3
  have p4:=C1.out.p.cell 4
  simp only [List.getElem?_cons_zero,List.getElem?_cons_succ] at p2 p3 p4
  go_wp2_with fail
  (try rw [hS1])
  clear p2 p3 p4 q1 g1  hS1
  refine (E2.out S1 C1.out.b).mono ?_
  rintro e w2 ⟨v2,rfl,o2,hb2⟩
  obtain ⟨bdw,bpw,rfl⟩:=o2.rd.shape
  have G2:=C1.out.call hb2
  have q2:=G2.o.cell 2
  have g2:=G2.o.frozen 2
  have q3:=G2.o.cell 3
  have g3:=G2.o.frozen 3
  have q4:=G2.o.cell 4
  have g4:=G2.o.frozen 4
  simp only [List.getElem?_cons_zero,List.getElem?_cons_succ] at q2 q3 q4
  obtain ⟨S2,hS2⟩:∃ x,(((w2).setCell ⟨w.heap.size+2,2,none⟩ (.int .i64 qr)).setCell ⟨w.heap.size+2,3,none⟩ (.int .i64 qb)).setCell ⟨w.heap.size+2,4,none⟩ (.slice bdw qw.length bpw)=x:=⟨_,rfl⟩
  have C2:=hide (show Tg 30 42 [.int .i64 0,.slice none 0 0,.int .i64 0,.int .i64 0,.slice none 0 0] [.int .i64 ep,.slice adb bs.length cpb,.int .i64 qr,.int .i64 qb,.slice adw qw.length cpw] w S2 [.int .i64 ep,.slice bdb bs.length bpb,.int .i64 qr,.int .i64 qb,.slice bdw qw.length bpw] from by rw [<- hS2];exact (((G2.put 2 _).put 3 _).put 4 _))
  have P2:=hide (show Oth (fun g=>g=w.heap.size+2) S1 S2 from by rw [<- hS2];exact (((tg_oth hb2 2 _).set (S:=fun g=>g=w.heap.size+2) rfl 3 _).set (S:=fun g=>g=w.heap.size+2) rfl 4 _))
  have N2:=hide (show w2.heap.size=S2.heap.size from by rw [<- hS2];simp)
  have Rw:=hide (show InS S1.heap.size S2.heap.size S2 (.slice bdw qw.length bpw) qw from by rw [<- N2.out,<- hS2];exact ((InS.of o2)).kept (((Kept.set _ 2 _ (.inl (by have:=C1.out.lt;omega))).trans (Kept.set _ 3 _ (.inl (by have:=C1.out.lt;omega)))).trans (Kept.set _ 4 _ (.inl (by have:=C1.out.lt;omega)))))
  clear G2 hb2 o2
  have hz0:=C0.out.lt
  obtain ⟨F,hF⟩:∃ x,([.int .i64 ep,.slice bdb bs.length bpb,.int .i64 qr,.int .i64 qb,.slice bdw qw.length bpw]:List Value)=x:=⟨_,rfl⟩
  have hFl:F.length=5:=by rw [<- hF];rfl
  have hF1:F.toArray.all (·.oneCell')=true:=by rw [List.all_toArray,<- hF];rfl
  have Hsz:=hide (show (Tryz.prog.info? 42).map (·.size)=some F.length from by rw [hFl];exact Tryz.infoPf)
  have Hld:=hide (show S2.rangeAt (w.heap.size+2) 0 F from by rw [<- hF];exact blk_range C2.out.o)
  have HRk:=hide (show Blk S2 (w.heap.size+1) 42 [.int .i64 0,.slice none 0 0,.int .i64 0,.int .i64 0,.slice none 0 0] from C2.out.r)
  have Hth:=hide (show S2.there (w.heap.size+1) 0 F.toArray.size from by rw [show F.toArray.size=5 from by simpa using hFl];exact HRk.out.there rfl)
  have HX:=hide (show Blk (S2.setCells (w.heap.size+1) 0 F) (w.heap.size+1) 42 F from by rw [<- hF];exact blk_all HRk.out (by rfl))
  have HB:=hide (C2.out.b.trans (putC_below (B:=w.heap.size) (show w.heap.size<=w.heap.size+1 by omega) F S2 0))
  have Y1:=(show S0.heap.size<=S1.heap.size from P1.out.size)
  have Y2:=(show S1.heap.size<=S2.heap.size from P2.out.size)
  have Fb:=hide (show OwnKx S0.heap.size S1.heap.size (S2.setCells (w.heap.size+1) 0 F) (.slice bdb bs.length bpb) bs from ((Rb.out.kept (Kept.of_oth P2.out (fun g a b e=>by have e9:g=w.heap.size+2:=e;omega))).kept (Kept.setCs _ 0 F (.inl (by omega)))))
  have Fw:=hide (show InS S1.heap.size S2.heap.size (S2.setCells (w.heap.size+1) 0 F) (.slice bdw qw.length bpw) qw from (Rw.out.kept (Kept.setCs _ 0 F (.inl (by omega)))))
  have FZ:=hide (show (S2.setCells (w.heap.size+1) 0 F).heap.size=S2.heap.size from size_sets _ F _ 0)
  have FY:=hide (show w.heap.size<=S0.heap.size from by omega)
  have W1:=hide Y1
  have W2:=hide Y2
  clear hz0 Y1 Y2 Rb Rw P1 C1 N1 P2 C2 N2 E1 E2 C0 HRk hFl
  go_wp2_with (first
    | (refine wpList_load_mid rfl 42 _ rfl (w.heap.size+2) 0 rfl F _ Hld.out Tryz.underlying42 rfl Hsz.out ?_)
    | (refine wpList_store_mid rfl 42 _ _ rfl (w.heap.size+1) 0 F.toArray rfl rfl Hth.out (by simpa using Hsz.out) hF1 ?_)
    | fail)
  (try rw [hS2])
  (try simp only [List.toList_toArray])
  refine res_toProof (F:=F) (w.heap.size+1) (blk_range HX.out) (by rfl) Hsz.out rfl ?_
  subst hF
  have fz:=FZ.out
  have fy:=FY.out
  have o1:=W1.out
  have o2:=W2.out
  refine ⟨⟨.slice bdb bs.length bpb,.slice bdw qw.length bpw⟩,rfl,⟨⟨S0.heap.size,S1.heap.size,S2.heap.size,by omega,by omega,by omega,by omega,Fb.out.wide (by omega) (by omega),Fw.out.wide (by omega) (by omega)⟩⟩,HB.out⟩
theorem pfC_one {w:World} {p:Pf} {u:Pv} (h:RdPf w p u):(pfC p u).all (·.oneCell')=true:=by
  obtain ⟨adb,cpb,eqb⟩:=h.kb.shape
  obtain ⟨adw,cpw,eqw⟩:=h.kw.shape
  simp [pfC,Value.oneCell',eqb,eqw]
end Go.Proofs.YtaidhenkijjcfaaGreat
