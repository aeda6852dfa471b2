/- NodeNew, on both sides. -/
import Derived.Test.YthidkbhiikdokaaGreatZwKsMem
import Derived.Test.YthidkbhiikdokaaGreatZwTxMarkC
import Derived.Test.YthidkbhiikdokaaGreatZwInsRow
set_option maxRecDepth 20000
set_option maxHeartbeats 8000000
namespace Go.Proofs.YthidkbhiikdokaaGreat
open Go.RowKit
set_option linter.unusedVariables false
structure Tg (T1 T2:TypeId) (zs ps:List Value) (w S:World) (os:List Value):Prop where
  p:Blk S w.heap.size T1 ps
  r:Blk S (w.heap.size+1) T2 zs
  o:Blk S (w.heap.size+2) T2 os
  b:Below w.heap.size w S
theorem Blk.there {W:World} {B n:Nat} {t:TypeId} {cs:List Value} (h:Blk W B t cs) (hn:cs.length=n):W.there B 0 n:=fun j hj=>by
  rw [Nat.zero_add]
  exact ⟨by rw [h.cell j,List.getElem?_eq_getElem (by omega)];rfl,h.frozen j⟩
theorem blk_sets {B:Nat} {t:TypeId}:∀ (ys:List Value) (W:World) (o:Nat) (xs:List Value),Blk W B t xs->Blk (W.setCells B o ys) B t (setAll xs o ys)
  | [],W,o,xs,h=>h
  | y :: ys,W,o,xs,h=>blk_sets ys _ (o+1) _ (h.setC o y)
theorem size_sets (g:Nat):∀ (ys:List Value) (w:World) (o:Nat),(w.setCells g o ys).heap.size=w.heap.size
  | [],w,o=>rfl
  | y :: ys,w,o=>(size_sets g ys _ (o+1)).trans (by simp)
theorem blk_all {W:World} {B:Nat} {t:TypeId} {xs ys:List Value} (h:Blk W B t xs) (hl:xs.length=ys.length):Blk (W.setCells B 0 ys) B t ys:=by
  have e:=blk_sets ys W 0 xs h
  have e2:=setAll_whole ys xs [] hl
  simp only [List.nil_append,List.length_nil] at e2
  rw [e2] at e
  exact e
def NdP (nm:ByteArray) (e:Int) (l:List Ac) (w:World) (en:Ending) (w':World):Prop :=
  ((nmB nm && lgB e l)=true/\∃ (aa:Option Addr) (ca:Nat) (av:Option Addr) (cs base hi:Nat),en=.returned (ndV nm e (.slice aa l.length ca) (.slice av (setV l).length cs) 1 (-1))/\OwnX base hi w' (.slice aa l.length ca) l/\OwnV hi w' (.slice av (setV l).length cs) (setV l)/\w.heap.size<=base/\base<=hi/\hi<=w'.heap.size/\Below w.heap.size w w') \/
  ((nmB nm && lgB e l)=false/\en=.returned (ndV ⟨#[]⟩ 0 (.slice none 0 0) (.slice none 0 0) 0 0)/\Below w.heap.size w w')
theorem st20 {ops:Array Oper} {rest:List Oper} {op:Oper} {a:Act} {w:World} {Q:Exit->Act->World->Prop} (hgd:op.guard=none) (x y:Operand) (ho:op.op=.store 65 x y) (b:Nat) {u0 u1 u2 u3 u4 u5 u6 u7 u8 u9 u10 u11 u12 u13 u14 u15 u16 u17 u18 u19:Value} (hx:a.eval x=.pointer (some ⟨b,0,none⟩)) (hy:a.eval y=.agg #[u0,u1,u2,u3,u4,u5,u6,u7,u8,u9,u10,u11,u12,u13,u14,u15,u16,u17,u18,u19]) (ht:w.there b 0 20) (h1:([u0,u1,u2,u3,u4,u5,u6,u7,u8,u9,u10,u11,u12,u13,u14,u15,u16,u17,u18,u19]:List Value).all (·.oneCell')=true) (h:wpList Tryz.prog ops Q rest (a.put op.dst undef) (w.setCells b 0 [u0,u1,u2,u3,u4,u5,u6,u7,u8,u9,u10,u11,u12,u13,u14,u15,u16,u17,u18,u19])):wpList Tryz.prog ops Q (op :: rest) a w :=
  wpList_store_mid hgd 65 x y ho b 0 #[u0,u1,u2,u3,u4,u5,u6,u7,u8,u9,u10,u11,u12,u13,u14,u15,u16,u17,u18,u19] hx hy ht (by kernel_rfl) (by rw [<- List.all_toArray] at h1;exact h1) h
theorem wst20 {op:Oper} {a:Act} {w:World} {K:Act->World->Prop} {Q:Exit->Act->World->Prop} (x y:Operand) (ho:op.op=.store 65 x y) (b:Nat) {u0 u1 u2 u3 u4 u5 u6 u7 u8 u9 u10 u11 u12 u13 u14 u15 u16 u17 u18 u19:Value} (hx:a.eval x=.pointer (some ⟨b,0,none⟩)) (hy:a.eval y=.agg #[u0,u1,u2,u3,u4,u5,u6,u7,u8,u9,u10,u11,u12,u13,u14,u15,u16,u17,u18,u19]) (ht:w.there b 0 20) (h1:([u0,u1,u2,u3,u4,u5,u6,u7,u8,u9,u10,u11,u12,u13,u14,u15,u16,u17,u18,u19]:List Value).all (·.oneCell')=true) (h:K (a.put op.dst undef) (w.setCells b 0 [u0,u1,u2,u3,u4,u5,u6,u7,u8,u9,u10,u11,u12,u13,u14,u15,u16,u17,u18,u19])):op.wp Tryz.prog a w K Q :=
  wp_store_mid 65 x y ho b 0 #[u0,u1,u2,u3,u4,u5,u6,u7,u8,u9,u10,u11,u12,u13,u14,u15,u16,u17,u18,u19] hx hy ht (by kernel_rfl) (by rw [<- List.all_toArray] at h1;exact h1) h
theorem blkS20 {W:World} {B:Nat} {t:TypeId} {z0 z1 z2 z3 z4 z5 z6 z7 z8 z9 z10 z11 z12 z13 z14 z15 z16 z17 z18 z19 u0 u1 u2 u3 u4 u5 u6 u7 u8 u9 u10 u11 u12 u13 u14 u15 u16 u17 u18 u19:Value} (h:Blk W B t [z0,z1,z2,z3,z4,z5,z6,z7,z8,z9,z10,z11,z12,z13,z14,z15,z16,z17,z18,z19]):Blk (W.setCells B 0 [u0,u1,u2,u3,u4,u5,u6,u7,u8,u9,u10,u11,u12,u13,u14,u15,u16,u17,u18,u19]) B t [u0,u1,u2,u3,u4,u5,u6,u7,u8,u9,u10,u11,u12,u13,u14,u15,u16,u17,u18,u19]:=blk20 h
theorem belS {lo B:Nat} {w X:World} {cs:List Value} (h:Below lo w X) (hB:lo<=B) (hX:w.heap.size<=X.heap.size) (hl:lo<=w.heap.size):Below lo w (X.setCells B 0 cs) :=
  h.grown (grown_setCells B cs 0 X) (Nat.le_trans hl hX) (fun k hk=>by cases hk;exact hB)
theorem oxS {base hi B:Nat} {X:World} {v:Value} {l:List Ac} {cs:List Value} (h:OwnX base hi X v l) (hB:B < base):OwnX base hi (X.setCells B 0 cs) v l :=
  h.btw (Btw.of_grown (lo:=0) (hi:=base) (grown_setCells B cs 0 X) (fun k hk=>⟨Nat.zero_le _,by cases hk;exact hB⟩)) (.inr (Nat.le_refl _))
theorem ovS {base B:Nat} {X:World} {v:Value} {l:List Vl} {cs:List Value} (h:OwnV base X v l) (hB:B < base):OwnV base (X.setCells B 0 cs) v l :=
  World.ownsRow.kept h (grown_setCells B cs 0 X) (.inr fun e=>by have:=h.ge B e;omega)
theorem sizeS {B:Nat} {X:World} {cs:List Value}:X.heap.size<=(X.setCells B 0 cs).heap.size:=(grown_setCells B cs 0 X).size
theorem res_ndS {X:World} {a:Act} {R:Ending->World->Prop} {nm:ByteArray} {e rd hb:Int} {va vs:Value} (g:Nat) (h:Blk X g 65 (ndC nm e va vs rd hb)) (h4:a.tmps[4]?.getD undef=.pointer (some ⟨g,0,none⟩)) (hd:a.defers=[]) (hR:R (.returned (ndV nm e va vs rd hb)) X):bodyPost Tryz.prog Tryz.f22 R .ret a X:=by
  have hl:=run_loadVar_mid (P:=Tryz.prog) X g 0 65 (ndC nm e va vs rd hb) _ (fun j u hu=>by rw [Nat.zero_add];exact (h.cell j).trans hu) Tryz.underlying65 rfl (by simp only [ndC,List.length_cons,List.length_nil];kernel_rfl)
  refine bodyPost_ret (v:=ndV nm e va vs rd hb) ?_ hd hR
  simp [results,Tryz.f22,h4,asAddr,hl,ndC,ndV]
theorem res_ndI {X:World} {a:Act} {R:Ending->World->Prop} {nm:ByteArray} {e rd hb:Int} {va vs:Value} (g:Nat) (h:Blk X g 65 (ndC nm e va vs rd hb)) (h4:a.tmps[4]?.getD undef=.pointer (some ⟨g,0,none⟩)) (hd:a.defers=[]) (hR:R (.returned (ndV nm e va vs rd hb)) X):bodyPost Tryz.prog Tryz.f28 R .ret a X:=by
  have hl:=run_loadVar_mid (P:=Tryz.prog) X g 0 65 (ndC nm e va vs rd hb) _ (fun j u hu=>by rw [Nat.zero_add];exact (h.cell j).trans hu) Tryz.underlying65 rfl (by simp only [ndC,List.length_cons,List.length_nil];kernel_rfl)
  refine bodyPost_ret (v:=ndV nm e va vs rd hb) ?_ hd hR
  simp [results,Tryz.f28,h4,asAddr,hl,ndC,ndV]
theorem res_ndB {X:World} {a:Act} {R:Ending->World->Prop} {nm:ByteArray} {e rd hb:Int} {va vs:Value} (g:Nat) (h:Blk X g 65 (ndC nm e va vs rd hb)) (h4:a.tmps[6]?.getD undef=.pointer (some ⟨g,0,none⟩)) (hd:a.defers=[]) (hR:R (.returned (ndV nm e va vs rd hb)) X):bodyPost Tryz.prog Tryz.f58 R .ret a X:=by
  have hl:=run_loadVar_mid (P:=Tryz.prog) X g 0 65 (ndC nm e va vs rd hb) _ (fun j u hu=>by rw [Nat.zero_add];exact (h.cell j).trans hu) Tryz.underlying65 rfl (by simp only [ndC,List.length_cons,List.length_nil];kernel_rfl)
  refine bodyPost_ret (v:=ndV nm e va vs rd hb) ?_ hd hR
  simp [results,Tryz.f58,h4,asAddr,hl,ndC,ndV]
theorem specNodeNew_any (nm:ByteArray) (e:Int) (v:Value) (l:List Ac) (w:World) (hr:RdA w v l) (hn:nm.size<=maxLen) (hl:l.length<=4000000) (hall:∀ a ∈ l,a.1.size<=maxLen/\a.2.2.2.2.length<=4000000) :
    Calls Tryz.prog 22 #[.string nm,lgV e v] w fun en w'=>NdP nm e l w en w':=by
  obtain ⟨av0,cv0,rfl⟩:=hr.shape
  simp only [lgV]
  obtain ⟨w1,hw1⟩:∃ x,w.alloc (.cells #[.int .i64 e,.slice av0 l.length cv0] 30)=x:=⟨_,rfl⟩
  obtain ⟨w2,hw2⟩:∃ x,w1.alloc (.cells #[.string { data:=#[] },.int .i64 0,.int .i64 0,.slice none 0 0,.slice none 0 0,.slice none 0 0,.int .i64 0,.int .i64 0,.int .i64 0,.int .i64 0,.slice none 0 0,.int .i64 0,.slice none 0 0,.slice none 0 0,.int .i64 0,.slice none 0 0,.slice none 0 0,.slice none 0 0,.slice none 0 0,.slice none 0 0] 65)=x:=⟨_,rfl⟩
  have b1:Below w.heap.size w w1:=by rw [<- hw1];exact (Below.refl _ w).alloc (Nat.le_refl _) _
  have b2:Below w1.heap.size w1 w2:=by rw [<- hw2];exact (Below.refl _ w1).alloc (Nat.le_refl _) _
  have s1:w1.heap.size=w.heap.size+1:=by rw [<- hw1];simp
  have s2:w2.heap.size=w.heap.size+2:=by rw [<- hw2];simp;omega
  have k1:Blk w1 w.heap.size 30 [.int .i64 e,.slice av0 l.length cv0]:=by rw [<- hw1];exact Blk.new w _ _
  have k2:Blk w2 (w.heap.size+1) 65 [.string { data:=#[] },.int .i64 0,.int .i64 0,.slice none 0 0,.slice none 0 0,.slice none 0 0,.int .i64 0,.int .i64 0,.int .i64 0,.int .i64 0,.slice none 0 0,.int .i64 0,.slice none 0 0,.slice none 0 0,.int .i64 0,.slice none 0 0,.slice none 0 0,.slice none 0 0,.slice none 0 0,.slice none 0 0]:=by rw [<- hw2,<- s1];exact Blk.new w1 _ _
  have k1':=k1.below b2 k1.lt
  have b02:=b1.trans (b2.mono b1.size)
  have HKL:=hide (fun V (hV:Below (w.heap.size+1) w2 V)=>k1'.below hV (by omega))
  have HKR:=hide (fun V (hV:Below w2.heap.size w2 V)=>k2.below hV k2.lt)
  have Hr:=hide (fun V (hV:Below w.heap.size w V)=>hr.below hV (Nat.le_refl _))
  have HB:=hide b02
  have HBl:Hid (∀ V,Below w2.heap.size w2 V->Below w.heap.size w V):=hide (fun V hV=>b02.trans (hV.mono b02.size))
  have HBk:Hid (∀ V,Below w2.heap.size w2 V->Below (w.heap.size+1) w2 V):=hide (fun V hV=>hV.mono (by omega))
  have c0:=k1'.cell 0
  have c1:=k1'.cell 1
  simp only [List.getElem?_cons_zero,List.getElem?_cons_succ] at c0 c1
  clear b1 b2 k1 k2 k1' b02 hr
  have HLO:=hide (fun V (hV:Below w.heap.size w V)=>specLedgerOk_any e _ l V (Hr.out V hV) hl hall)
  have HCp:=hide (fun V (hV:Below w.heap.size w V)=>specL6Copy_any e _ l V (Hr.out V hV) hl (fun a ha=>(hall a ha).2))
  have HSe:=hide (fun V (hV:Below w.heap.size w V)=>specL7Set_any e _ l V (Hr.out V hV) hl)
  simp only [lgV] at HLO HCp HSe
  unfold NdP
  cases hnm:nmB nm
  · have HF:Hid ((false && lgB e l)=false):=hide rfl
    have HNm:=hide (specNameOk_any nm w2 hn)
    rw [hnm] at HNm
    clear hnm
    go_enter Tryz.func22,Tryz.ntmps22
    go_wp2_with fail
    refine HNm.out.mono ?_
    rintro en w2 ⟨rfl,rfl⟩
    have kr9:=HKR.out w2 (Below.refl _ _)
    have KR9:=hide kr9
    have HT:=hide (kr9.there (n:=20) rfl)
    clear kr9
    go_wp2_with (refine st20 rfl _ _ rfl (w.heap.size+1) rfl rfl HT.out rfl ?_)
    refine res_ndS (nm:=⟨#[]⟩) (e:=0) (va:=.slice none 0 0) (vs:=.slice none 0 0) (rd:=0) (hb:=0) (w.heap.size+1) (blkS20 KR9.out) (by rfl) rfl ?_
    exact .inr ⟨HF.out,rfl,belS HB.out (by omega) HB.out.size (Nat.le_refl _)⟩
  · have HNm:=hide (specNameOk_any nm w2 hn)
    rw [hnm] at HNm
    clear hnm
    cases hlg:lgB e l
    · have HF:Hid ((true && false)=false):=hide rfl
      rw [hlg] at HLO
      clear hlg
      go_enter Tryz.func22,Tryz.ntmps22
      go_wp2_with fail
      refine HNm.out.mono ?_
      rintro en w2 ⟨rfl,rfl⟩
      go_wp2_with fail
      refine (HLO.out w2 HB.out).mono ?_
      rintro en w3 ⟨rfl,hb3⟩
      have HB3:=hide (HBl.out w3 hb3)
      have B3:=hide hb3
      clear hb3
      have kr9:=HKR.out w3 B3.out
      have KR9:=hide kr9
      have HT:=hide (kr9.there (n:=20) rfl)
      clear kr9
      go_wp2_with (refine st20 rfl _ _ rfl (w.heap.size+1) rfl rfl HT.out rfl ?_)
      refine res_ndS (nm:=⟨#[]⟩) (e:=0) (va:=.slice none 0 0) (vs:=.slice none 0 0) (rd:=0) (hb:=0) (w.heap.size+1) (blkS20 KR9.out) (by rfl) rfl ?_
      exact .inr ⟨HF.out,rfl,belS HB3.out (by omega) HB3.out.size (Nat.le_refl _)⟩
    · rw [hlg] at HLO
      clear hlg
      go_enter Tryz.func22,Tryz.ntmps22
      go_wp2_with fail
      refine HNm.out.mono ?_
      rintro en w2 ⟨rfl,rfl⟩
      go_wp2_with fail
      refine (HLO.out w2 HB.out).mono ?_
      rintro en w3 ⟨rfl,hb3⟩
      have B3:=hide hb3
      have bD:Below w2.heap.size w2 w3.drew:=hb3.drew
      have HS:Hid (∀ V,Below w2.heap.size w2 V->(V.cell? ⟨w.heap.size,0,none⟩=some (.int .i64 e)/\V.cell? ⟨w.heap.size,1,none⟩=some (.slice av0 l.length cv0))):=hide (fun V hV=>⟨(HKL.out V (HBk.out V hV)).cell 0,(HKL.out V (HBk.out V hV)).cell 1⟩)
      have HS2:Hid (∀ V,Below (w.heap.size+1) w2 V->(V.cell? ⟨w.heap.size,0,none⟩=some (.int .i64 e)/\V.cell? ⟨w.heap.size,1,none⟩=some (.slice av0 l.length cv0))):=hide (fun V hV=>⟨(HKL.out V hV).cell 0,(HKL.out V hV).cell 1⟩)
      have hS0:=HS.out _ bD
      have gD:=HBl.out _ bD
      clear hb3 c0 c1
      go_wp2
      refine wp_region_held_drew (S:=fun w'=>w'.cell? ⟨w.heap.size,0,none⟩=some (.int .i64 e)/\w'.cell? ⟨w.heap.size,1,none⟩=some (.slice av0 l.length cv0)) (by kernel_rfl) hS0 (fun hHeld=>?_)
      refine wpAnyH_take (i:=0) (v:=.string nm) rfl (by kernel_rfl) (by kernel_rfl) (by kernel_rfl) (fun _ _ _ h=>h) (Or.inl ⟨by rfl,fun W hW=>by (obtain ⟨q0,q1⟩:=hW;go_simp)⟩) (by assumption) ?_
      change wpAnyH Tryz.prog _ _ _ _ _ _ (Act.put _ (some 14) _) _
      simp only [Act.put,List.setIfInBounds_toArray,List.set_cons_zero,List.set_cons_succ]
      refine wpAnyH_take (i:=1) (v:=.pointer (some ⟨w.heap.size,0,none⟩)) rfl (by kernel_rfl) (by kernel_rfl) (by kernel_rfl) (fun _ _ _ h=>h) (Or.inl ⟨by rfl,fun W hW=>by (obtain ⟨q0,q1⟩:=hW;go_simp)⟩) (by assumption) ?_
      change wpAnyH Tryz.prog _ _ _ _ _ _ (Act.put _ (some 15) _) _
      simp only [Act.put,List.setIfInBounds_toArray,List.set_cons_zero,List.set_cons_succ]
      refine wpAnyH_take (i:=2) (v:=.int .i64 e) rfl (by kernel_rfl) (by kernel_rfl) (by kernel_rfl) (fun _ _ _ h=>h) (Or.inl ⟨by rfl,fun W hW=>by (obtain ⟨q0,q1⟩:=hW;go_simp)⟩) (by assumption) ?_
      change wpAnyH Tryz.prog _ _ _ _ _ _ (Act.put _ (some 16) _) _
      simp only [Act.put,List.setIfInBounds_toArray,List.set_cons_zero,List.set_cons_succ]
      refine wpAnyH_take (i:=3) (v:=.agg #[.int .i64 e,.slice av0 l.length cv0]) rfl (by kernel_rfl) (by kernel_rfl) (by kernel_rfl) (fun _ _ _ h=>h) (Or.inl ⟨by rfl,fun W hW=>by (obtain ⟨q0,q1⟩:=hW;go_simp)⟩) (by assumption) ?_
      change wpAnyH Tryz.prog _ _ _ _ _ _ (Act.put _ (some 17) _) _
      simp only [Act.put,List.setIfInBounds_toArray,List.set_cons_zero,List.set_cons_succ]
      refine wpAnyH_take (i:=5) (v:=.agg #[.int .i64 e,.slice av0 l.length cv0]) rfl (by kernel_rfl) (by kernel_rfl) (by kernel_rfl) (fun _ _ _ h=>h) (Or.inl ⟨by rfl,fun W hW=>by (obtain ⟨q0,q1⟩:=hW;go_simp)⟩) (by assumption) ?_
      change wpAnyH Tryz.prog _ _ _ _ _ _ (Act.put _ (some 19) _) _
      simp only [Act.put,List.setIfInBounds_toArray,List.set_cons_zero,List.set_cons_succ]
      refine wpAnyH_take (i:=7) (v:=.agg #[.int .i64 0,.int .i64 (-1),.slice none 0 0]) rfl (by kernel_rfl) (by kernel_rfl) (by kernel_rfl) (fun _ _ _ h=>h) (Or.inl ⟨by rfl,fun W hW=>by (obtain ⟨q0,q1⟩:=hW;go_simp)⟩) (by assumption) ?_
      change wpAnyH Tryz.prog _ _ _ _ _ _ (Act.put _ (some 21) _) _
      simp only [Act.put,List.setIfInBounds_toArray,List.set_cons_zero,List.set_cons_succ]
      refine wpAnyH_ready (rs:=[4]) (by kernel_rfl) (by simp) ?_
      refine AllReadyH.cons rfl (fun K hK=>?_) AllReadyH.nil
      go_simp
      go_wp2_with (go_at_call 20;(with_reducible refine (HCp.out w3.drew gD).mono ?_);rintro en w4 ⟨v4,rfl,o4,hb4⟩;obtain ⟨a4,c4,hv4⟩:=o4.rd.shape;subst hv4;have b4:=bD.trans (hb4.mono bD.size);have hS4:=HS.out _ b4;have g4:=HBl.out _ b4;have x4:=o4.ox)
      refine hK.out _ _ hS4 (fun hHeld=>?_)
      try simp only [Act.put,List.setIfInBounds_toArray,List.set_cons_zero,List.set_cons_succ]
      refine wpAnyH_ready (rs:=[6]) (by kernel_rfl) (by simp) ?_
      refine AllReadyH.cons rfl (fun K hK=>?_) AllReadyH.nil
      go_simp
      go_wp2_with (go_at_call 51;(with_reducible refine (HSe.out w4 g4).mono ?_);rintro en w5 ⟨v5,rfl,o5,hb5⟩;obtain ⟨a5,c5,hv5⟩:=o5.rd.shape;subst hv5;have b5:=b4.trans (hb5.mono b4.size);have hS5:=HS.out _ b5;have b5k:=HBk.out _ b5;have kr9:=HKR.out _ b5;have hT9:=kr9.there (n:=20) rfl;have hS9:=HS2.out _ (belS (cs:=[.string nm,.int .i64 e,.int .i64 e,.slice a4 l.length c4,.slice a5 (setV l).length c5,.slice none 0 0,.int .i64 1,.int .i64 0,.int .i64 0,.int .i64 (-1),.slice none 0 0,.int .i64 0,.slice none 0 0,.slice none 0 0,.int .i64 0,.slice none 0 0,.slice none 0 0,.slice none 0 0,.slice none 0 0,.slice none 0 0]) b5k (Nat.le_refl _) b5k.size (by omega)))
      refine hK.out _ _ hS5 (fun hHeld=>?_)
      try simp only [Act.put,List.setIfInBounds_toArray,List.set_cons_zero,List.set_cons_succ]
      refine wpAnyH_take (i:=8) (v:=.agg #[.string nm,.int .i64 e,.int .i64 e,.slice a4 l.length c4,.slice a5 (setV l).length c5,.slice none 0 0,.int .i64 1,.int .i64 0,.int .i64 0,.int .i64 (-1),.slice none 0 0,.int .i64 0,.slice none 0 0,.slice none 0 0,.int .i64 0,.slice none 0 0,.slice none 0 0,.slice none 0 0,.slice none 0 0,.slice none 0 0]) rfl (by kernel_rfl) (by kernel_rfl) (by kernel_rfl) (fun _ _ _ h=>h) (Or.inl ⟨by rfl,fun W hW=>by (obtain ⟨q0,q1⟩:=hW;go_simp)⟩) (by assumption) ?_
      change wpAnyH Tryz.prog _ _ _ _ _ _ (Act.put _ (some 22) _) _
      simp only [Act.put,List.setIfInBounds_toArray,List.set_cons_zero,List.set_cons_succ]
      refine wpAnyH_ready (rs:=[9]) (by kernel_rfl) (by simp) ?_
      refine AllReadyH.cons rfl (fun K hK=>?_) AllReadyH.nil
      refine wst20 _ _ rfl (w.heap.size+1) rfl rfl hT9 rfl ?_
      refine hK.out _ _ hS9 (fun hHeld=>?_)
      refine wpAnyH_done (by kernel_rfl) ?_ _
      have hz3:=B3.out.size
      have hz4:=hb4.size
      have hz5:=hb5.size
      have zD:w3.drew.heap.size=w3.heap.size:=rfl
      have KR:=hide kr9
      have HX:=hide (x4.below hb5 (Nat.le_refl _))
      have HV:=hide o5
      have HBz:=hide (HBl.out w5 b5)
      clear kr9 x4 o4 o5 hS0 hS4 hS5 hS9 hT9 hb4 hb5 g4 gD bD b4 b5k b5
      go_wp2
      refine res_ndS (nm:=nm) (e:=e) (va:=.slice a4 l.length c4) (vs:=.slice a5 (setV l).length c5) (rd:=1) (hb:=-1) (w.heap.size+1) (blkS20 KR.out) (by rfl) rfl ?_
      exact .inl ⟨rfl,a4,c4,a5,c5,w3.drew.heap.size,w4.heap.size,rfl,oxS HX.out (by omega),ovS HV.out (by omega),by omega,by omega,Nat.le_trans hz5 sizeS,belS HBz.out (by omega) HBz.out.size (Nat.le_refl _)⟩
theorem implRootQc_any (w:World):Calls Tryz.prog 87 #[] w fun en w'=>en=.returned (.agg #[.int .i64 0,.int .i64 (-1),.slice none 0 0])/\Below w.heap.size w w':=by
  obtain ⟨w1,hw1⟩:∃ x,w.alloc (.cells #[.int .i64 0,.int .i64 0,.slice none 0 0] 56)=x:=⟨_,rfl⟩
  have b1:Below w.heap.size w w1:=by rw [<- hw1];exact (Below.refl _ w).alloc (Nat.le_refl _) _
  have k1:Blk w1 w.heap.size 56 [.int .i64 0,.int .i64 0,.slice none 0 0]:=by rw [<- hw1];exact Blk.new w _ _
  have c0:=k1.cell 0
  have c1:=k1.cell 1
  have c2:=k1.cell 2
  have f0:=k1.frozen 0
  have f1:=k1.frozen 1
  have f2:=k1.frozen 2
  simp only [List.getElem?_cons_zero,List.getElem?_cons_succ] at c0 c1 c2
  have HB:=hide (((b1.setCell (p:=⟨w.heap.size,0,none⟩) (Nat.le_refl _) (.int .i64 0)).setCell (p:=⟨w.heap.size,1,none⟩) (Nat.le_refl _) (.int .i64 (-1))).setCell (p:=⟨w.heap.size,2,none⟩) (Nat.le_refl _) (.slice none 0 0))
  clear k1 b1
  go_enter Tryz.func87,Tryz.ntmps87
  go_wp2
  refine bodyPost_ret (v:=.agg #[.int .i64 0,.int .i64 (-1),.slice none 0 0]) (by simp [results,Tryz.f87,go_sem,c0,c1,c2]) rfl ?_
  exact ⟨rfl,HB.out⟩
theorem implBegun_any (nm:ByteArray) (e:Int) (aa av:Option Addr) (na ca ns cs:Nat) (w:World) :
    Calls Tryz.prog 58 #[.agg #[.string nm,.int .i64 0,.int .i64 0,.slice none 0 0,.slice none 0 0,.slice none 0 0,.int .i64 0,.int .i64 0,.int .i64 0,.int .i64 0,.slice none 0 0,.int .i64 0,.slice none 0 0,.slice none 0 0,.int .i64 0,.slice none 0 0,.slice none 0 0,.slice none 0 0,.slice none 0 0,.slice none 0 0],.agg #[.int .i64 e,.slice aa na ca],.slice av ns cs] w fun en w'=>en=.returned (ndV nm e (.slice aa na ca) (.slice av ns cs) 1 (-1))/\Below w.heap.size w w':=by
  obtain ⟨w1,hw1⟩:∃ x,w.alloc (.cells #[.string nm,.int .i64 0,.int .i64 0,.slice none 0 0,.slice none 0 0,.slice none 0 0,.int .i64 0,.int .i64 0,.int .i64 0,.int .i64 0,.slice none 0 0,.int .i64 0,.slice none 0 0,.slice none 0 0,.int .i64 0,.slice none 0 0,.slice none 0 0,.slice none 0 0,.slice none 0 0,.slice none 0 0] 65)=x:=⟨_,rfl⟩
  obtain ⟨w2,hw2⟩:∃ x,w1.alloc (.cells #[.int .i64 e,.slice aa na ca] 30)=x:=⟨_,rfl⟩
  obtain ⟨w3,hw3⟩:∃ x,w2.alloc (.cells #[.string { data:=#[] },.int .i64 0,.int .i64 0,.slice none 0 0,.slice none 0 0,.slice none 0 0,.int .i64 0,.int .i64 0,.int .i64 0,.int .i64 0,.slice none 0 0,.int .i64 0,.slice none 0 0,.slice none 0 0,.int .i64 0,.slice none 0 0,.slice none 0 0,.slice none 0 0,.slice none 0 0,.slice none 0 0] 65)=x:=⟨_,rfl⟩
  have b1:Below w.heap.size w w1:=by rw [<- hw1];exact (Below.refl _ w).alloc (Nat.le_refl _) _
  have b2:Below w1.heap.size w1 w2:=by rw [<- hw2];exact (Below.refl _ w1).alloc (Nat.le_refl _) _
  have b3:Below w2.heap.size w2 w3:=by rw [<- hw3];exact (Below.refl _ w2).alloc (Nat.le_refl _) _
  have s1:w1.heap.size=w.heap.size+1:=by rw [<- hw1];simp
  have s2:w2.heap.size=w.heap.size+2:=by rw [<- hw2];simp;omega
  have s3:w3.heap.size=w.heap.size+3:=by rw [<- hw3];simp;omega
  have k1:Blk w1 w.heap.size 65 [.string nm,.int .i64 0,.int .i64 0,.slice none 0 0,.slice none 0 0,.slice none 0 0,.int .i64 0,.int .i64 0,.int .i64 0,.int .i64 0,.slice none 0 0,.int .i64 0,.slice none 0 0,.slice none 0 0,.int .i64 0,.slice none 0 0,.slice none 0 0,.slice none 0 0,.slice none 0 0,.slice none 0 0]:=by rw [<- hw1];exact Blk.new w _ _
  have k2:Blk w2 (w.heap.size+1) 30 [.int .i64 e,.slice aa na ca]:=by rw [<- hw2,<- s1];exact Blk.new w1 _ _
  have k3:Blk w3 (w.heap.size+2) 65 [.string { data:=#[] },.int .i64 0,.int .i64 0,.slice none 0 0,.slice none 0 0,.slice none 0 0,.int .i64 0,.int .i64 0,.int .i64 0,.int .i64 0,.slice none 0 0,.int .i64 0,.slice none 0 0,.slice none 0 0,.int .i64 0,.slice none 0 0,.slice none 0 0,.slice none 0 0,.slice none 0 0,.slice none 0 0]:=by rw [<- hw3,<- s2];exact Blk.new w2 _ _
  have k1':=(k1.below b2 k1.lt).below b3 (by omega)
  have k2':=k2.below b3 k2.lt
  have b03:=(b1.trans (b2.mono b1.size)).trans (b3.mono (by omega))
  have HS:Hid (∀ V,Below (w.heap.size+2) w3 V->(V.cell? ⟨w.heap.size,0,none⟩=some (.string nm)/\V.cell? ⟨w.heap.size,17,none⟩=some (.slice none 0 0)/\V.cell? ⟨w.heap.size,18,none⟩=some (.slice none 0 0)/\V.cell? ⟨w.heap.size,19,none⟩=some (.slice none 0 0)/\V.cell? ⟨w.heap.size+1,0,none⟩=some (.int .i64 e)/\V.cell? ⟨w.heap.size+1,1,none⟩=some (.slice aa na ca))):=hide (fun V hV=>by
    have p:=k1'.below hV (by omega)
    have q:=k2'.below hV (by omega)
    exact ⟨p.cell 0,p.cell 17,p.cell 18,p.cell 19,q.cell 0,q.cell 1⟩)
  have HKR:=hide (fun V (hV:Below w3.heap.size w3 V)=>k3.below hV k3.lt)
  have HBl:Hid (∀ V,Below w3.heap.size w3 V->Below w.heap.size w V):=hide (fun V hV=>b03.trans (hV.mono b03.size))
  have HBk:Hid (∀ V,Below w3.heap.size w3 V->Below (w.heap.size+2) w3 V):=hide (fun V hV=>hV.mono (by omega))
  have bD:Below w3.heap.size w3 w3.drew:=(Below.refl _ w3).drew
  have hS0:=HS.out _ (HBk.out _ bD)
  clear b1 b2 b3 k1 k2 k3 k1' k2' b03
  go_enter Tryz.func58,Tryz.ntmps58
  go_wp2
  (try rw [hw3])
  refine wp_region_held_drew (S:=fun w'=>w'.cell? ⟨w.heap.size,0,none⟩=some (.string nm)/\w'.cell? ⟨w.heap.size,17,none⟩=some (.slice none 0 0)/\w'.cell? ⟨w.heap.size,18,none⟩=some (.slice none 0 0)/\w'.cell? ⟨w.heap.size,19,none⟩=some (.slice none 0 0)/\w'.cell? ⟨w.heap.size+1,0,none⟩=some (.int .i64 e)/\w'.cell? ⟨w.heap.size+1,1,none⟩=some (.slice aa na ca)) (by kernel_rfl) hS0 (fun hHeld=>?_)
  refine wpAnyH_take (i:=0) (v:=.pointer (some ⟨w.heap.size,0,none⟩)) rfl (by kernel_rfl) (by kernel_rfl) (by kernel_rfl) (fun _ _ _ h=>h) (Or.inl ⟨by rfl,fun W hW=>by (obtain ⟨q0,q1,q2,q3,q4,q5⟩:=hW;go_simp)⟩) (by assumption) ?_
  change wpAnyH Tryz.prog _ _ _ _ _ _ (Act.put _ (some 7) _) _
  simp only [Act.put,List.setIfInBounds_toArray,List.set_cons_zero,List.set_cons_succ]
  refine wpAnyH_take (i:=1) (v:=.string nm) rfl (by kernel_rfl) (by kernel_rfl) (by kernel_rfl) (fun _ _ _ h=>h) (Or.inl ⟨by rfl,fun W hW=>by (obtain ⟨q0,q1,q2,q3,q4,q5⟩:=hW;go_simp)⟩) (by assumption) ?_
  change wpAnyH Tryz.prog _ _ _ _ _ _ (Act.put _ (some 8) _) _
  simp only [Act.put,List.setIfInBounds_toArray,List.set_cons_zero,List.set_cons_succ]
  refine wpAnyH_take (i:=2) (v:=.pointer (some ⟨w.heap.size+1,0,none⟩)) rfl (by kernel_rfl) (by kernel_rfl) (by kernel_rfl) (fun _ _ _ h=>h) (Or.inl ⟨by rfl,fun W hW=>by (obtain ⟨q0,q1,q2,q3,q4,q5⟩:=hW;go_simp)⟩) (by assumption) ?_
  change wpAnyH Tryz.prog _ _ _ _ _ _ (Act.put _ (some 9) _) _
  simp only [Act.put,List.setIfInBounds_toArray,List.set_cons_zero,List.set_cons_succ]
  refine wpAnyH_take (i:=3) (v:=.int .i64 e) rfl (by kernel_rfl) (by kernel_rfl) (by kernel_rfl) (fun _ _ _ h=>h) (Or.inl ⟨by rfl,fun W hW=>by (obtain ⟨q0,q1,q2,q3,q4,q5⟩:=hW;go_simp)⟩) (by assumption) ?_
  change wpAnyH Tryz.prog _ _ _ _ _ _ (Act.put _ (some 10) _) _
  simp only [Act.put,List.setIfInBounds_toArray,List.set_cons_zero,List.set_cons_succ]
  refine wpAnyH_take (i:=4) (v:=.agg #[.int .i64 e,.slice aa na ca]) rfl (by kernel_rfl) (by kernel_rfl) (by kernel_rfl) (fun _ _ _ h=>h) (Or.inl ⟨by rfl,fun W hW=>by (obtain ⟨q0,q1,q2,q3,q4,q5⟩:=hW;go_simp)⟩) (by assumption) ?_
  change wpAnyH Tryz.prog _ _ _ _ _ _ (Act.put _ (some 11) _) _
  simp only [Act.put,List.setIfInBounds_toArray,List.set_cons_zero,List.set_cons_succ]
  refine wpAnyH_take (i:=5) (v:=.slice av ns cs) rfl (by kernel_rfl) (by kernel_rfl) (by kernel_rfl) (fun _ _ _ h=>h) (Or.inl ⟨by rfl,fun W hW=>by (obtain ⟨q0,q1,q2,q3,q4,q5⟩:=hW;go_simp)⟩) (by assumption) ?_
  change wpAnyH Tryz.prog _ _ _ _ _ _ (Act.put _ (some 12) _) _
  simp only [Act.put,List.setIfInBounds_toArray,List.set_cons_zero,List.set_cons_succ]
  refine wpAnyH_take (i:=7) (v:=.pointer (some ⟨w.heap.size,17,none⟩)) rfl (by kernel_rfl) (by kernel_rfl) (by kernel_rfl) (fun _ _ _ h=>h) (Or.inl ⟨by rfl,fun W hW=>by (obtain ⟨q0,q1,q2,q3,q4,q5⟩:=hW;go_simp)⟩) (by assumption) ?_
  change wpAnyH Tryz.prog _ _ _ _ _ _ (Act.put _ (some 14) _) _
  simp only [Act.put,List.setIfInBounds_toArray,List.set_cons_zero,List.set_cons_succ]
  refine wpAnyH_take (i:=8) (v:=.slice none 0 0) rfl (by kernel_rfl) (by kernel_rfl) (by kernel_rfl) (fun _ _ _ h=>h) (Or.inl ⟨by rfl,fun W hW=>by (obtain ⟨q0,q1,q2,q3,q4,q5⟩:=hW;go_simp)⟩) (by assumption) ?_
  change wpAnyH Tryz.prog _ _ _ _ _ _ (Act.put _ (some 15) _) _
  simp only [Act.put,List.setIfInBounds_toArray,List.set_cons_zero,List.set_cons_succ]
  refine wpAnyH_take (i:=9) (v:=.pointer (some ⟨w.heap.size,18,none⟩)) rfl (by kernel_rfl) (by kernel_rfl) (by kernel_rfl) (fun _ _ _ h=>h) (Or.inl ⟨by rfl,fun W hW=>by (obtain ⟨q0,q1,q2,q3,q4,q5⟩:=hW;go_simp)⟩) (by assumption) ?_
  change wpAnyH Tryz.prog _ _ _ _ _ _ (Act.put _ (some 16) _) _
  simp only [Act.put,List.setIfInBounds_toArray,List.set_cons_zero,List.set_cons_succ]
  refine wpAnyH_take (i:=10) (v:=.slice none 0 0) rfl (by kernel_rfl) (by kernel_rfl) (by kernel_rfl) (fun _ _ _ h=>h) (Or.inl ⟨by rfl,fun W hW=>by (obtain ⟨q0,q1,q2,q3,q4,q5⟩:=hW;go_simp)⟩) (by assumption) ?_
  change wpAnyH Tryz.prog _ _ _ _ _ _ (Act.put _ (some 17) _) _
  simp only [Act.put,List.setIfInBounds_toArray,List.set_cons_zero,List.set_cons_succ]
  refine wpAnyH_take (i:=11) (v:=.pointer (some ⟨w.heap.size,19,none⟩)) rfl (by kernel_rfl) (by kernel_rfl) (by kernel_rfl) (fun _ _ _ h=>h) (Or.inl ⟨by rfl,fun W hW=>by (obtain ⟨q0,q1,q2,q3,q4,q5⟩:=hW;go_simp)⟩) (by assumption) ?_
  change wpAnyH Tryz.prog _ _ _ _ _ _ (Act.put _ (some 18) _) _
  simp only [Act.put,List.setIfInBounds_toArray,List.set_cons_zero,List.set_cons_succ]
  refine wpAnyH_take (i:=12) (v:=.slice none 0 0) rfl (by kernel_rfl) (by kernel_rfl) (by kernel_rfl) (fun _ _ _ h=>h) (Or.inl ⟨by rfl,fun W hW=>by (obtain ⟨q0,q1,q2,q3,q4,q5⟩:=hW;go_simp)⟩) (by assumption) ?_
  change wpAnyH Tryz.prog _ _ _ _ _ _ (Act.put _ (some 19) _) _
  simp only [Act.put,List.setIfInBounds_toArray,List.set_cons_zero,List.set_cons_succ]
  refine wpAnyH_ready (rs:=[6]) (by kernel_rfl) (by simp) ?_
  refine AllReadyH.cons rfl (fun K hK=>?_) AllReadyH.nil
  go_simp
  go_wp2_with (go_at_call 87;(with_reducible refine (implRootQc_any w3.drew).mono ?_);rintro en w4 ⟨rfl,hb4⟩;have b4:=bD.trans (hb4.mono bD.size);have b4k:=HBk.out _ b4;have hS4:=HS.out _ b4k;have kr9:=HKR.out _ b4;have hT9:=kr9.there (n:=20) rfl;have hS9:=HS.out _ (belS (cs:=[.string nm,.int .i64 e,.int .i64 e,.slice aa na ca,.slice av ns cs,.slice none 0 0,.int .i64 1,.int .i64 0,.int .i64 0,.int .i64 (-1),.slice none 0 0,.int .i64 0,.slice none 0 0,.slice none 0 0,.int .i64 0,.slice none 0 0,.slice none 0 0,.slice none 0 0,.slice none 0 0,.slice none 0 0]) b4k (Nat.le_refl _) b4k.size (by omega)))
  refine hK.out _ _ hS4 (fun hHeld=>?_)
  try simp only [Act.put,List.setIfInBounds_toArray,List.set_cons_zero,List.set_cons_succ]
  refine wpAnyH_take (i:=13) (v:=.agg #[.string nm,.int .i64 e,.int .i64 e,.slice aa na ca,.slice av ns cs,.slice none 0 0,.int .i64 1,.int .i64 0,.int .i64 0,.int .i64 (-1),.slice none 0 0,.int .i64 0,.slice none 0 0,.slice none 0 0,.int .i64 0,.slice none 0 0,.slice none 0 0,.slice none 0 0,.slice none 0 0,.slice none 0 0]) rfl (by kernel_rfl) (by kernel_rfl) (by kernel_rfl) (fun _ _ _ h=>h) (Or.inl ⟨by rfl,fun W hW=>by (obtain ⟨q0,q1,q2,q3,q4,q5⟩:=hW;go_simp)⟩) (by assumption) ?_
  change wpAnyH Tryz.prog _ _ _ _ _ _ (Act.put _ (some 20) _) _
  simp only [Act.put,List.setIfInBounds_toArray,List.set_cons_zero,List.set_cons_succ]
  refine wpAnyH_ready (rs:=[14]) (by kernel_rfl) (by simp) ?_
  refine AllReadyH.cons rfl (fun K hK=>?_) AllReadyH.nil
  refine wst20 _ _ rfl (w.heap.size+2) rfl rfl hT9 rfl ?_
  refine hK.out _ _ hS9 (fun hHeld=>?_)
  refine wpAnyH_done (by kernel_rfl) ?_ _
  have KR:=hide kr9
  have HBz:=hide (HBl.out w4 b4)
  clear kr9 hS0 hS4 hS9 hT9 hb4 bD b4k b4
  go_wp2
  refine res_ndB (nm:=nm) (e:=e) (va:=.slice aa na ca) (vs:=.slice av ns cs) (rd:=1) (hb:=-1) (w.heap.size+2) (blkS20 KR.out) (by rfl) rfl ?_
  exact ⟨rfl,belS HBz.out (by omega) HBz.out.size (Nat.le_refl _)⟩
theorem implNodeNew_any (nm:ByteArray) (e:Int) (v:Value) (l:List Ac) (w:World) (hr:RdA w v l) (hn:nm.size<=maxLen) (hl:l.length<=4000000) (hall:∀ a ∈ l,a.1.size<=maxLen/\a.2.2.2.2.length<=4000000) :
    Calls Tryz.prog 28 #[.string nm,lgV e v] w fun en w'=>NdP nm e l w en w':=by
  obtain ⟨av0,cv0,rfl⟩:=hr.shape
  simp only [lgV]
  obtain ⟨w1,hw1⟩:∃ x,w.alloc (.cells #[.int .i64 e,.slice av0 l.length cv0] 30)=x:=⟨_,rfl⟩
  obtain ⟨w2,hw2⟩:∃ x,w1.alloc (.cells #[.string { data:=#[] },.int .i64 0,.int .i64 0,.slice none 0 0,.slice none 0 0,.slice none 0 0,.int .i64 0,.int .i64 0,.int .i64 0,.int .i64 0,.slice none 0 0,.int .i64 0,.slice none 0 0,.slice none 0 0,.int .i64 0,.slice none 0 0,.slice none 0 0,.slice none 0 0,.slice none 0 0,.slice none 0 0] 65)=x:=⟨_,rfl⟩
  have b1:Below w.heap.size w w1:=by rw [<- hw1];exact (Below.refl _ w).alloc (Nat.le_refl _) _
  have b2:Below w1.heap.size w1 w2:=by rw [<- hw2];exact (Below.refl _ w1).alloc (Nat.le_refl _) _
  have s1:w1.heap.size=w.heap.size+1:=by rw [<- hw1];simp
  have s2:w2.heap.size=w.heap.size+2:=by rw [<- hw2];simp;omega
  have k1:Blk w1 w.heap.size 30 [.int .i64 e,.slice av0 l.length cv0]:=by rw [<- hw1];exact Blk.new w _ _
  have k2:Blk w2 (w.heap.size+1) 65 [.string { data:=#[] },.int .i64 0,.int .i64 0,.slice none 0 0,.slice none 0 0,.slice none 0 0,.int .i64 0,.int .i64 0,.int .i64 0,.int .i64 0,.slice none 0 0,.int .i64 0,.slice none 0 0,.slice none 0 0,.int .i64 0,.slice none 0 0,.slice none 0 0,.slice none 0 0,.slice none 0 0,.slice none 0 0]:=by rw [<- hw2,<- s1];exact Blk.new w1 _ _
  have k1':=k1.below b2 k1.lt
  have b02:=b1.trans (b2.mono b1.size)
  have HKL:=hide (fun V (hV:Below (w.heap.size+1) w2 V)=>k1'.below hV (by omega))
  have HKR:=hide (fun V (hV:Below w2.heap.size w2 V)=>k2.below hV k2.lt)
  have Hr:=hide (fun V (hV:Below w.heap.size w V)=>hr.below hV (Nat.le_refl _))
  have HB:=hide b02
  have HBl:Hid (∀ V,Below w2.heap.size w2 V->Below w.heap.size w V):=hide (fun V hV=>b02.trans (hV.mono b02.size))
  have HBk:Hid (∀ V,Below w2.heap.size w2 V->Below (w.heap.size+1) w2 V):=hide (fun V hV=>hV.mono (by omega))
  have c0:=k1'.cell 0
  have c1:=k1'.cell 1
  simp only [List.getElem?_cons_zero,List.getElem?_cons_succ] at c0 c1
  clear b1 b2 k1 k2 k1' b02 hr
  have HLO:=hide (fun V (hV:Below w.heap.size w V)=>implLedgerOk_any e _ l V (Hr.out V hV) hl hall)
  have HCp:=hide (fun V (hV:Below w.heap.size w V)=>implCopiedLg_any e _ l V (Hr.out V hV) hl (fun a ha=>(hall a ha).2))
  have HSe:=hide (fun V (hV:Below w.heap.size w V)=>implSetOf_any e _ l V (Hr.out V hV) hl hall)
  simp only [lgV] at HLO HCp HSe
  unfold NdP
  cases hnm:nmB nm
  · have HF:Hid ((false && lgB e l)=false):=hide rfl
    have HNm:=hide (implNameOk_any nm w2 hn)
    rw [hnm] at HNm
    clear hnm
    go_enter Tryz.func28,Tryz.ntmps28
    go_wp2_with fail
    refine HNm.out.mono ?_
    rintro en w2 ⟨rfl,rfl⟩
    have kr9:=HKR.out w2 (Below.refl _ _)
    have KR9:=hide kr9
    have HT:=hide (kr9.there (n:=20) rfl)
    clear kr9
    go_wp2_with (refine st20 rfl _ _ rfl (w.heap.size+1) rfl rfl HT.out rfl ?_)
    refine res_ndI (nm:=⟨#[]⟩) (e:=0) (va:=.slice none 0 0) (vs:=.slice none 0 0) (rd:=0) (hb:=0) (w.heap.size+1) (blkS20 KR9.out) (by rfl) rfl ?_
    exact .inr ⟨HF.out,rfl,belS HB.out (by omega) HB.out.size (Nat.le_refl _)⟩
  · have HNm:=hide (implNameOk_any nm w2 hn)
    rw [hnm] at HNm
    clear hnm
    cases hlg:lgB e l
    · have HF:Hid ((true && false)=false):=hide rfl
      rw [hlg] at HLO
      clear hlg
      go_enter Tryz.func28,Tryz.ntmps28
      go_wp2_with fail
      refine HNm.out.mono ?_
      rintro en w2 ⟨rfl,rfl⟩
      go_wp2_with fail
      refine (HLO.out w2 HB.out).mono ?_
      rintro en w3 ⟨rfl,hb3⟩
      have HB3:=hide (HBl.out w3 hb3)
      have B3:=hide hb3
      clear hb3
      have kr9:=HKR.out w3 B3.out
      have KR9:=hide kr9
      have HT:=hide (kr9.there (n:=20) rfl)
      clear kr9
      go_wp2_with (refine st20 rfl _ _ rfl (w.heap.size+1) rfl rfl HT.out rfl ?_)
      refine res_ndI (nm:=⟨#[]⟩) (e:=0) (va:=.slice none 0 0) (vs:=.slice none 0 0) (rd:=0) (hb:=0) (w.heap.size+1) (blkS20 KR9.out) (by rfl) rfl ?_
      exact .inr ⟨HF.out,rfl,belS HB3.out (by omega) HB3.out.size (Nat.le_refl _)⟩
    · rw [hlg] at HLO
      have hset:setA e l=setV l:=by unfold setA;rw [hlg];rfl
      rw [hset] at HSe
      clear hlg hset
      go_enter Tryz.func28,Tryz.ntmps28
      go_wp2_with fail
      refine HNm.out.mono ?_
      rintro en w2 ⟨rfl,rfl⟩
      go_wp2_with fail
      refine (HLO.out w2 HB.out).mono ?_
      rintro en w3 ⟨rfl,hb3⟩
      have B3:=hide hb3
      have bD:Below w2.heap.size w2 w3.drew:=hb3.drew
      have HS:Hid (∀ V,Below w2.heap.size w2 V->(V.cell? ⟨w.heap.size,0,none⟩=some (.int .i64 e)/\V.cell? ⟨w.heap.size,1,none⟩=some (.slice av0 l.length cv0))):=hide (fun V hV=>⟨(HKL.out V (HBk.out V hV)).cell 0,(HKL.out V (HBk.out V hV)).cell 1⟩)
      have HS2:Hid (∀ V,Below (w.heap.size+1) w2 V->(V.cell? ⟨w.heap.size,0,none⟩=some (.int .i64 e)/\V.cell? ⟨w.heap.size,1,none⟩=some (.slice av0 l.length cv0))):=hide (fun V hV=>⟨(HKL.out V hV).cell 0,(HKL.out V hV).cell 1⟩)
      have hS0:=HS.out _ bD
      have gD:=HBl.out _ bD
      clear hb3 c0 c1
      go_wp2
      refine wp_region_held_drew (S:=fun w'=>w'.cell? ⟨w.heap.size,0,none⟩=some (.int .i64 e)/\w'.cell? ⟨w.heap.size,1,none⟩=some (.slice av0 l.length cv0)) (by kernel_rfl) hS0 (fun hHeld=>?_)
      refine wpAnyH_take (i:=0) (v:=.string nm) rfl (by kernel_rfl) (by kernel_rfl) (by kernel_rfl) (fun _ _ _ h=>h) (Or.inl ⟨by rfl,fun W hW=>by (obtain ⟨q0,q1⟩:=hW;go_simp)⟩) (by assumption) ?_
      change wpAnyH Tryz.prog _ _ _ _ _ _ (Act.put _ (some 14) _) _
      simp only [Act.put,List.setIfInBounds_toArray,List.set_cons_zero,List.set_cons_succ]
      refine wpAnyH_take (i:=1) (v:=.agg #[.string nm,.int .i64 0,.int .i64 0,.slice none 0 0,.slice none 0 0,.slice none 0 0,.int .i64 0,.int .i64 0,.int .i64 0,.int .i64 0,.slice none 0 0,.int .i64 0,.slice none 0 0,.slice none 0 0,.int .i64 0,.slice none 0 0,.slice none 0 0,.slice none 0 0,.slice none 0 0,.slice none 0 0]) rfl (by kernel_rfl) (by kernel_rfl) (by kernel_rfl) (fun _ _ _ h=>h) (Or.inl ⟨by rfl,fun W hW=>by (obtain ⟨q0,q1⟩:=hW;go_simp)⟩) (by assumption) ?_
      change wpAnyH Tryz.prog _ _ _ _ _ _ (Act.put _ (some 15) _) _
      simp only [Act.put,List.setIfInBounds_toArray,List.set_cons_zero,List.set_cons_succ]
      refine wpAnyH_take (i:=2) (v:=.agg #[.int .i64 e,.slice av0 l.length cv0]) rfl (by kernel_rfl) (by kernel_rfl) (by kernel_rfl) (fun _ _ _ h=>h) (Or.inl ⟨by rfl,fun W hW=>by (obtain ⟨q0,q1⟩:=hW;go_simp)⟩) (by assumption) ?_
      change wpAnyH Tryz.prog _ _ _ _ _ _ (Act.put _ (some 16) _) _
      simp only [Act.put,List.setIfInBounds_toArray,List.set_cons_zero,List.set_cons_succ]
      refine wpAnyH_take (i:=4) (v:=.agg #[.int .i64 e,.slice av0 l.length cv0]) rfl (by kernel_rfl) (by kernel_rfl) (by kernel_rfl) (fun _ _ _ h=>h) (Or.inl ⟨by rfl,fun W hW=>by (obtain ⟨q0,q1⟩:=hW;go_simp)⟩) (by assumption) ?_
      change wpAnyH Tryz.prog _ _ _ _ _ _ (Act.put _ (some 18) _) _
      simp only [Act.put,List.setIfInBounds_toArray,List.set_cons_zero,List.set_cons_succ]
      refine wpAnyH_ready (rs:=[3]) (by kernel_rfl) (by simp) ?_
      refine AllReadyH.cons rfl (fun K hK=>?_) AllReadyH.nil
      go_simp
      go_wp2_with (go_at_call 26;(with_reducible refine (HCp.out w3.drew gD).mono ?_);rintro en w4 ⟨v4,rfl,o4,hb4⟩;obtain ⟨a4,c4,hv4⟩:=o4.rd.shape;subst hv4;have b4:=bD.trans (hb4.mono bD.size);have hS4:=HS.out _ b4;have g4:=HBl.out _ b4;have x4:=o4.ox)
      refine hK.out _ _ hS4 (fun hHeld=>?_)
      try simp only [Act.put,List.setIfInBounds_toArray,List.set_cons_zero,List.set_cons_succ]
      refine wpAnyH_ready (rs:=[5]) (by kernel_rfl) (by simp) ?_
      refine AllReadyH.cons rfl (fun K hK=>?_) AllReadyH.nil
      go_simp
      go_wp2_with (go_at_call 59;(with_reducible refine (HSe.out w4 g4).mono ?_);rintro en w5 ⟨v5,rfl,o5,hb5⟩;obtain ⟨a5,c5,hv5⟩:=o5.rd.shape;subst hv5;have b5:=b4.trans (hb5.mono b4.size);have hS5:=HS.out _ b5)
      refine hK.out _ _ hS5 (fun hHeld=>?_)
      try simp only [Act.put,List.setIfInBounds_toArray,List.set_cons_zero,List.set_cons_succ]
      refine wpAnyH_ready (rs:=[6]) (by kernel_rfl) (by simp) ?_
      refine AllReadyH.cons rfl (fun K hK=>?_) AllReadyH.nil
      go_simp
      go_wp2_with (go_at_call 58;(with_reducible refine (implBegun_any nm e a4 a5 l.length c4 (setV l).length c5 w5).mono ?_);rintro en w6 ⟨rfl,hb6⟩;simp only [ndV];have b6:=b5.trans (hb6.mono b5.size);have hS6:=HS.out _ b6;have b5k:=HBk.out _ b6;have kr9:=HKR.out _ b6;have hT9:=kr9.there (n:=20) rfl;have hS9:=HS2.out _ (belS (cs:=[.string nm,.int .i64 e,.int .i64 e,.slice a4 l.length c4,.slice a5 (setV l).length c5,.slice none 0 0,.int .i64 1,.int .i64 0,.int .i64 0,.int .i64 (-1),.slice none 0 0,.int .i64 0,.slice none 0 0,.slice none 0 0,.int .i64 0,.slice none 0 0,.slice none 0 0,.slice none 0 0,.slice none 0 0,.slice none 0 0]) b5k (Nat.le_refl _) b5k.size (by omega)))
      refine hK.out _ _ hS6 (fun hHeld=>?_)
      try simp only [Act.put,List.setIfInBounds_toArray,List.set_cons_zero,List.set_cons_succ]
      refine wpAnyH_ready (rs:=[7]) (by kernel_rfl) (by simp) ?_
      refine AllReadyH.cons rfl (fun K hK=>?_) AllReadyH.nil
      refine wst20 _ _ rfl (w.heap.size+1) rfl rfl hT9 rfl ?_
      refine hK.out _ _ hS9 (fun hHeld=>?_)
      refine wpAnyH_done (by kernel_rfl) ?_ _
      have hz3:=B3.out.size
      have hz4:=hb4.size
      have hz5:=hb5.size
      have zD:w3.drew.heap.size=w3.heap.size:=rfl
      have KR:=hide kr9
      have hz6:=hb6.size
      have HX:=hide ((x4.below hb5 (Nat.le_refl _)).below hb6 (Nat.le_refl _))
      have HV:=hide (o5.below hb6 (Nat.le_refl _))
      have HBz:=hide (HBl.out w6 b6)
      clear kr9 x4 o4 o5 hS0 hS4 hS5 hS6 hS9 hT9 hb4 hb5 hb6 g4 gD bD b4 b5k b5 b6
      go_wp2
      refine res_ndI (nm:=nm) (e:=e) (va:=.slice a4 l.length c4) (vs:=.slice a5 (setV l).length c5) (rd:=1) (hb:=-1) (w.heap.size+1) (blkS20 KR.out) (by rfl) rfl ?_
      exact .inl ⟨rfl,a4,c4,a5,c5,w3.drew.heap.size,w4.heap.size,rfl,oxS HX.out (by omega),ovS HV.out (by omega),by omega,by omega,Nat.le_trans (Nat.le_trans hz5 hz6) sizeS,belS HBz.out (by omega) HBz.out.size (Nat.le_refl _)⟩
end Go.Proofs.YthidkbhiikdokaaGreat
