/- OneVote of the landed code. -/
import Derived.Test.YtmbbpmbkbiggmaaZoSfOne
import Derived.Test.YtmbbpmbkbiggmaaZoSfPure
import Derived.Test.YtmbbpmbkbiggmaaZoLdMid
import Derived.Test.YtmbbpmbkbiggmaaZoVtOpen
import Derived.Deep.Cut
set_option maxRecDepth 20000
set_option maxHeartbeats 4000000
namespace Go.Proofs.Ytmbbpmbkbiggmaa
open Go.RowKit Go.Maps
set_option linter.unusedVariables false
set_option linter.unusedSimpArgs false
theorem run_makeI (w:World):(Instr.makeMap 114 none).run Try.prog w=.ok (.map (some w.heap.size)) (w.alloc (.map #[] 0)):=by
  simp [Instr.makeMap,run_underlying Try.underlying114,asInt,asIntOf,Result.andThen]
theorem zeroI (V:World):(zeroValue 3).run Try.prog V=.ok (.int .i64 0) V:=by kernel_rfl
theorem step_lookI {ops:Array Oper} {rest:List Oper} {o:Oper} {a:Act} {w:World} {Q:Exit->Act->World->Prop} (hg:o.guard=none) (m x:Operand) (t:TypeId) (hop:o.op=Op.lookup t m x true)
    (ht:Try.prog.underlying t=some (.map 53 3)) (b n:Nat) (D:DataW Value) (hm:a.eval m=.map (some b)) (hown:w.ownsMap Try.prog 53 (plainElem (H:=Value) Try.prog 3) b n D) (key:Value) (kl:Lit) (hx:a.eval x=key) (hkey:keyOf Try.prog 53 key=some kl)
    (c0:Int) (hat0:D.atKey kl (.lit (.int .i64 0))=.lit (.int .i64 c0)) (X:Bool) (hX:Maps.has D kl=X) (hK:wpList Try.prog ops Q rest (a.put o.dst (.tuple #[.int .i64 c0,.bool X])) w):wpList Try.prog ops Q (o :: rest) a w :=
  wpList_lookup_own_ok_int w hg m x t hop 53 3 .i64 sg_law ht Try.underlying3 (zeroI w) b n D hm hown key kl hx hkey (fun c hat _=>by
    rw [hat0] at hat
    simp only [DataW.lit.injEq,Lit.int.injEq,true_and] at hat
    rw [<- hat,hX]
    exact hK)
theorem bookI_below {B:Nat} {w w':World} {b n:Nat} {D:DataW Value} (h:w.ownsMap Try.prog 53 (plainElem (H:=Value) Try.prog 3) b n D) (hb:Below B w w') (hB:b < B):w'.ownsMap Try.prog 53 (plainElem (H:=Value) Try.prog 3) b n D:=by
  obtain ⟨es,clock,h1,r⟩:=h
  exact ⟨es,clock,(hb.block b hB).trans h1,r⟩
theorem turned_belowI {w w':World} {b B:Nat} (h:w.mapTurned w' b) (hB:B<=b) (hs:B<=w.heap.size):Below B w w':=(Below.refl _ _).grown h.grown hs (fun j hj=>by cases hj;exact hB)
theorem implOneVoteN_any (ep:Int) (va vf vn vb vm:Value) (ads:Option Addr) (cps:Nat) (sg:List Sn) (w:World) (hS:RdSs w (.slice ads sg.length cps) sg) (hl:sg.length<=4000000) (hfs:∀ q ∈ sg,FitSn q) :
    Calls Try.prog 24 #[.agg #[.int .i64 ep,va,vf,vn,vb,.slice ads sg.length cps,vm]] w fun e w'=>e=.returned (.bool (ovB sg))/\Below w.heap.size w w':=by
  have hmm:=run_makeI
  obtain ⟨w1,hw1⟩:∃ x,w.alloc (.cells #[.int .i64 ep,va,vf,vn,vb,.slice ads sg.length cps,vm] 42)=x:=⟨_,rfl⟩
  have b1:Below w.heap.size w w1:=by rw [<- hw1];exact (Below.refl _ w).alloc (Nat.le_refl _) _
  have s1:w1.heap.size=w.heap.size+1:=by rw [<- hw1];simp
  have K1:Blk w1 w.heap.size 42 [.int .i64 ep,va,vf,vn,vb,.slice ads sg.length cps,vm]:=by rw [<- hw1];exact Blk.new w _ _
  obtain ⟨w2,hw2⟩:∃ x,w1.alloc (.map #[] 0)=x:=⟨_,rfl⟩
  have b2:Below w1.heap.size w1 w2:=by rw [<- hw2];exact (Below.refl _ w1).alloc (Nat.le_refl _) _
  have hm0:Hid (w2.ownsMap Try.prog 53 (plainElem (H:=Value) Try.prog 3) w1.heap.size 0 (.map [])):=hide (by rw [<- hw2];exact World.ownsMap_made _ _ _ _)
  have x5:=(K1.below b2 K1.lt).cell 5
  simp only [List.getElem?_cons_zero,List.getElem?_cons_succ] at x5
  have B2:=hide (b1.trans (b2.mono b1.size))
  have HS:=hide hS
  have HF:=hide hfs
  have hMb:w.heap.size<=w1.heap.size:=b1.size
  clear hS b1 b2 K1 hfs
  go_enter Try.func24,Try.ntmps24
  go_upto_region 1 with fail
  (try rw [hw1])
  clear hw1
  obtain ⟨M,hM⟩:∃ x,(.agg #[.int .i64 ep,va,vf,vn,vb,.slice ads sg.length cps,vm]:Value)=x:=⟨_,rfl⟩
  rw [hM]
  clear hM
  go_upto_region 2 with fail
  (try rw [hw2])
  clear hw2 hmm
  go_wp2
  clear x5
  (try rw [s1])
  rw [s1] at hm0 hMb
  clear s1
  generalize w.heap.size+1=mB at hm0 hMb ⊢
  go_loopw [13] (fun iv wr=>∃ (i n:Nat) (D:DataW Value),i<=sg.length/\n<=i/\iv=.int .i64 (i:Int)/\wr.ownsMap Try.prog 53 (plainElem (H:=Value) Try.prog 3) mB n D/\OvBk sg i D/\Below w.heap.size w wr) (fun iv _=>sg.length - (intOf iv).toNat)
  case atStart=>exact ⟨0,0,.map [],Nat.zero_le _,Nat.le_refl _,rfl,hm0.out,OvBk.nil sg,B2.out⟩
  case round =>
    clear hm0 B2
    obtain ⟨i,n,D,hi,hn,rfl,ho,hD,hb⟩:=hrel
    by_cases hlt:i < sg.length
    · obtain ⟨b0,off,rfl,h3,hcell⟩:=HS.out.sf5 (by omega)
      have hr:=range_below (hcell i hlt) hb h3
      have hw:=HF.out _ (List.getElem_mem hlt)
      have hky:=ky_of (kS_wf hw)
      have hskip:=hide (hD.skip hlt)
      have hnew:=hide (hD.new HF.out hlt)
      have hthere:=hide (hD.there HF.out hlt)
      have Hwt:=hide hw.wwt
      have c0:=hr 0 _ rfl
      have c1:=hr 1 _ rfl
      have c2:=hr 2 _ rfl
      have c3:=hr 3 _ rfl
      have c4:=hr 4 _ rfl
      simp only [sgV,kS] at hky
      simp only [kS] at hskip hnew hthere
      generalize hs:sg[i]=s at hw hky hskip hnew hthere Hwt c0 c1 c2 c3 c4
      obtain ⟨kd,e,r,x,m⟩:=s
      simp only [Nat.add_zero] at hky hskip hnew hthere Hwt c0 c1 c2 c3 c4
      generalize kyS (kd,e,r,0,m)=ky at hky hnew hthere
      have hli:(i:Int) < (sg.length:Int):=by omega
      have hi0:(0:Int)<=(i:Int):=by omega
      have hwl:mB < wr.heap.size:=ho.lt
      obtain ⟨w3,hw3⟩:∃ y,wr.alloc (.cells #[.int .i64 kd,.int .i64 e,.int .i64 r,.int .i64 x,.string m] 53)=y:=⟨_,rfl⟩
      have b3:Below wr.heap.size wr w3:=by rw [<- hw3];exact (Below.refl _ wr).alloc (Nat.le_refl _) _
      have k3:Blk w3 wr.heap.size 53 [.int .i64 kd,.int .i64 e,.int .i64 r,.int .i64 x,.string m]:=by rw [<- hw3];exact Blk.new wr _ _
      have d0:=k3.cell 0
      have d3:=k3.cell 3
      have f3:=k3.frozen 3
      simp only [List.getElem?_cons_zero,List.getElem?_cons_succ] at d0 d3
      by_cases h1:kd=1
      · have hk1:(kd != 1)=false:=by rw [bne_eq_false_iff_eq];exact h1
        obtain ⟨w4,hw4⟩:∃ y,w3.setCell ⟨wr.heap.size,3,none⟩ (.int .i64 0)=y:=⟨_,rfl⟩
        have k4:Blk w4 wr.heap.size 53 [.int .i64 kd,.int .i64 e,.int .i64 r,.int .i64 0,.string m]:=by rw [<- hw4];exact k3.setC 3 _
        have b4:Below wr.heap.size wr w4:=by rw [<- hw4];exact b3.setCell (p:=⟨wr.heap.size,3,none⟩) (Nat.le_refl _) _
        have O4:=hide (bookI_below ho b4 hwl)
        have B4:=hide (hb.trans (b4.mono hb.size))
        have g0:=k4.cell 0
        have g1:=k4.cell 1
        have g2:=k4.cell 2
        have g3:=k4.cell 3
        have g4:=k4.cell 4
        simp only [List.getElem?_cons_zero,List.getElem?_cons_succ] at g0 g1 g2 g3 g4
        have Hky:=hide hky
        have hnew:=hide (hnew.out h1)
        have hthere:=hide (hthere.out h1)
        clear ho hb b3 k3 b4 k4 hw hky hskip hr hcell hD h1 hs
        go_upto_region 6 with fail
        (try rw [hw3])
        clear hw3 c0 c1 c2 c3 c4
        go_upto_region 8 with fail
        (try rw [hw4])
        clear hw4 d0 d3 f3
        cases hX:Maps.has D ky
        · have HX:=hide hX
          have Hat:=hide (atKey_of_not_has hX (.lit (.int .i64 0)))
          have hn1:=hide (hnew.out hX)
          clear hX hnew hthere
          go_wp2_with (first
            | (at_lookup;refine step_lookI rfl _ _ 114 rfl Try.underlying114 mB n D rfl O4.out (.agg #[.int .i64 kd,.int .i64 e,.int .i64 r,.int .i64 0,.string m]) ky rfl Hky.out 0 Hat.out false HX.out ?_)
            | (at_mapUpdate;refine wpList_mapUpdate_in _ rfl _ _ _ 114 rfl 53 3 sg_law Try.underlying114 (plainElem (H:=Value) Try.prog 3) mB n D rfl O4.out (by unfold maxLen;omega) (.agg #[.int .i64 kd,.int .i64 e,.int .i64 r,.int .i64 0,.string m]) (.int .i64 x) ky rfl rfl Hky.out (.lit (.int .i64 x)) [] (plainElem_int Try.underlying3 Hwt.out) ?_;intro w5 ho5 ht5)
            | fail)
          have b5:=B4.out.trans (turned_belowI ht5 hMb B4.out.size)
          go_roundw
          case rel=>exact ⟨i+1,n+1,_,by omega,by omega,by go_num,ho5,hn1.out,b5⟩
          case measure=>simp [intOf];omega
        · obtain ⟨c,hat,hy,hno⟩:=hthere.out hX
          have HX:=hide hX
          have Hat:=hide (hat (.lit (.int .i64 0)))
          clear hX hnew hthere hat
          by_cases hc:c=x
          · have hn1:=hide (hy hc)
            have hcx:(c != x)=false:=by rw [bne_eq_false_iff_eq];exact hc
            clear hy hno hc
            go_wp2_with (first
              | (at_lookup;refine step_lookI rfl _ _ 114 rfl Try.underlying114 mB n D rfl O4.out (.agg #[.int .i64 kd,.int .i64 e,.int .i64 r,.int .i64 0,.string m]) ky rfl Hky.out c Hat.out true HX.out ?_)
              | (at_mapUpdate;refine wpList_mapUpdate_in _ rfl _ _ _ 114 rfl 53 3 sg_law Try.underlying114 (plainElem (H:=Value) Try.prog 3) mB n D rfl O4.out (by unfold maxLen;omega) (.agg #[.int .i64 kd,.int .i64 e,.int .i64 r,.int .i64 0,.string m]) (.int .i64 x) ky rfl rfl Hky.out (.lit (.int .i64 x)) [] (plainElem_int Try.underlying3 Hwt.out) ?_;intro w5 ho5 ht5)
              | fail)
            have b5:=B4.out.trans (turned_belowI ht5 hMb B4.out.size)
            go_roundw
            case rel=>exact ⟨i+1,n+1,_,by omega,by omega,by go_num,ho5,hn1.out,b5⟩
            case measure=>simp [intOf];omega
          · have hf:=hide (hno hc)
            have hcx:=int_ne hc
            clear hy hno hc
            go_wp2_with (first
              | (at_lookup;refine step_lookI rfl _ _ 114 rfl Try.underlying114 mB n D rfl O4.out (.agg #[.int .i64 kd,.int .i64 e,.int .i64 r,.int .i64 0,.string m]) ky rfl Hky.out c Hat.out true HX.out ?_)
              | fail)
            go_ret
            exact ⟨ret_bool hf.out.symm,B4.out⟩
      · have hk1:=int_ne h1
        have O3:=hide (bookI_below ho b3 hwl)
        have B3:=hide (hb.trans (b3.mono hb.size))
        have hn1:=hide (hskip.out h1)
        clear ho hb b3 k3 hw hky hskip hr hcell hD h1 hs hnew hthere
        go_upto_region 5 with fail
        (try rw [hw3])
        clear hw3 c0 c1 c2 c3 c4
        go_wp2
        go_roundw
        case rel=>exact ⟨i+1,n,D,by omega,by omega,by go_num,O3.out,hn1.out,B3.out⟩
        case measure=>simp [intOf];omega
    · have hli:¬ (i:Int) < (sg.length:Int):=by omega
      have e1:i=sg.length:=by omega
      subst e1
      have hf:=hide hD.all
      clear hD
      go_wp2
      go_ret
      exact ⟨ret_bool hf.out.symm,hb⟩
theorem implOneVote_any (p:Wd) (u:Wv) (w:World) (hr:RdWd w p u) (hf:FewWd p) (hft:FitWd p) :
    Calls Try.prog 8 #[wdV p u] w fun e w'=>e=.returned (.bool (ovB p.sg))/\Below w.heap.size w w':=by
  obtain ⟨ad,cp,e⟩:=hr.ks.shape
  obtain ⟨w1,hw1⟩:∃ x,w.alloc (.cells (wdC p u).toArray 42)=x:=⟨_,rfl⟩
  have b1:Below w.heap.size w w1:=by rw [<- hw1];exact (Below.refl _ w).alloc (Nat.le_refl _) _
  have K1:=hide (show Blk w1 w.heap.size 42 (wdC p u) from by rw [<- hw1];exact Blk.new w _ _)
  have HC:=hide (show Calls Try.prog 24 #[wdV p u] w1 fun e w'=>e=.returned (.bool (ovB p.sg))/\Below w1.heap.size w1 w' from by
    have h:=hr.ks.below b1 (Nat.le_refl _)
    unfold wdV
    rw [e] at h ⊢
    exact implOneVoteN_any p.ep u.a u.f u.n u.b u.m ad cp p.sg w1 h hf.ns hft.gs)
  have IW:=hide (show (Try.prog.info? 42).map (·.size)=some (wdC p u).length from sfWd7)
  have R1:=hide (blk_range K1.out)
  have B1:=hide b1
  rw [show wdV p u=.agg (wdC p u).toArray from rfl] at HC ⊢
  clear e hr hf hft b1 K1
  generalize ovB p.sg=X at HC ⊢
  generalize wdC p u=cs at HC IW R1 hw1 ⊢
  go_enter Try.func8,Try.ntmps8
  go_upto_region 1 with fail
  (try rw [hw1])
  clear hw1
  go_wp2_with (first
    | (refine wpList_load_mid rfl 42 _ rfl w.heap.size 0 rfl cs _ R1.out Try.underlying42 rfl IW.out ?_)
    | fail)
  refine HC.out.mono ?_
  rintro e w2 ⟨rfl,hb2⟩
  have hB:=B1.out.trans (hb2.mono B1.out.size)
  clear hb2 HC
  go_wp2
  go_ret
  exact ⟨rfl,hB⟩
end Go.Proofs.Ytmbbpmbkbiggmaa
