/- Folded of the model. -/
import Derived.Test.YteefibiikampbaaGreatDoorZfFoSpec
import Derived.Test.YteefibiikampbaaGreatDoorZfSfAcS
set_option maxRecDepth 20000
set_option maxHeartbeats 8000000
namespace Go.Proofs.YteefibiikampbaaGreatDoor
open Go.RowKit Go.Sort
set_option linter.unusedVariables false
set_option linter.unusedSimpArgs false
theorem sfOneS (x:Int) (a:Option Addr) (n c:Nat):(#[Value.int .i64 x,.slice a n c]:Array Value).all (·.oneCell')=true:=by simp [Value.oneCell']
theorem sfLg2S:(Tryz.prog.info? 36).map (·.size)=some 2:=by kernel_rfl
theorem specFoldK_any (e0:Int) (vf vn vs vm:Value) (av:Option Addr) (cv:Nat) (l0:List Ac) (adb:Option Addr) (cpb:Nat) (bs:List Bk) (ad:Option Addr) (cd:Nat) (d:List Int) (w:World) (hA:RdA w (.slice av l0.length cv) l0) (hg0:FewG (e0,l0)) (hB:RdKs w (.slice adb bs.length cpb) bs) (hl:bs.length<=4000000) (hfb:∀ b ∈ bs,FewK b) (hD:RdI w (.slice ad d.length cd) d) (hd:d.length<=4000000) :
    Calls Tryz.prog 6 #[.agg #[.int .i64 e0,.slice av l0.length cv,vf,vn,.slice adb bs.length cpb,vs,vm],.slice ad d.length cd] w fun en w'=>∃ (x:Int) (a:Option Addr) (n c:Nat),en=.returned (.tuple #[.agg #[.int .i64 x,.slice a n c],.bool (okD bs d)])/\(okD bs d=true->∀ W,Kept w.heap.size w'.heap.size w' W->x=(foD bs e0 l0 d).1/\n=(foD bs e0 l0 d).2.length/\RdA W (.slice a n c) (foD bs e0 l0 d).2)/\Below w.heap.size w w' :=
  (specFold_any e0 vf vn vs vm av cv l0 adb cpb bs ad cd d w hA hg0 hB hl hfb hD hd).mono (fun en w' h=>by
    rcases h with ⟨h1,v',rfl,ho,hb⟩ | ⟨h1,x,v',rfl,⟨a,n,c,rfl⟩,hb⟩
    · obtain ⟨a,c,rfl⟩:=ho.rd.shape
      exact ⟨_,a,_,c,by rw [h1];rfl,fun _ W hk=>⟨rfl,rfl,(ho.ox.kept hk).rd⟩,hb⟩
    · exact ⟨x,a,n,c,by rw [h1],fun h=>(by rw [h1] at h;cases h),hb⟩)
theorem specFoldedN_any (e0:Int) (vf vs vm:Value) (av:Option Addr) (cv:Nat) (l0:List Ac) (adn:Option Addr) (cpn:Nat) (ns:List Nd) (adb:Option Addr) (cpb:Nat) (bs:List Bk) (w:World) (hA:RdA w (.slice av l0.length cv) l0) (hg0:FewG (e0,l0)) (hB:RdKs w (.slice adb bs.length cpb) bs) (hl:bs.length<=4000000) (hfb:∀ b ∈ bs,FewK b) (hN:RdNs w (.slice adn ns.length cpn) ns) (hln:ns.length<=4000000) (hfn:∀ q ∈ ns,FewNd q) :
    Calls Tryz.prog 17 #[.agg #[.int .i64 e0,.slice av l0.length cv,vf,.slice adn ns.length cpn,.slice adb bs.length cpb,vs,vm]] w fun e w'=>e=.returned (.bool (ns.all (fnB bs e0 l0)))/\Below w.heap.size w w':=by
  obtain ⟨w1,hw1⟩:∃ x,w.alloc (.cells #[.int .i64 e0,.slice av l0.length cv,vf,.slice adn ns.length cpn,.slice adb bs.length cpb,vs,vm] 44)=x:=⟨_,rfl⟩
  have b1:Below w.heap.size w w1:=by rw [<- hw1];exact (Below.refl _ w).alloc (Nat.le_refl _) _
  have K1:=hide (show Blk w1 w.heap.size 44 [.int .i64 e0,.slice av l0.length cv,vf,.slice adn ns.length cpn,.slice adb bs.length cpb,vs,vm] from by rw [<- hw1];exact Blk.new w _ _)
  have IW:=hide (show (Tryz.prog.info? 44).map (·.size)=some ([.int .i64 e0,.slice av l0.length cv,vf,.slice adn ns.length cpn,.slice adb bs.length cpb,vs,vm]:List Value).length from sfWd7)
  have HEn:=hide (fun (ad:Option Addr) (cd:Nat) (d:List Int) V (hV:Below w.heap.size w V) (hD:RdI V (.slice ad d.length cd) d) (hd:d.length<=4000000)=>specEnds_any e0 (.slice av l0.length cv) vf (.slice adn ns.length cpn) vs vm adb cpb bs ad cd d V (hB.below hV (Nat.le_refl _)) hl hD hd)
  have HFd:=hide (fun (ad:Option Addr) (cd:Nat) (d:List Int) V (hV:Below w.heap.size w V) (hD:RdI V (.slice ad d.length cd) d) (hd:d.length<=4000000)=>specFoldK_any e0 vf (.slice adn ns.length cpn) vs vm av cv l0 adb cpb bs ad cd d V (hA.below hV (Nat.le_refl _)) hg0 (hB.below hV (Nat.le_refl _)) hl hfb hD hd)
  have HFw:=hide (fun d=>foD_few (bs:=bs) hg0 d)
  have HN:=hide hN
  have HF:=hide hfn
  have B1:=hide b1
  have x3:=K1.out.cell 3
  simp only [List.getElem?_cons_zero,List.getElem?_cons_succ] at x3
  obtain ⟨cw,hcw⟩:∃ x,([.int .i64 e0,.slice av l0.length cv,vf,.slice adn ns.length cpn,.slice adb bs.length cpb,vs,vm]:List Value)=x:=⟨_,rfl⟩
  have hcw2:(.agg #[.int .i64 e0,.slice av l0.length cv,vf,.slice adn ns.length cpn,.slice adb bs.length cpb,vs,vm]:Value)=.agg cw.toArray:=by rw [<- hcw]
  have hcw3:cw[3]?=some (.slice adn ns.length cpn):=by rw [<- hcw];rfl
  rw [hcw] at K1 IW
  rw [hcw2] at HEn HFd ⊢
  rw [show (w.alloc (.cells #[.int .i64 e0,.slice av l0.length cv,vf,.slice adn ns.length cpn,.slice adb bs.length cpb,vs,vm] 44))=w.alloc (.cells cw.toArray 44) from by rw [<- hcw]] at hw1
  have Hcw3:=hide hcw3
  clear hA hB hN b1 hfn hfb hg0 hcw hcw2 hcw3
  go_enter Tryz.func17,Tryz.ntmps17
  go_upto_region 1 with fail
  (try rw [hw1])
  clear hw1
  go_wp2
  clear x3
  go_loopw [3] (fun iv wr=>∃ i:Nat,i<=ns.length/\iv=.int .i64 (i:Int)/\(∀ j (h:j < ns.length),j < i->fnB bs e0 l0 ns[j]=true)/\Below w1.heap.size w1 wr) (fun iv _=>ns.length - (intOf iv).toNat)
  case atStart=>exact ⟨0,Nat.zero_le _,rfl,(fun j _ h=>by omega),Below.refl _ _⟩
  case round =>
    obtain ⟨i,hi,rfl,hlo,hb⟩:=hrel
    have Hlo:=hide hlo
    clear hlo
    have x3:=((K1.out.below hb K1.out.lt).cell 3).trans Hcw3.out
    by_cases hlt:i < ns.length
    · obtain ⟨b0,off,rfl,hc1,hc2,h3,hcell⟩:=HN.out.sf20 (by omega)
      obtain ⟨u,hat,hru⟩:=hcell i hlt
      have hBr:=B1.out.trans (hb.mono B1.out.size)
      have Hrg:=hide (range_below hat hBr h3)
      have hrw:=hru.below hBr (Nat.le_refl _)
      have hii:(i:Int) < (ns.length:Int):=by omega
      have hi0:(0:Int)<=(i:Int):=by omega
      have zb1:Blk (wr.alloc (.cells #[.string { data:=#[] },.int .i64 0,.int .i64 0,.slice none 0 0,.slice none 0 0,.slice none 0 0,.int .i64 0,.int .i64 0,.int .i64 0,.int .i64 0,.slice none 0 0,.int .i64 0,.slice none 0 0,.slice none 0 0,.int .i64 0,.slice none 0 0,.slice none 0 0,.slice none 0 0,.slice none 0 0,.slice none 0 0] 96)) wr.heap.size 96 [.string { data:=#[] },.int .i64 0,.int .i64 0,.slice none 0 0,.slice none 0 0,.slice none 0 0,.int .i64 0,.int .i64 0,.int .i64 0,.int .i64 0,.slice none 0 0,.int .i64 0,.slice none 0 0,.slice none 0 0,.int .i64 0,.slice none 0 0,.slice none 0 0,.slice none 0 0,.slice none 0 0,.slice none 0 0]:=Blk.new wr _ _
      have H11:=hide (show (noC ns[i] u).toArray.all (·.oneCell')=true from by rw [List.all_toArray];exact noC_one hrw)
      have IE1:=hide (show (Tryz.prog.info? 96).map (·.size)=some (noC ns[i] u).length from sfNd20)
      have Hth1:=hide (show (wr.alloc (.cells #[.string { data:=#[] },.int .i64 0,.int .i64 0,.slice none 0 0,.slice none 0 0,.slice none 0 0,.int .i64 0,.int .i64 0,.int .i64 0,.int .i64 0,.slice none 0 0,.int .i64 0,.slice none 0 0,.slice none 0 0,.int .i64 0,.slice none 0 0,.slice none 0 0,.slice none 0 0,.slice none 0 0,.slice none 0 0] 96)).there wr.heap.size 0 (noC ns[i] u).toArray.size from zb1.there rfl)
      obtain ⟨w2,hw2⟩:∃ x,(wr.alloc (.cells #[.string { data:=#[] },.int .i64 0,.int .i64 0,.slice none 0 0,.slice none 0 0,.slice none 0 0,.int .i64 0,.int .i64 0,.int .i64 0,.int .i64 0,.slice none 0 0,.int .i64 0,.slice none 0 0,.slice none 0 0,.int .i64 0,.slice none 0 0,.slice none 0 0,.slice none 0 0,.slice none 0 0,.slice none 0 0] 96)).setCells wr.heap.size 0 (noC ns[i] u)=x:=⟨_,rfl⟩
      have J2:=hide (show Blk w2 wr.heap.size 96 (noC ns[i] u) from by rw [<- hw2];exact blk_all zb1 rfl)
      have bw2:Below wr.heap.size wr w2:=by rw [<- hw2];exact ((Below.refl _ wr).alloc (Nat.le_refl _) _).trans (putC_below (Nat.le_refl _) _ _ _)
      have Hw2:=hide hw2
      obtain ⟨ad,cd,hd⟩:=hrw.kd.shape
      obtain ⟨aa,ca,ha⟩:=hrw.ka.shape
      have HC17:=hide (show (noC ns[i] u)[17]?=some (.slice ad ns[i].dn.length cd) from by rw [<- hd];rfl)
      have HC2:=hide (show (noC ns[i] u)[2]?=some (.int .i64 ns[i].be) from rfl)
      have HC3:=hide (show (noC ns[i] u)[3]?=some (.slice aa ns[i].la.length ca) from by rw [<- ha];rfl)
      have hfd:=(HF.out _ (List.getElem_mem hlt)).nd
      have hfa:=HF.out _ (List.getElem_mem hlt)
      have rD:RdI w2 (.slice ad ns[i].dn.length cd) ns[i].dn:=by rw [<- hd];exact hrw.kd.below bw2 (Nat.le_refl _)
      have rA:RdA w2 (.slice aa ns[i].la.length ca) ns[i].la:=by rw [<- ha];exact hrw.ka.below bw2 (Nat.le_refl _)
      have HB2:=hide (hb.trans (bw2.mono hb.size))
      have hBw2:=B1.out.trans (HB2.out.mono B1.out.size)
      have Hno:Hid (okD bs (enD bs ns[i].dn)=false->ns.all (fnB bs e0 l0)=false):=hide (fun h=>fd_no hlt (by unfold fnB;rw [h];rfl))
      have Hyes:Hid (okD bs (enD bs ns[i].dn)=true->((decide ((foD bs e0 l0 (enD bs ns[i].dn)).1=ns[i].be) && eqAcs (foD bs e0 l0 (enD bs ns[i].dn)).2 ns[i].la)=false->ns.all (fnB bs e0 l0)=false)/\((decide ((foD bs e0 l0 (enD bs ns[i].dn)).1=ns[i].be) && eqAcs (foD bs e0 l0 (enD bs ns[i].dn)).2 ns[i].la)=true->∀ j (h:j < ns.length),j < i+1->fnB bs e0 l0 ns[j]=true)):=hide (fun h=>⟨fun h2=>fd_no hlt (by unfold fnB;rw [h,h2];rfl),fun h2 j hj hji=>by
        by_cases e:j=i
        · subst e;unfold fnB;rw [h,h2];rfl
        · exact Hlo.out j hj (by omega)⟩)
      have HSm:=hide (fun (a:Option Addr) (c:Nat) V (hR:RdA V (.slice a (foD bs e0 l0 (enD bs ns[i].dn)).2.length c) (foD bs e0 l0 (enD bs ns[i].dn)).2) (hV:Below w2.heap.size w2 V)=>specSameLg_any (foD bs e0 l0 (enD bs ns[i].dn)).1 ns[i].be (.slice a (foD bs e0 l0 (enD bs ns[i].dn)).2.length c) (.slice aa ns[i].la.length ca) (foD bs e0 l0 (enD bs ns[i].dn)).2 ns[i].la V hR (rA.below hV (Nat.le_refl _)) (by have:=(HFw.out (enD bs ns[i].dn)).1;omega) hfa.na (fun q hq=>by have:=((HFw.out (enD bs ns[i].dn)).2 q hq).2;omega) hfa.fa)
      simp only [lgV] at HSm
      have HE:=hide (fun V (hV:Below w2.heap.size w2 V)=>HEn.out ad cd ns[i].dn V (hBw2.trans (hV.mono hBw2.size)) (rD.below hV (Nat.le_refl _)) hfd)
      have hed:(enD bs ns[i].dn).length<=4000000:=by rw [enD_len];have:=enN_le bs ns[i].dn ns[i].dn.length;omega
      have hle:=enN_le bs ns[i].dn ns[i].dn.length
      have HFo:=hide (fun V (hV:Below w2.heap.size w2 V)=>HFd.out ad cd (enD bs ns[i].dn) V (hBw2.trans (hV.mono hBw2.size)) (by rw [enD_len];exact (rD.below hV (Nat.le_refl _)).pre rfl hle) hed)
      have hcap:=rD.cap
      rw [enD_len] at HFo
      generalize okD bs (enD bs ns[i].dn)=X at HFo Hno Hyes
      generalize foD bs e0 l0 (enD bs ns[i].dn)=Gf at HFo Hyes HSm
      generalize hYd:(decide (Gf.1=ns[i].be) && eqAcs Gf.2 ns[i].la)=Y at Hyes HSm
      generalize hEN:enN bs ns[i].dn ns[i].dn.length=m at HE HFo hle
      have KW2:=hide (K1.out.below (hb.trans (bw2.mono hb.size)) K1.out.lt)
      have HSd:=hide (fun V (hV:Below w2.heap.size w2 V)=>(show V.rangeAt w.heap.size 0 cw/\V.cell? ⟨wr.heap.size,17,none⟩=some (.slice ad ns[i].dn.length cd) from ⟨range_below (blk_range KW2.out) hV KW2.out.lt,((J2.out.below hV J2.out.lt).cell 17).trans HC17.out⟩))
      have bD:Below w2.heap.size w2 w2.drew:=(Below.refl _ w2).drew
      clear hat hru hcell hb hBr hrw zb1 bw2 hw2 hd ha rD rA hfd hfa hBw2 hed hYd HEn HFd KW2 HC17
      have hmi:(m:Int)<=(cd:Int):=by omega
      have hm0:(0:Int)<=(m:Int):=by omega
      have hmc:m<=cd:=by omega
      clear hEN hle hcap
      generalize ns[i].dn=D at HE HSd
      generalize ns[i].be=be at HC2 HSm
      generalize ns[i].la=la at HC3 HSm
      generalize noC ns[i] u=cs at Hrg H11 IE1 Hth1 Hw2 J2 HC2 HC3
      go_upto_region 5 with (first
        | (refine wpList_load_mid rfl 96 _ rfl b0 (off+i * 20) rfl cs _ Hrg.out Tryz.underlying96 rfl IE1.out ?_)
        | (refine wpList_store_mid rfl 96 _ _ rfl wr.heap.size 0 cs.toArray rfl rfl Hth1.out (by simpa using IE1.out) H11.out ?_;rw [Hw2.out])
        | fail)
      (try simp only [Act.put])
      clear x3 Hrg H11 IE1 Hth1 Hw2
      refine wp_region_held_drew (S:=fun W=>W.rangeAt w.heap.size 0 cw/\W.cell? ⟨wr.heap.size,17,none⟩=some (.slice ad D.length cd)) (by kernel_rfl) (HSd.out _ bD) (fun hHeld=>?_)
      refine wpAnyH_take (i:=0) (v:=.agg cw.toArray) rfl (by kernel_rfl) (by kernel_rfl) (by kernel_rfl) (fun _ _ _ h=>h) (yieldsIf_load_mid (by rfl) 44 _ rfl w.heap.size 0 rfl cw _ (fun W hW=>hW.1) Tryz.underlying44 rfl IW.out) (by assumption) ?_
      change wpAnyH Tryz.prog _ _ _ _ _ _ (Act.put _ (some 20) _) _
      simp only [Act.put,List.setIfInBounds_toArray,List.set_cons_zero,List.set_cons_succ]
      refine wpAnyH_take (i:=1) (v:=.pointer (some ⟨wr.heap.size,17,none⟩)) rfl (by kernel_rfl) (by kernel_rfl) (by kernel_rfl) (fun _ _ _ h=>h) (Or.inl ⟨by rfl,fun W hW=>by (obtain ⟨q0,q1⟩:=hW;go_simp)⟩) (by assumption) ?_
      change wpAnyH Tryz.prog _ _ _ _ _ _ (Act.put _ (some 21) _) _
      simp only [Act.put,List.setIfInBounds_toArray,List.set_cons_zero,List.set_cons_succ]
      refine wpAnyH_take (i:=2) (v:=.slice ad D.length cd) rfl (by kernel_rfl) (by kernel_rfl) (by kernel_rfl) (fun _ _ _ h=>h) (Or.inl ⟨by rfl,fun W hW=>by (obtain ⟨q0,q1⟩:=hW;go_simp)⟩) (by assumption) ?_
      change wpAnyH Tryz.prog _ _ _ _ _ _ (Act.put _ (some 22) _) _
      simp only [Act.put,List.setIfInBounds_toArray,List.set_cons_zero,List.set_cons_succ]
      refine wpAnyH_take (i:=3) (v:=.agg cw.toArray) rfl (by kernel_rfl) (by kernel_rfl) (by kernel_rfl) (fun _ _ _ h=>h) (yieldsIf_load_mid (by rfl) 44 _ rfl w.heap.size 0 rfl cw _ (fun W hW=>hW.1) Tryz.underlying44 rfl IW.out) (by assumption) ?_
      change wpAnyH Tryz.prog _ _ _ _ _ _ (Act.put _ (some 23) _) _
      simp only [Act.put,List.setIfInBounds_toArray,List.set_cons_zero,List.set_cons_succ]
      refine wpAnyH_take (i:=4) (v:=.pointer (some ⟨wr.heap.size,17,none⟩)) rfl (by kernel_rfl) (by kernel_rfl) (by kernel_rfl) (fun _ _ _ h=>h) (Or.inl ⟨by rfl,fun W hW=>by (obtain ⟨q0,q1⟩:=hW;go_simp)⟩) (by assumption) ?_
      change wpAnyH Tryz.prog _ _ _ _ _ _ (Act.put _ (some 24) _) _
      simp only [Act.put,List.setIfInBounds_toArray,List.set_cons_zero,List.set_cons_succ]
      refine wpAnyH_take (i:=5) (v:=.slice ad D.length cd) rfl (by kernel_rfl) (by kernel_rfl) (by kernel_rfl) (fun _ _ _ h=>h) (Or.inl ⟨by rfl,fun W hW=>by (obtain ⟨q0,q1⟩:=hW;go_simp)⟩) (by assumption) ?_
      change wpAnyH Tryz.prog _ _ _ _ _ _ (Act.put _ (some 25) _) _
      simp only [Act.put,List.setIfInBounds_toArray,List.set_cons_zero,List.set_cons_succ]
      refine wpAnyH_ready (rs:=[6,12]) (by kernel_rfl) (by simp) ?_
      refine AllReadyH.cons rfl (fun K hK=>?_) (AllReadyH.cons rfl (fun K hK=>?_) AllReadyH.nil)
      · skip
        go_simp
        go_wp2_with (go_at_call 50;(with_reducible refine (HE.out _ bD).mono ?_);rintro e w3 ⟨rfl,hb3⟩;have b3:=bD.trans (hb3.mono bD.size);have hS3:=HSd.out _ b3)
        refine hK.out _ _ hS3 (fun hHeld=>?_)
        try simp only [Act.put,List.setIfInBounds_toArray,List.set_cons_zero,List.set_cons_succ]
        refine wpAnyH_take (i:=7) (v:=.slice ad m cd) rfl (by kernel_rfl) (by kernel_rfl) (by kernel_rfl) (fun _ _ _ h=>h) (Or.inl ⟨by rfl,fun W hW=>by (obtain ⟨q0,q1⟩:=hW;go_simp)⟩) (by assumption) ?_
        change wpAnyH Tryz.prog _ _ _ _ _ _ (Act.put _ (some 27) _) _
        simp only [Act.put,List.setIfInBounds_toArray,List.set_cons_zero,List.set_cons_succ]
        refine wpAnyH_ready (rs:=[8,12]) (by kernel_rfl) (by simp) ?_
        refine AllReadyH.cons rfl (fun K hK=>?_) (AllReadyH.cons rfl (fun K hK=>?_) AllReadyH.nil)
        · skip
          have CF:=hide (HFo.out _ b3)
          go_simp
          go_wp2_with (go_at_call 6;(with_reducible refine CF.out.mono ?_);rintro e w4 ⟨x4,a4,n4,c4,rfl,k4,hb4⟩;have b4:=b3.trans (hb4.mono b3.size);have z4:=hb4.size;have hS4:=HSd.out _ b4)
          refine hK.out _ _ hS4 (fun hHeld=>?_)
          try simp only [Act.put,List.setIfInBounds_toArray,List.set_cons_zero,List.set_cons_succ]
          refine wpAnyH_take (i:=9) (v:=.tuple #[.agg #[.int .i64 x4,.slice a4 n4 c4],.bool X]) rfl (by kernel_rfl) (by kernel_rfl) (by kernel_rfl) (fun _ _ _ h=>h) (Or.inl ⟨by rfl,fun W hW=>by (obtain ⟨q0,q1⟩:=hW;go_simp)⟩) (by assumption) ?_
          change wpAnyH Tryz.prog _ _ _ _ _ _ (Act.put _ (some 19) _) _
          simp only [Act.put,List.setIfInBounds_toArray,List.set_cons_zero,List.set_cons_succ]
          refine wpAnyH_take (i:=10) (v:=.agg #[.int .i64 x4,.slice a4 n4 c4]) rfl (by kernel_rfl) (by kernel_rfl) (by kernel_rfl) (fun _ _ _ h=>h) (Or.inl ⟨by rfl,fun W hW=>by (obtain ⟨q0,q1⟩:=hW;go_simp)⟩) (by assumption) ?_
          change wpAnyH Tryz.prog _ _ _ _ _ _ (Act.put _ (some 29) _) _
          simp only [Act.put,List.setIfInBounds_toArray,List.set_cons_zero,List.set_cons_succ]
          refine wpAnyH_take (i:=11) (v:=.bool X) rfl (by kernel_rfl) (by kernel_rfl) (by kernel_rfl) (fun _ _ _ h=>h) (Or.inl ⟨by rfl,fun W hW=>by (obtain ⟨q0,q1⟩:=hW;go_simp)⟩) (by assumption) ?_
          change wpAnyH Tryz.prog _ _ _ _ _ _ (Act.put _ (some 30) _) _
          simp only [Act.put,List.setIfInBounds_toArray,List.set_cons_zero,List.set_cons_succ]
          refine wpAnyH_ready (rs:=[12]) (by kernel_rfl) (by simp) ?_
          refine AllReadyH.cons rfl (fun K hK=>?_) AllReadyH.nil
          go_simp
          have nb:Blk (w4.alloc (.cells #[.int .i64 0,.slice none 0 0] 36)) w4.heap.size 36 [.int .i64 0,.slice none 0 0]:=Blk.new w4 _ _
          have ba:Below w2.heap.size w2 (w4.alloc (.cells #[.int .i64 0,.slice none 0 0] 36)):=b4.alloc b4.size _
          have bl:Below w4.heap.size w4 (w4.alloc (.cells #[.int .i64 0,.slice none 0 0] 36)):=(Below.refl _ w4).alloc (Nat.le_refl _) _
          refine hK.out _ _ (HSd.out _ ba) (fun hHeld=>?_)
          try simp only [Act.put,List.setIfInBounds_toArray,List.set_cons_zero,List.set_cons_succ]
          have hlB:w2.heap.size<=w4.heap.size:=b4.size
          have b9:Below w2.heap.size w2 ((w4.alloc (.cells #[.int .i64 0,.slice none 0 0] 36)).setCells (w4.heap.size) 0 [.int .i64 x4,.slice a4 n4 c4]):=ba.trans (putC_below hlB _ _ _)
          have K9:=hide (blk_all (ys:=[.int .i64 x4,.slice a4 n4 c4]) nb rfl)
          have R9:=hide (fun h=>k4 h _ (Kept.of_belowT (show Below w4.heap.size w4 ((w4.alloc (.cells #[.int .i64 0,.slice none 0 0] 36)).setCells w4.heap.size 0 [.int .i64 x4,.slice a4 n4 c4]) from bl.trans (putC_below (Nat.le_refl _) _ _ _)) (Nat.le_refl _)))
          refine wpAnyH_ready (rs:=[13]) (by kernel_rfl) (by simp) ?_
          refine AllReadyH.cons rfl (fun K hK=>?_) AllReadyH.nil
          refine wp_store_mid 36 _ _ rfl (w4.heap.size) 0 #[.int .i64 x4,.slice a4 n4 c4] rfl rfl (nb.there rfl) sfLg2S (sfOneS _ _ _ _) ?_
          refine hK.out _ _ (HSd.out _ b9) (fun hHeld=>?_)
          try simp only [Act.put,List.setIfInBounds_toArray,List.set_cons_zero,List.set_cons_succ]
          refine wpAnyH_take (i:=14) (v:=.bool X) rfl (by kernel_rfl) (by kernel_rfl) (by kernel_rfl) (fun _ _ _ h=>h) (Or.inl ⟨by rfl,fun W hW=>by (obtain ⟨q0,q1⟩:=hW;go_simp)⟩) (by assumption) ?_
          change wpAnyH Tryz.prog _ _ _ _ _ _ (Act.put _ (some 6) _) _
          simp only [Act.put,List.setIfInBounds_toArray,List.set_cons_zero,List.set_cons_succ]
          refine wpAnyH_done (by kernel_rfl) ?_ _
          obtain ⟨wN,hwN⟩:∃ y,(w4.alloc (.cells #[.int .i64 0,.slice none 0 0] 36)).setCells (w4.heap.size) 0 [.int .i64 x4,.slice a4 n4 c4]=y:=⟨_,rfl⟩
          have B9:=hide b9
          try rw [hwN] at K9
          try rw [hwN] at R9
          try rw [hwN] at B9
          (try simp only [List.toList_toArray])
          (try rw [hwN])
          clear hwN hHeld k4 hb4 b4 hS4 b9 hK
          clear ba bl nb hS3 b3 hb3
          have s0:=K9.out.cell 0
          have s1:=K9.out.cell 1
          have J9:=J2.out.below B9.out J2.out.lt
          have t2:=(J9.cell 2).trans HC2.out
          have t3:=(J9.cell 3).trans HC3.out
          simp only [List.getElem?_cons_zero,List.getElem?_cons_succ] at s0 s1
          cases X
          · have hn:=hide (Hno.out rfl)
            clear R9 Hyes Hno HSm
            go_wp2
            go_ret
            exact ⟨ret_bool hn.out.symm,HB2.out.trans (B9.out.mono HB2.out.size) |> fun h=>B1.out.trans (h.mono B1.out.size)⟩
          · obtain ⟨rfl,rfl,hR⟩:=R9.out rfl
            have hyy:=hide (Hyes.out rfl)
            have CS:=hide (HSm.out _ _ _ hR B9.out)
            go_wp2_with fail
            refine CS.out.mono ?_
            rintro e wS ⟨rfl,hbS⟩
            have BS:=hide (B9.out.trans (hbS.mono B9.out.size))
            clear hR R9 CS Hno hbS s0 s1 t2 t3 J9
            cases hY:Y
            · have hn:=hide (hyy.out.1 hY)
              go_wp2
              go_ret
              exact ⟨ret_bool hn.out.symm,HB2.out.trans (BS.out.mono HB2.out.size) |> fun h=>B1.out.trans (h.mono B1.out.size)⟩
            · have hn:=hide (hyy.out.2 hY)
              go_wp2
              go_roundw
              case rel=>exact ⟨i+1,by omega,by go_num,hn.out,HB2.out.trans (BS.out.mono HB2.out.size)⟩
              case measure=>simp [intOf];omega
        · skip
          go_simp
          have nb:Blk (w3.alloc (.cells #[.int .i64 0,.slice none 0 0] 36)) w3.heap.size 36 [.int .i64 0,.slice none 0 0]:=Blk.new w3 _ _
          have ba:Below w2.heap.size w2 (w3.alloc (.cells #[.int .i64 0,.slice none 0 0] 36)):=b3.alloc b3.size _
          have bl:Below w3.heap.size w3 (w3.alloc (.cells #[.int .i64 0,.slice none 0 0] 36)):=(Below.refl _ w3).alloc (Nat.le_refl _) _
          refine hK.out _ _ (HSd.out _ ba) (fun hHeld=>?_)
          try simp only [Act.put,List.setIfInBounds_toArray,List.set_cons_zero,List.set_cons_succ]
          refine wpAnyH_ready (rs:=[8]) (by kernel_rfl) (by simp) ?_
          refine AllReadyH.cons rfl (fun K hK=>?_) AllReadyH.nil
          have CF:=hide (HFo.out _ ba)
          go_simp
          go_wp2_with (go_at_call 6;(with_reducible refine CF.out.mono ?_);rintro e w4 ⟨x4,a4,n4,c4,rfl,k4,hb4⟩;have b4:=ba.trans (hb4.mono ba.size);have z4:=hb4.size;have hS4:=HSd.out _ b4;have nb2:=nb.below hb4 nb.lt)
          refine hK.out _ _ hS4 (fun hHeld=>?_)
          try simp only [Act.put,List.setIfInBounds_toArray,List.set_cons_zero,List.set_cons_succ]
          refine wpAnyH_take (i:=9) (v:=.tuple #[.agg #[.int .i64 x4,.slice a4 n4 c4],.bool X]) rfl (by kernel_rfl) (by kernel_rfl) (by kernel_rfl) (fun _ _ _ h=>h) (Or.inl ⟨by rfl,fun W hW=>by (obtain ⟨q0,q1⟩:=hW;go_simp)⟩) (by assumption) ?_
          change wpAnyH Tryz.prog _ _ _ _ _ _ (Act.put _ (some 19) _) _
          simp only [Act.put,List.setIfInBounds_toArray,List.set_cons_zero,List.set_cons_succ]
          refine wpAnyH_take (i:=10) (v:=.agg #[.int .i64 x4,.slice a4 n4 c4]) rfl (by kernel_rfl) (by kernel_rfl) (by kernel_rfl) (fun _ _ _ h=>h) (Or.inl ⟨by rfl,fun W hW=>by (obtain ⟨q0,q1⟩:=hW;go_simp)⟩) (by assumption) ?_
          change wpAnyH Tryz.prog _ _ _ _ _ _ (Act.put _ (some 29) _) _
          simp only [Act.put,List.setIfInBounds_toArray,List.set_cons_zero,List.set_cons_succ]
          refine wpAnyH_take (i:=11) (v:=.bool X) rfl (by kernel_rfl) (by kernel_rfl) (by kernel_rfl) (fun _ _ _ h=>h) (Or.inl ⟨by rfl,fun W hW=>by (obtain ⟨q0,q1⟩:=hW;go_simp)⟩) (by assumption) ?_
          change wpAnyH Tryz.prog _ _ _ _ _ _ (Act.put _ (some 30) _) _
          simp only [Act.put,List.setIfInBounds_toArray,List.set_cons_zero,List.set_cons_succ]
          have hlB:w2.heap.size<=w3.heap.size:=by first | exact Nat.le_refl _ | exact b3.size
          have b9:Below w2.heap.size w2 (w4.setCells (w3.heap.size) 0 [.int .i64 x4,.slice a4 n4 c4]):=b4.trans (putC_below hlB _ _ _)
          have K9:=hide (blk_all (ys:=[.int .i64 x4,.slice a4 n4 c4]) nb2 rfl)
          have hBlo:w3.heap.size < (w3.alloc (.cells #[.int .i64 0,.slice none 0 0] 36)).heap.size:=nb.lt
          have R9:=hide (fun h=>k4 h _ (Kept.setCs w4 0 [.int .i64 x4,.slice a4 n4 c4] (.inl hBlo)))
          refine wpAnyH_ready (rs:=[13]) (by kernel_rfl) (by simp) ?_
          refine AllReadyH.cons rfl (fun K hK=>?_) AllReadyH.nil
          refine wp_store_mid 36 _ _ rfl (w3.heap.size) 0 #[.int .i64 x4,.slice a4 n4 c4] rfl rfl (nb2.there rfl) sfLg2S (sfOneS _ _ _ _) ?_
          refine hK.out _ _ (HSd.out _ b9) (fun hHeld=>?_)
          try simp only [Act.put,List.setIfInBounds_toArray,List.set_cons_zero,List.set_cons_succ]
          refine wpAnyH_take (i:=14) (v:=.bool X) rfl (by kernel_rfl) (by kernel_rfl) (by kernel_rfl) (fun _ _ _ h=>h) (Or.inl ⟨by rfl,fun W hW=>by (obtain ⟨q0,q1⟩:=hW;go_simp)⟩) (by assumption) ?_
          change wpAnyH Tryz.prog _ _ _ _ _ _ (Act.put _ (some 6) _) _
          simp only [Act.put,List.setIfInBounds_toArray,List.set_cons_zero,List.set_cons_succ]
          refine wpAnyH_done (by kernel_rfl) ?_ _
          obtain ⟨wN,hwN⟩:∃ y,w4.setCells (w3.heap.size) 0 [.int .i64 x4,.slice a4 n4 c4]=y:=⟨_,rfl⟩
          have B9:=hide b9
          try rw [hwN] at K9
          try rw [hwN] at R9
          try rw [hwN] at B9
          (try simp only [List.toList_toArray])
          (try rw [hwN])
          clear hwN hHeld k4 hb4 b4 hS4 b9 hK
          clear hS3 b3 hb3 nb2 nb ba
          have s0:=K9.out.cell 0
          have s1:=K9.out.cell 1
          have J9:=J2.out.below B9.out J2.out.lt
          have t2:=(J9.cell 2).trans HC2.out
          have t3:=(J9.cell 3).trans HC3.out
          simp only [List.getElem?_cons_zero,List.getElem?_cons_succ] at s0 s1
          cases X
          · have hn:=hide (Hno.out rfl)
            clear R9 Hyes Hno HSm
            go_wp2
            go_ret
            exact ⟨ret_bool hn.out.symm,HB2.out.trans (B9.out.mono HB2.out.size) |> fun h=>B1.out.trans (h.mono B1.out.size)⟩
          · obtain ⟨rfl,rfl,hR⟩:=R9.out rfl
            have hyy:=hide (Hyes.out rfl)
            have CS:=hide (HSm.out _ _ _ hR B9.out)
            go_wp2_with fail
            refine CS.out.mono ?_
            rintro e wS ⟨rfl,hbS⟩
            have BS:=hide (B9.out.trans (hbS.mono B9.out.size))
            clear hR R9 CS Hno hbS s0 s1 t2 t3 J9
            cases hY:Y
            · have hn:=hide (hyy.out.1 hY)
              go_wp2
              go_ret
              exact ⟨ret_bool hn.out.symm,HB2.out.trans (BS.out.mono HB2.out.size) |> fun h=>B1.out.trans (h.mono B1.out.size)⟩
            · have hn:=hide (hyy.out.2 hY)
              go_wp2
              go_roundw
              case rel=>exact ⟨i+1,by omega,by go_num,hn.out,HB2.out.trans (BS.out.mono HB2.out.size)⟩
              case measure=>simp [intOf];omega
      · skip
        go_simp
        have nb:Blk (w2.alloc (.cells #[.int .i64 0,.slice none 0 0] 36)).drew w2.heap.size 36 [.int .i64 0,.slice none 0 0]:=Blk.new w2 _ _
        have ba:Below w2.heap.size w2 (w2.alloc (.cells #[.int .i64 0,.slice none 0 0] 36)).drew:=((Below.refl _ w2).alloc (Nat.le_refl _) _).drew
        refine hK.out _ _ (HSd.out _ ba) (fun hHeld=>?_)
        try simp only [Act.put,List.setIfInBounds_toArray,List.set_cons_zero,List.set_cons_succ]
        refine wpAnyH_ready (rs:=[6]) (by kernel_rfl) (by simp) ?_
        refine AllReadyH.cons rfl (fun K hK=>?_) AllReadyH.nil
        go_simp
        go_wp2_with (go_at_call 50;(with_reducible refine (HE.out _ ba).mono ?_);rintro e w3 ⟨rfl,hb3⟩;have b3:=ba.trans (hb3.mono ba.size);have hS3:=HSd.out _ b3;have nb1:=nb.below hb3 nb.lt)
        refine hK.out _ _ hS3 (fun hHeld=>?_)
        try simp only [Act.put,List.setIfInBounds_toArray,List.set_cons_zero,List.set_cons_succ]
        refine wpAnyH_take (i:=7) (v:=.slice ad m cd) rfl (by kernel_rfl) (by kernel_rfl) (by kernel_rfl) (fun _ _ _ h=>h) (Or.inl ⟨by rfl,fun W hW=>by (obtain ⟨q0,q1⟩:=hW;go_simp)⟩) (by assumption) ?_
        change wpAnyH Tryz.prog _ _ _ _ _ _ (Act.put _ (some 27) _) _
        simp only [Act.put,List.setIfInBounds_toArray,List.set_cons_zero,List.set_cons_succ]
        refine wpAnyH_ready (rs:=[8]) (by kernel_rfl) (by simp) ?_
        refine AllReadyH.cons rfl (fun K hK=>?_) AllReadyH.nil
        have CF:=hide (HFo.out _ b3)
        go_simp
        go_wp2_with (go_at_call 6;(with_reducible refine CF.out.mono ?_);rintro e w4 ⟨x4,a4,n4,c4,rfl,k4,hb4⟩;have b4:=b3.trans (hb4.mono b3.size);have z4:=hb4.size;have hS4:=HSd.out _ b4;have nb2:=nb1.below hb4 nb1.lt)
        refine hK.out _ _ hS4 (fun hHeld=>?_)
        try simp only [Act.put,List.setIfInBounds_toArray,List.set_cons_zero,List.set_cons_succ]
        refine wpAnyH_take (i:=9) (v:=.tuple #[.agg #[.int .i64 x4,.slice a4 n4 c4],.bool X]) rfl (by kernel_rfl) (by kernel_rfl) (by kernel_rfl) (fun _ _ _ h=>h) (Or.inl ⟨by rfl,fun W hW=>by (obtain ⟨q0,q1⟩:=hW;go_simp)⟩) (by assumption) ?_
        change wpAnyH Tryz.prog _ _ _ _ _ _ (Act.put _ (some 19) _) _
        simp only [Act.put,List.setIfInBounds_toArray,List.set_cons_zero,List.set_cons_succ]
        refine wpAnyH_take (i:=10) (v:=.agg #[.int .i64 x4,.slice a4 n4 c4]) rfl (by kernel_rfl) (by kernel_rfl) (by kernel_rfl) (fun _ _ _ h=>h) (Or.inl ⟨by rfl,fun W hW=>by (obtain ⟨q0,q1⟩:=hW;go_simp)⟩) (by assumption) ?_
        change wpAnyH Tryz.prog _ _ _ _ _ _ (Act.put _ (some 29) _) _
        simp only [Act.put,List.setIfInBounds_toArray,List.set_cons_zero,List.set_cons_succ]
        refine wpAnyH_take (i:=11) (v:=.bool X) rfl (by kernel_rfl) (by kernel_rfl) (by kernel_rfl) (fun _ _ _ h=>h) (Or.inl ⟨by rfl,fun W hW=>by (obtain ⟨q0,q1⟩:=hW;go_simp)⟩) (by assumption) ?_
        change wpAnyH Tryz.prog _ _ _ _ _ _ (Act.put _ (some 30) _) _
        simp only [Act.put,List.setIfInBounds_toArray,List.set_cons_zero,List.set_cons_succ]
        have hlB:w2.heap.size<=w2.heap.size:=by first | exact Nat.le_refl _ | exact b3.size
        have b9:Below w2.heap.size w2 (w4.setCells (w2.heap.size) 0 [.int .i64 x4,.slice a4 n4 c4]):=b4.trans (putC_below hlB _ _ _)
        have K9:=hide (blk_all (ys:=[.int .i64 x4,.slice a4 n4 c4]) nb2 rfl)
        have hBlo:w2.heap.size < w3.heap.size:=nb1.lt
        have R9:=hide (fun h=>k4 h _ (Kept.setCs w4 0 [.int .i64 x4,.slice a4 n4 c4] (.inl hBlo)))
        refine wpAnyH_ready (rs:=[13]) (by kernel_rfl) (by simp) ?_
        refine AllReadyH.cons rfl (fun K hK=>?_) AllReadyH.nil
        refine wp_store_mid 36 _ _ rfl (w2.heap.size) 0 #[.int .i64 x4,.slice a4 n4 c4] rfl rfl (nb2.there rfl) sfLg2S (sfOneS _ _ _ _) ?_
        refine hK.out _ _ (HSd.out _ b9) (fun hHeld=>?_)
        try simp only [Act.put,List.setIfInBounds_toArray,List.set_cons_zero,List.set_cons_succ]
        refine wpAnyH_take (i:=14) (v:=.bool X) rfl (by kernel_rfl) (by kernel_rfl) (by kernel_rfl) (fun _ _ _ h=>h) (Or.inl ⟨by rfl,fun W hW=>by (obtain ⟨q0,q1⟩:=hW;go_simp)⟩) (by assumption) ?_
        change wpAnyH Tryz.prog _ _ _ _ _ _ (Act.put _ (some 6) _) _
        simp only [Act.put,List.setIfInBounds_toArray,List.set_cons_zero,List.set_cons_succ]
        refine wpAnyH_done (by kernel_rfl) ?_ _
        obtain ⟨wN,hwN⟩:∃ y,w4.setCells (w2.heap.size) 0 [.int .i64 x4,.slice a4 n4 c4]=y:=⟨_,rfl⟩
        have B9:=hide b9
        try rw [hwN] at K9
        try rw [hwN] at R9
        try rw [hwN] at B9
        (try simp only [List.toList_toArray])
        (try rw [hwN])
        clear hwN hHeld k4 hb4 b4 hS4 b9 hK
        clear hS3 b3 hb3 nb2 nb1 nb ba
        have s0:=K9.out.cell 0
        have s1:=K9.out.cell 1
        have J9:=J2.out.below B9.out J2.out.lt
        have t2:=(J9.cell 2).trans HC2.out
        have t3:=(J9.cell 3).trans HC3.out
        simp only [List.getElem?_cons_zero,List.getElem?_cons_succ] at s0 s1
        cases X
        · have hn:=hide (Hno.out rfl)
          clear R9 Hyes Hno HSm
          go_wp2
          go_ret
          exact ⟨ret_bool hn.out.symm,HB2.out.trans (B9.out.mono HB2.out.size) |> fun h=>B1.out.trans (h.mono B1.out.size)⟩
        · obtain ⟨rfl,rfl,hR⟩:=R9.out rfl
          have hyy:=hide (Hyes.out rfl)
          have CS:=hide (HSm.out _ _ _ hR B9.out)
          go_wp2_with fail
          refine CS.out.mono ?_
          rintro e wS ⟨rfl,hbS⟩
          have BS:=hide (B9.out.trans (hbS.mono B9.out.size))
          clear hR R9 CS Hno hbS s0 s1 t2 t3 J9
          cases hY:Y
          · have hn:=hide (hyy.out.1 hY)
            go_wp2
            go_ret
            exact ⟨ret_bool hn.out.symm,HB2.out.trans (BS.out.mono HB2.out.size) |> fun h=>B1.out.trans (h.mono B1.out.size)⟩
          · have hn:=hide (hyy.out.2 hY)
            go_wp2
            go_roundw
            case rel=>exact ⟨i+1,by omega,by go_num,hn.out,HB2.out.trans (BS.out.mono HB2.out.size)⟩
            case measure=>simp [intOf];omega
    · have hii:¬ (i:Int) < (ns.length:Int):=by omega
      have hf:=hide (fd_yes (bs:=bs) (e:=e0) (l:=l0) (ns:=ns) (fun j h=>Hlo.out j h (by omega)))
      have Hb:=hide (B1.out.trans (hb.mono B1.out.size))
      clear hb
      go_wp2
      go_ret
      exact ⟨ret_bool hf.out.symm,Hb.out⟩
theorem specFolded_any (p:Wd) (u:Wv) (w:World) (hr:RdWd w p u) (hf:FewWd p) (hft:FitWd p) (hg:FewG (p.ep,p.la)) :
    Calls Tryz.prog 17 #[wdV p u] w fun e w'=>e=.returned (.bool (fdB p))/\Below w.heap.size w w':=by
  obtain ⟨adn,cpn,en⟩:=hr.kn.shape
  obtain ⟨adb,cpb,eb⟩:=hr.kb.shape
  obtain ⟨ada,cpa,ea⟩:=hr.ka.shape
  have h1:=hr.kn
  have h2:=hr.kb
  have h3:=hr.ka
  unfold wdV
  rw [en] at h1 ⊢
  rw [eb] at h2 ⊢
  rw [ea] at h3 ⊢
  exact specFoldedN_any p.ep u.f u.s u.m ada cpa p.la adn cpn p.ns adb cpb p.bs w h3 hg h2 hf.nb hf.fb h1 hf.nn hf.fn
end Go.Proofs.YteefibiikampbaaGreatDoor
