/- At all worlds Folded of the program answers as the model's Folded, and writes into no argument: the law FnExactFolded returns true, with no condition but that the library's type handle reads as the program's text lays it. -/
import Derived.Test.YteefibiikampbaaGreatDoorZfSfAcI
import Derived.LaidLaws
import Derived.LaidHandle
import Derived.LaidMore
import Derived.OpenVars
import Derived.Stop.Joined
import Derived.Test.YteefibiikampbaaGreatDoorTie
import Derived.Test.YteefibiikampbaaGreatDoorCards
import Derived.Test.YteefibiikampbaaGreatDoorZfWdEq
import Derived.ChangeSame
import Derived.ChangeVars
import Derived.JoinedOf
import Derived.Below
import Derived.SevenTiedAt
set_option maxRecDepth 100000
set_option maxHeartbeats 8000000
namespace Go.Proofs.YteefibiikampbaaGreatDoor
open Go.RowKit Go.Sort
set_option linter.unusedVariables false
set_option linter.unusedSimpArgs false
theorem sfOne (x:Int) (a:Option Addr) (n c:Nat):(#[Value.int .i64 x,.slice a n c]:Array Value).all (·.oneCell')=true:=by simp [Value.oneCell']
theorem sfLg2:(Tryz.prog.info? 36).map (·.size)=some 2:=by kernel_rfl
theorem foldedK_any (e0:Int) (vf vn vs vm:Value) (av:Option Addr) (cv:Nat) (l0:List Ac) (adb:Option Addr) (cpb:Nat) (bs:List Bk) (ad:Option Addr) (cd:Nat) (d:List Int) (w:World) (hgh:Gh w) (hA:RdA w (.slice av l0.length cv) l0) (hg0:FewG (e0,l0)) (hB:RdKs w (.slice adb bs.length cpb) bs) (hl:bs.length<=4000000) (hfb:∀ b ∈ bs,FewK b) (hD:RdI w (.slice ad d.length cd) d) (hd:d.length<=4000000) :
    Calls Tryz.prog 35 #[.agg #[.int .i64 e0,.slice av l0.length cv,vf,vn,.slice adb bs.length cpb,vs,vm],.slice ad d.length cd] w fun en w'=>∃ (x:Int) (a:Option Addr) (n c:Nat),en=.returned (.tuple #[.agg #[.int .i64 x,.slice a n c],.bool (okD bs d)])/\(okD bs d=true->∀ W,Kept w.heap.size w'.heap.size w' W->x=(foD bs e0 l0 d).1/\n=(foD bs e0 l0 d).2.length/\RdA W (.slice a n c) (foD bs e0 l0 d).2)/\Below w.heap.size w w' :=
  (folded_any e0 vf vn vs vm av cv l0 adb cpb bs ad cd d w hgh hA hg0 hB hl hfb hD hd).mono (fun en w' h=>by
    rcases h with ⟨h1,v',rfl,ho,hb⟩ | ⟨h1,x,v',rfl,⟨a,n,c,rfl⟩,hb⟩
    · obtain ⟨a,c,rfl⟩:=ho.rd.shape
      exact ⟨_,a,_,c,by rw [h1];rfl,fun _ W hk=>⟨rfl,rfl,(ho.ox.kept hk).rd⟩,hb⟩
    · exact ⟨x,a,n,c,by rw [h1],fun h=>(by rw [h1] at h;cases h),hb⟩)
theorem allFolded_any (e0:Int) (vf vs vm:Value) (av:Option Addr) (cv:Nat) (l0:List Ac) (adn:Option Addr) (cpn:Nat) (ns:List Nd) (adb:Option Addr) (cpb:Nat) (bs:List Bk) (w:World) (hgh:Gh w) (hA:RdA w (.slice av l0.length cv) l0) (hg0:FewG (e0,l0)) (hB:RdKs w (.slice adb bs.length cpb) bs) (hl:bs.length<=4000000) (hfb:∀ b ∈ bs,FewK b) (hN:RdNs w (.slice adn ns.length cpn) ns) (hln:ns.length<=4000000) (hfn:∀ q ∈ ns,FewNd q) :
    Calls Tryz.prog 52 #[.agg #[.int .i64 e0,.slice av l0.length cv,vf,.slice adn ns.length cpn,.slice adb bs.length cpb,vs,vm]] w fun e w'=>e=.returned (.bool (ns.all (fnB bs e0 l0)))/\Below w.heap.size w w':=by
  obtain ⟨w1,hw1⟩:∃ x,w.alloc (.cells #[.int .i64 e0,.slice av l0.length cv,vf,.slice adn ns.length cpn,.slice adb bs.length cpb,vs,vm] 44)=x:=⟨_,rfl⟩
  have b1:Below w.heap.size w w1:=by rw [<- hw1];exact (Below.refl _ w).alloc (Nat.le_refl _) _
  have K1:=hide (show Blk w1 w.heap.size 44 [.int .i64 e0,.slice av l0.length cv,vf,.slice adn ns.length cpn,.slice adb bs.length cpb,vs,vm] from by rw [<- hw1];exact Blk.new w _ _)
  have IW:=hide (show (Tryz.prog.info? 44).map (·.size)=some ([.int .i64 e0,.slice av l0.length cv,vf,.slice adn ns.length cpn,.slice adb bs.length cpb,vs,vm]:List Value).length from sfWd7)
  have HEn:=hide (fun (ad:Option Addr) (cd:Nat) (d:List Int) V (hV:Below w.heap.size w V) (hD:RdI V (.slice ad d.length cd) d) (hd:d.length<=4000000)=>endedPart_any e0 (.slice av l0.length cv) vf (.slice adn ns.length cpn) vs vm adb cpb bs ad cd d V (hB.below hV (Nat.le_refl _)) hl hD hd)
  have HFd:=hide (fun (ad:Option Addr) (cd:Nat) (d:List Int) V (hV:Below w.heap.size w V) (hD:RdI V (.slice ad d.length cd) d) (hd:d.length<=4000000)=>foldedK_any e0 vf (.slice adn ns.length cpn) vs vm av cv l0 adb cpb bs ad cd d V (hgh.below hV) (hA.below hV (Nat.le_refl _)) hg0 (hB.below hV (Nat.le_refl _)) hl hfb hD hd)
  have HFw:=hide (fun d=>foD_few (bs:=bs) hg0 d)
  have HN:=hide hN
  have HF:=hide hfn
  have B1:=hide b1
  have x3:=K1.out.cell 3
  simp only [List.getElem?_cons_zero,List.getElem?_cons_succ] at x3
  obtain ⟨cw,hcw⟩:∃ x,([.int .i64 e0,.slice av l0.length cv,vf,.slice adn ns.length cpn,.slice adb bs.length cpb,vs,vm]:List Value)=x:=⟨_,rfl⟩
  have hcw2:(.agg #[.int .i64 e0,.slice av l0.length cv,vf,.slice adn ns.length cpn,.slice adb bs.length cpb,vs,vm]:Value)=.agg cw.toArray:=by rw [<- hcw]
  have hcw3:cw[3]?=some (.slice adn ns.length cpn):=by rw [<- hcw];rfl
  rw [hcw] at K1 IW
  rw [hcw2] at HEn HFd ⊢
  rw [show (w.alloc (.cells #[.int .i64 e0,.slice av l0.length cv,vf,.slice adn ns.length cpn,.slice adb bs.length cpb,vs,vm] 44))=w.alloc (.cells cw.toArray 44) from by rw [<- hcw]] at hw1
  have Hcw3:=hide hcw3
  clear hA hB hN b1 hfn hfb hg0 hcw hcw2 hcw3 hgh
  go_enter Tryz.func52,Tryz.ntmps52
  go_upto_region 1 with fail
  (try rw [hw1])
  clear hw1
  go_wp2
  clear x3
  go_loopw [10] (fun iv wr=>∃ i:Nat,i<=ns.length/\iv=.int .i64 (i:Int)/\(∀ j (h:j < ns.length),j < i->fnB bs e0 l0 ns[j]=true)/\Below w1.heap.size w1 wr) (fun iv _=>ns.length - (intOf iv).toNat)
  case atStart=>exact ⟨0,Nat.zero_le _,rfl,(fun j _ h=>by omega),Below.refl _ _⟩
  case round =>
    obtain ⟨i,hi,rfl,hlo,hb⟩:=hrel
    have Hlo:=hide hlo
    clear hlo
    have x3:=((K1.out.below hb K1.out.lt).cell 3).trans Hcw3.out
    by_cases hlt:i < ns.length
    · obtain ⟨b0,off,rfl,hc1,hc2,h3,hcell⟩:=HN.out.sf20 (by omega)
      obtain ⟨u,hat,hru⟩:=hcell i hlt
      have hBr:=B1.out.trans (hb.mono B1.out.size)
      have Hrg:=hide (range_below hat hBr h3)
      have hrw:=hru.below hBr (Nat.le_refl _)
      have hii:(i:Int) < (ns.length:Int):=by omega
      have hi0:(0:Int)<=(i:Int):=by omega
      have zb1:Blk (wr.alloc (.cells #[.string { data:=#[] },.int .i64 0,.int .i64 0,.slice none 0 0,.slice none 0 0,.slice none 0 0,.int .i64 0,.int .i64 0,.int .i64 0,.int .i64 0,.slice none 0 0,.int .i64 0,.slice none 0 0,.slice none 0 0,.int .i64 0,.slice none 0 0,.slice none 0 0,.slice none 0 0,.slice none 0 0,.slice none 0 0] 96)) wr.heap.size 96 [.string { data:=#[] },.int .i64 0,.int .i64 0,.slice none 0 0,.slice none 0 0,.slice none 0 0,.int .i64 0,.int .i64 0,.int .i64 0,.int .i64 0,.slice none 0 0,.int .i64 0,.slice none 0 0,.slice none 0 0,.int .i64 0,.slice none 0 0,.slice none 0 0,.slice none 0 0,.slice none 0 0,.slice none 0 0]:=Blk.new wr _ _
      have H11:=hide (show (noC ns[i] u).toArray.all (·.oneCell')=true from by rw [List.all_toArray];exact noC_one hrw)
      have IE1:=hide (show (Tryz.prog.info? 96).map (·.size)=some (noC ns[i] u).length from sfNd20)
      have Hth1:=hide (show (wr.alloc (.cells #[.string { data:=#[] },.int .i64 0,.int .i64 0,.slice none 0 0,.slice none 0 0,.slice none 0 0,.int .i64 0,.int .i64 0,.int .i64 0,.int .i64 0,.slice none 0 0,.int .i64 0,.slice none 0 0,.slice none 0 0,.int .i64 0,.slice none 0 0,.slice none 0 0,.slice none 0 0,.slice none 0 0,.slice none 0 0] 96)).there wr.heap.size 0 (noC ns[i] u).toArray.size from zb1.there rfl)
      obtain ⟨w2,hw2⟩:∃ x,(wr.alloc (.cells #[.string { data:=#[] },.int .i64 0,.int .i64 0,.slice none 0 0,.slice none 0 0,.slice none 0 0,.int .i64 0,.int .i64 0,.int .i64 0,.int .i64 0,.slice none 0 0,.int .i64 0,.slice none 0 0,.slice none 0 0,.int .i64 0,.slice none 0 0,.slice none 0 0,.slice none 0 0,.slice none 0 0,.slice none 0 0] 96)).setCells wr.heap.size 0 (noC ns[i] u)=x:=⟨_,rfl⟩
      have J2:=hide (show Blk w2 wr.heap.size 96 (noC ns[i] u) from by rw [<- hw2];exact blk_all zb1 rfl)
      have bw2:Below wr.heap.size wr w2:=by rw [<- hw2];exact ((Below.refl _ wr).alloc (Nat.le_refl _) _).trans (putC_below (Nat.le_refl _) _ _ _)
      have Hw2:=hide hw2
      obtain ⟨ad,cd,hd⟩:=hrw.kd.shape
      obtain ⟨aa,ca,ha⟩:=hrw.ka.shape
      have HC17:=hide (show (noC ns[i] u)[17]?=some (.slice ad ns[i].dn.length cd) from by rw [<- hd];rfl)
      have HC2:=hide (show (noC ns[i] u)[2]?=some (.int .i64 ns[i].be) from rfl)
      have HC3:=hide (show (noC ns[i] u)[3]?=some (.slice aa ns[i].la.length ca) from by rw [<- ha];rfl)
      have hfd:=(HF.out _ (List.getElem_mem hlt)).nd
      have hfa:=HF.out _ (List.getElem_mem hlt)
      have rD:RdI w2 (.slice ad ns[i].dn.length cd) ns[i].dn:=by rw [<- hd];exact hrw.kd.below bw2 (Nat.le_refl _)
      have rA:RdA w2 (.slice aa ns[i].la.length ca) ns[i].la:=by rw [<- ha];exact hrw.ka.below bw2 (Nat.le_refl _)
      have HB2:=hide (hb.trans (bw2.mono hb.size))
      have hBw2:=B1.out.trans (HB2.out.mono B1.out.size)
      have Hno:Hid (okD bs (enD bs ns[i].dn)=false->ns.all (fnB bs e0 l0)=false):=hide (fun h=>fd_no hlt (by unfold fnB;rw [h];rfl))
      have Hyes:Hid (okD bs (enD bs ns[i].dn)=true->((decide ((foD bs e0 l0 (enD bs ns[i].dn)).1=ns[i].be) && eqAcs (foD bs e0 l0 (enD bs ns[i].dn)).2 ns[i].la)=false->ns.all (fnB bs e0 l0)=false)/\((decide ((foD bs e0 l0 (enD bs ns[i].dn)).1=ns[i].be) && eqAcs (foD bs e0 l0 (enD bs ns[i].dn)).2 ns[i].la)=true->∀ j (h:j < ns.length),j < i+1->fnB bs e0 l0 ns[j]=true)):=hide (fun h=>⟨fun h2=>fd_no hlt (by unfold fnB;rw [h,h2];rfl),fun h2 j hj hji=>by
        by_cases e:j=i
        · subst e;unfold fnB;rw [h,h2];rfl
        · exact Hlo.out j hj (by omega)⟩)
      have HSm:=hide (fun (a:Option Addr) (c:Nat) V (hR:RdA V (.slice a (foD bs e0 l0 (enD bs ns[i].dn)).2.length c) (foD bs e0 l0 (enD bs ns[i].dn)).2) (hV:Below w2.heap.size w2 V)=>implSameLg_any (foD bs e0 l0 (enD bs ns[i].dn)).1 ns[i].be (.slice a (foD bs e0 l0 (enD bs ns[i].dn)).2.length c) (.slice aa ns[i].la.length ca) (foD bs e0 l0 (enD bs ns[i].dn)).2 ns[i].la V hR (rA.below hV (Nat.le_refl _)) (by have:=(HFw.out (enD bs ns[i].dn)).1;omega) hfa.na (fun q hq=>by have:=((HFw.out (enD bs ns[i].dn)).2 q hq).2;omega) hfa.fa)
      simp only [lgV] at HSm
      have HE:=hide (fun V (hV:Below w2.heap.size w2 V)=>HEn.out ad cd ns[i].dn V (hBw2.trans (hV.mono hBw2.size)) (rD.below hV (Nat.le_refl _)) hfd)
      have hed:(enD bs ns[i].dn).length<=4000000:=by rw [enD_len];have:=enN_le bs ns[i].dn ns[i].dn.length;omega
      have HFo:=hide (fun V (hV:Below w2.heap.size w2 V) (a:Option Addr) (c:Nat) (hD:RdI V (.slice a (enD bs ns[i].dn).length c) (enD bs ns[i].dn))=>HFd.out a c (enD bs ns[i].dn) V (hBw2.trans (hV.mono hBw2.size)) hD hed)
      generalize okD bs (enD bs ns[i].dn)=X at HFo Hno Hyes
      generalize foD bs e0 l0 (enD bs ns[i].dn)=Gf at HFo Hyes HSm
      generalize hYd:(decide (Gf.1=ns[i].be) && eqAcs Gf.2 ns[i].la)=Y at Hyes HSm
      have KW2:=hide (K1.out.below (hb.trans (bw2.mono hb.size)) K1.out.lt)
      have HSd:=hide (fun V (hV:Below w2.heap.size w2 V)=>(show V.rangeAt w.heap.size 0 cw/\V.cell? ⟨wr.heap.size,17,none⟩=some (.slice ad ns[i].dn.length cd) from ⟨range_below (blk_range KW2.out) hV KW2.out.lt,((J2.out.below hV J2.out.lt).cell 17).trans HC17.out⟩))
      have bD:Below w2.heap.size w2 w2.drew:=(Below.refl _ w2).drew
      clear hat hru hcell hb hBr hrw zb1 bw2 hw2 hd ha rD rA hfd hfa hBw2 hed hYd HEn HFd KW2 HC17
      generalize ns[i].dn=D at HE HSd HFo
      generalize ns[i].be=be at HC2 HSm
      generalize ns[i].la=la at HC3 HSm
      generalize noC ns[i] u=cs at Hrg H11 IE1 Hth1 Hw2 J2 HC2 HC3
      go_upto_region 4 with (first
        | (refine wpList_load_mid rfl 96 _ rfl b0 (off+i * 20) rfl cs _ Hrg.out Tryz.underlying96 rfl IE1.out ?_)
        | (refine wpList_store_mid rfl 96 _ _ rfl wr.heap.size 0 cs.toArray rfl rfl Hth1.out (by simpa using IE1.out) H11.out ?_;rw [Hw2.out])
        | fail)
      (try simp only [Act.put])
      clear x3 Hrg H11 IE1 Hth1 Hw2
      refine wp_region_held_drew (S:=fun W=>W.rangeAt w.heap.size 0 cw/\W.cell? ⟨wr.heap.size,17,none⟩=some (.slice ad D.length cd)) (by kernel_rfl) (HSd.out _ bD) (fun hHeld=>?_)
      refine wpAnyH_take (i:=0) (v:=.agg cw.toArray) rfl (by kernel_rfl) (by kernel_rfl) (by kernel_rfl) (fun _ _ _ h=>h) (yieldsIf_load_mid (by rfl) 44 _ rfl w.heap.size 0 rfl cw _ (fun W hW=>hW.1) Tryz.underlying44 rfl IW.out) (by assumption) ?_
      change wpAnyH Tryz.prog _ _ _ _ _ _ (Act.put _ (some 15) _) _
      simp only [Act.put,List.setIfInBounds_toArray,List.set_cons_zero,List.set_cons_succ]
      refine wpAnyH_take (i:=1) (v:=.agg cw.toArray) rfl (by kernel_rfl) (by kernel_rfl) (by kernel_rfl) (fun _ _ _ h=>h) (yieldsIf_load_mid (by rfl) 44 _ rfl w.heap.size 0 rfl cw _ (fun W hW=>hW.1) Tryz.underlying44 rfl IW.out) (by assumption) ?_
      change wpAnyH Tryz.prog _ _ _ _ _ _ (Act.put _ (some 16) _) _
      simp only [Act.put,List.setIfInBounds_toArray,List.set_cons_zero,List.set_cons_succ]
      refine wpAnyH_take (i:=2) (v:=.pointer (some ⟨wr.heap.size,17,none⟩)) rfl (by kernel_rfl) (by kernel_rfl) (by kernel_rfl) (fun _ _ _ h=>h) (Or.inl ⟨by rfl,fun W hW=>by (obtain ⟨q0,q1⟩:=hW;go_simp)⟩) (by assumption) ?_
      change wpAnyH Tryz.prog _ _ _ _ _ _ (Act.put _ (some 17) _) _
      simp only [Act.put,List.setIfInBounds_toArray,List.set_cons_zero,List.set_cons_succ]
      refine wpAnyH_take (i:=3) (v:=.slice ad D.length cd) rfl (by kernel_rfl) (by kernel_rfl) (by kernel_rfl) (fun _ _ _ h=>h) (Or.inl ⟨by rfl,fun W hW=>by (obtain ⟨q0,q1⟩:=hW;go_simp)⟩) (by assumption) ?_
      change wpAnyH Tryz.prog _ _ _ _ _ _ (Act.put _ (some 18) _) _
      simp only [Act.put,List.setIfInBounds_toArray,List.set_cons_zero,List.set_cons_succ]
      refine wpAnyH_ready (rs:=[4,9]) (by kernel_rfl) (by simp) ?_
      refine AllReadyH.cons rfl (fun K hK=>?_) (AllReadyH.cons rfl (fun K hK=>?_) AllReadyH.nil)
      · skip
        go_simp
        go_wp2_with (go_at_call 84;(with_reducible refine (HE.out _ bD).mono ?_);rintro e w3 ⟨a3,c3,rfl,r3,hb3⟩;have b3:=bD.trans (hb3.mono bD.size);have hS3:=HSd.out _ b3;have r3:=r3.below hb3 (Nat.le_refl _))
        refine hK.out _ _ hS3 (fun hHeld=>?_)
        try simp only [Act.put,List.setIfInBounds_toArray,List.set_cons_zero,List.set_cons_succ]
        refine wpAnyH_ready (rs:=[5,9]) (by kernel_rfl) (by simp) ?_
        refine AllReadyH.cons rfl (fun K hK=>?_) (AllReadyH.cons rfl (fun K hK=>?_) AllReadyH.nil)
        · skip
          have CF:=hide (HFo.out _ b3 _ _ r3)
          go_simp
          go_wp2_with (go_at_call 35;(with_reducible refine CF.out.mono ?_);rintro e w4 ⟨x4,a4,n4,c4,rfl,k4,hb4⟩;have b4:=b3.trans (hb4.mono b3.size);have z4:=hb4.size;have hS4:=HSd.out _ b4)
          refine hK.out _ _ hS4 (fun hHeld=>?_)
          try simp only [Act.put,List.setIfInBounds_toArray,List.set_cons_zero,List.set_cons_succ]
          refine wpAnyH_take (i:=6) (v:=.tuple #[.agg #[.int .i64 x4,.slice a4 n4 c4],.bool X]) rfl (by kernel_rfl) (by kernel_rfl) (by kernel_rfl) (fun _ _ _ h=>h) (Or.inl ⟨by rfl,fun W hW=>by (obtain ⟨q0,q1⟩:=hW;go_simp)⟩) (by assumption) ?_
          change wpAnyH Tryz.prog _ _ _ _ _ _ (Act.put _ (some 14) _) _
          simp only [Act.put,List.setIfInBounds_toArray,List.set_cons_zero,List.set_cons_succ]
          refine wpAnyH_take (i:=7) (v:=.agg #[.int .i64 x4,.slice a4 n4 c4]) rfl (by kernel_rfl) (by kernel_rfl) (by kernel_rfl) (fun _ _ _ h=>h) (Or.inl ⟨by rfl,fun W hW=>by (obtain ⟨q0,q1⟩:=hW;go_simp)⟩) (by assumption) ?_
          change wpAnyH Tryz.prog _ _ _ _ _ _ (Act.put _ (some 21) _) _
          simp only [Act.put,List.setIfInBounds_toArray,List.set_cons_zero,List.set_cons_succ]
          refine wpAnyH_take (i:=8) (v:=.bool X) rfl (by kernel_rfl) (by kernel_rfl) (by kernel_rfl) (fun _ _ _ h=>h) (Or.inl ⟨by rfl,fun W hW=>by (obtain ⟨q0,q1⟩:=hW;go_simp)⟩) (by assumption) ?_
          change wpAnyH Tryz.prog _ _ _ _ _ _ (Act.put _ (some 22) _) _
          simp only [Act.put,List.setIfInBounds_toArray,List.set_cons_zero,List.set_cons_succ]
          refine wpAnyH_ready (rs:=[9]) (by kernel_rfl) (by simp) ?_
          refine AllReadyH.cons rfl (fun K hK=>?_) AllReadyH.nil
          go_simp
          have nb:Blk (w4.alloc (.cells #[.int .i64 0,.slice none 0 0] 36)) w4.heap.size 36 [.int .i64 0,.slice none 0 0]:=Blk.new w4 _ _
          have ba:Below w2.heap.size w2 (w4.alloc (.cells #[.int .i64 0,.slice none 0 0] 36)):=b4.alloc b4.size _
          have bl:Below w4.heap.size w4 (w4.alloc (.cells #[.int .i64 0,.slice none 0 0] 36)):=(Below.refl _ w4).alloc (Nat.le_refl _) _
          refine hK.out _ _ (HSd.out _ ba) (fun hHeld=>?_)
          try simp only [Act.put,List.setIfInBounds_toArray,List.set_cons_zero,List.set_cons_succ]
          have hlB:w2.heap.size<=w4.heap.size:=b4.size
          have b9:Below w2.heap.size w2 ((w4.alloc (.cells #[.int .i64 0,.slice none 0 0] 36)).setCells (w4.heap.size) 0 [.int .i64 x4,.slice a4 n4 c4]):=ba.trans (putC_below hlB _ _ _)
          have K9:=hide (blk_all (ys:=[.int .i64 x4,.slice a4 n4 c4]) nb rfl)
          have R9:=hide (fun h=>k4 h _ (Kept.of_belowT (show Below w4.heap.size w4 ((w4.alloc (.cells #[.int .i64 0,.slice none 0 0] 36)).setCells w4.heap.size 0 [.int .i64 x4,.slice a4 n4 c4]) from bl.trans (putC_below (Nat.le_refl _) _ _ _)) (Nat.le_refl _)))
          refine wpAnyH_ready (rs:=[10]) (by kernel_rfl) (by simp) ?_
          refine AllReadyH.cons rfl (fun K hK=>?_) AllReadyH.nil
          refine wp_store_mid 36 _ _ rfl (w4.heap.size) 0 #[.int .i64 x4,.slice a4 n4 c4] rfl rfl (nb.there rfl) sfLg2 (sfOne _ _ _ _) ?_
          refine hK.out _ _ (HSd.out _ b9) (fun hHeld=>?_)
          try simp only [Act.put,List.setIfInBounds_toArray,List.set_cons_zero,List.set_cons_succ]
          refine wpAnyH_take (i:=11) (v:=.bool X) rfl (by kernel_rfl) (by kernel_rfl) (by kernel_rfl) (fun _ _ _ h=>h) (Or.inl ⟨by rfl,fun W hW=>by (obtain ⟨q0,q1⟩:=hW;go_simp)⟩) (by assumption) ?_
          change wpAnyH Tryz.prog _ _ _ _ _ _ (Act.put _ (some 6) _) _
          simp only [Act.put,List.setIfInBounds_toArray,List.set_cons_zero,List.set_cons_succ]
          refine wpAnyH_done (by kernel_rfl) ?_ _
          obtain ⟨wN,hwN⟩:∃ y,(w4.alloc (.cells #[.int .i64 0,.slice none 0 0] 36)).setCells (w4.heap.size) 0 [.int .i64 x4,.slice a4 n4 c4]=y:=⟨_,rfl⟩
          have B9:=hide b9
          try rw [hwN] at K9
          try rw [hwN] at R9
          try rw [hwN] at B9
          (try simp only [List.toList_toArray])
          (try rw [hwN])
          clear hwN hHeld k4 hb4 b4 hS4 b9 hK
          clear ba bl nb hS3 b3 hb3
          have s0:=K9.out.cell 0
          have s1:=K9.out.cell 1
          have J9:=J2.out.below B9.out J2.out.lt
          have t2:=(J9.cell 2).trans HC2.out
          have t3:=(J9.cell 3).trans HC3.out
          simp only [List.getElem?_cons_zero,List.getElem?_cons_succ] at s0 s1
          cases X
          · have hn:=hide (Hno.out rfl)
            clear R9 Hyes Hno HSm
            go_wp2
            go_ret
            exact ⟨ret_bool hn.out.symm,HB2.out.trans (B9.out.mono HB2.out.size) |> fun h=>B1.out.trans (h.mono B1.out.size)⟩
          · obtain ⟨rfl,rfl,hR⟩:=R9.out rfl
            have hyy:=hide (Hyes.out rfl)
            have CS:=hide (HSm.out _ _ _ hR B9.out)
            go_wp2_with fail
            refine CS.out.mono ?_
            rintro e wS ⟨rfl,hbS⟩
            have BS:=hide (B9.out.trans (hbS.mono B9.out.size))
            clear hR R9 CS Hno hbS s0 s1 t2 t3 J9
            cases hY:Y
            · have hn:=hide (hyy.out.1 hY)
              go_wp2
              go_ret
              exact ⟨ret_bool hn.out.symm,HB2.out.trans (BS.out.mono HB2.out.size) |> fun h=>B1.out.trans (h.mono B1.out.size)⟩
            · have hn:=hide (hyy.out.2 hY)
              go_wp2
              go_roundw
              case rel=>exact ⟨i+1,by omega,by go_num,hn.out,HB2.out.trans (BS.out.mono HB2.out.size)⟩
              case measure=>simp [intOf];omega
        · skip
          go_simp
          have nb:Blk (w3.alloc (.cells #[.int .i64 0,.slice none 0 0] 36)) w3.heap.size 36 [.int .i64 0,.slice none 0 0]:=Blk.new w3 _ _
          have ba:Below w2.heap.size w2 (w3.alloc (.cells #[.int .i64 0,.slice none 0 0] 36)):=b3.alloc b3.size _
          have bl:Below w3.heap.size w3 (w3.alloc (.cells #[.int .i64 0,.slice none 0 0] 36)):=(Below.refl _ w3).alloc (Nat.le_refl _) _
          refine hK.out _ _ (HSd.out _ ba) (fun hHeld=>?_)
          try simp only [Act.put,List.setIfInBounds_toArray,List.set_cons_zero,List.set_cons_succ]
          refine wpAnyH_ready (rs:=[5]) (by kernel_rfl) (by simp) ?_
          refine AllReadyH.cons rfl (fun K hK=>?_) AllReadyH.nil
          have CF:=hide (HFo.out _ ba _ _ (r3.below bl (Nat.le_refl _)))
          go_simp
          go_wp2_with (go_at_call 35;(with_reducible refine CF.out.mono ?_);rintro e w4 ⟨x4,a4,n4,c4,rfl,k4,hb4⟩;have b4:=ba.trans (hb4.mono ba.size);have z4:=hb4.size;have hS4:=HSd.out _ b4;have nb2:=nb.below hb4 nb.lt)
          refine hK.out _ _ hS4 (fun hHeld=>?_)
          try simp only [Act.put,List.setIfInBounds_toArray,List.set_cons_zero,List.set_cons_succ]
          refine wpAnyH_take (i:=6) (v:=.tuple #[.agg #[.int .i64 x4,.slice a4 n4 c4],.bool X]) rfl (by kernel_rfl) (by kernel_rfl) (by kernel_rfl) (fun _ _ _ h=>h) (Or.inl ⟨by rfl,fun W hW=>by (obtain ⟨q0,q1⟩:=hW;go_simp)⟩) (by assumption) ?_
          change wpAnyH Tryz.prog _ _ _ _ _ _ (Act.put _ (some 14) _) _
          simp only [Act.put,List.setIfInBounds_toArray,List.set_cons_zero,List.set_cons_succ]
          refine wpAnyH_take (i:=7) (v:=.agg #[.int .i64 x4,.slice a4 n4 c4]) rfl (by kernel_rfl) (by kernel_rfl) (by kernel_rfl) (fun _ _ _ h=>h) (Or.inl ⟨by rfl,fun W hW=>by (obtain ⟨q0,q1⟩:=hW;go_simp)⟩) (by assumption) ?_
          change wpAnyH Tryz.prog _ _ _ _ _ _ (Act.put _ (some 21) _) _
          simp only [Act.put,List.setIfInBounds_toArray,List.set_cons_zero,List.set_cons_succ]
          refine wpAnyH_take (i:=8) (v:=.bool X) rfl (by kernel_rfl) (by kernel_rfl) (by kernel_rfl) (fun _ _ _ h=>h) (Or.inl ⟨by rfl,fun W hW=>by (obtain ⟨q0,q1⟩:=hW;go_simp)⟩) (by assumption) ?_
          change wpAnyH Tryz.prog _ _ _ _ _ _ (Act.put _ (some 22) _) _
          simp only [Act.put,List.setIfInBounds_toArray,List.set_cons_zero,List.set_cons_succ]
          have hlB:w2.heap.size<=w3.heap.size:=by first | exact Nat.le_refl _ | exact b3.size
          have b9:Below w2.heap.size w2 (w4.setCells (w3.heap.size) 0 [.int .i64 x4,.slice a4 n4 c4]):=b4.trans (putC_below hlB _ _ _)
          have K9:=hide (blk_all (ys:=[.int .i64 x4,.slice a4 n4 c4]) nb2 rfl)
          have hBlo:w3.heap.size < (w3.alloc (.cells #[.int .i64 0,.slice none 0 0] 36)).heap.size:=nb.lt
          have R9:=hide (fun h=>k4 h _ (Kept.setCs w4 0 [.int .i64 x4,.slice a4 n4 c4] (.inl hBlo)))
          refine wpAnyH_ready (rs:=[10]) (by kernel_rfl) (by simp) ?_
          refine AllReadyH.cons rfl (fun K hK=>?_) AllReadyH.nil
          refine wp_store_mid 36 _ _ rfl (w3.heap.size) 0 #[.int .i64 x4,.slice a4 n4 c4] rfl rfl (nb2.there rfl) sfLg2 (sfOne _ _ _ _) ?_
          refine hK.out _ _ (HSd.out _ b9) (fun hHeld=>?_)
          try simp only [Act.put,List.setIfInBounds_toArray,List.set_cons_zero,List.set_cons_succ]
          refine wpAnyH_take (i:=11) (v:=.bool X) rfl (by kernel_rfl) (by kernel_rfl) (by kernel_rfl) (fun _ _ _ h=>h) (Or.inl ⟨by rfl,fun W hW=>by (obtain ⟨q0,q1⟩:=hW;go_simp)⟩) (by assumption) ?_
          change wpAnyH Tryz.prog _ _ _ _ _ _ (Act.put _ (some 6) _) _
          simp only [Act.put,List.setIfInBounds_toArray,List.set_cons_zero,List.set_cons_succ]
          refine wpAnyH_done (by kernel_rfl) ?_ _
          obtain ⟨wN,hwN⟩:∃ y,w4.setCells (w3.heap.size) 0 [.int .i64 x4,.slice a4 n4 c4]=y:=⟨_,rfl⟩
          have B9:=hide b9
          try rw [hwN] at K9
          try rw [hwN] at R9
          try rw [hwN] at B9
          (try simp only [List.toList_toArray])
          (try rw [hwN])
          clear hwN hHeld k4 hb4 b4 hS4 b9 hK
          clear hS3 b3 hb3 nb2 nb ba
          have s0:=K9.out.cell 0
          have s1:=K9.out.cell 1
          have J9:=J2.out.below B9.out J2.out.lt
          have t2:=(J9.cell 2).trans HC2.out
          have t3:=(J9.cell 3).trans HC3.out
          simp only [List.getElem?_cons_zero,List.getElem?_cons_succ] at s0 s1
          cases X
          · have hn:=hide (Hno.out rfl)
            clear R9 Hyes Hno HSm
            go_wp2
            go_ret
            exact ⟨ret_bool hn.out.symm,HB2.out.trans (B9.out.mono HB2.out.size) |> fun h=>B1.out.trans (h.mono B1.out.size)⟩
          · obtain ⟨rfl,rfl,hR⟩:=R9.out rfl
            have hyy:=hide (Hyes.out rfl)
            have CS:=hide (HSm.out _ _ _ hR B9.out)
            go_wp2_with fail
            refine CS.out.mono ?_
            rintro e wS ⟨rfl,hbS⟩
            have BS:=hide (B9.out.trans (hbS.mono B9.out.size))
            clear hR R9 CS Hno hbS s0 s1 t2 t3 J9
            cases hY:Y
            · have hn:=hide (hyy.out.1 hY)
              go_wp2
              go_ret
              exact ⟨ret_bool hn.out.symm,HB2.out.trans (BS.out.mono HB2.out.size) |> fun h=>B1.out.trans (h.mono B1.out.size)⟩
            · have hn:=hide (hyy.out.2 hY)
              go_wp2
              go_roundw
              case rel=>exact ⟨i+1,by omega,by go_num,hn.out,HB2.out.trans (BS.out.mono HB2.out.size)⟩
              case measure=>simp [intOf];omega
      · skip
        go_simp
        have nb:Blk (w2.alloc (.cells #[.int .i64 0,.slice none 0 0] 36)).drew w2.heap.size 36 [.int .i64 0,.slice none 0 0]:=Blk.new w2 _ _
        have ba:Below w2.heap.size w2 (w2.alloc (.cells #[.int .i64 0,.slice none 0 0] 36)).drew:=((Below.refl _ w2).alloc (Nat.le_refl _) _).drew
        refine hK.out _ _ (HSd.out _ ba) (fun hHeld=>?_)
        try simp only [Act.put,List.setIfInBounds_toArray,List.set_cons_zero,List.set_cons_succ]
        refine wpAnyH_ready (rs:=[4]) (by kernel_rfl) (by simp) ?_
        refine AllReadyH.cons rfl (fun K hK=>?_) AllReadyH.nil
        go_simp
        go_wp2_with (go_at_call 84;(with_reducible refine (HE.out _ ba).mono ?_);rintro e w3 ⟨a3,c3,rfl,r3,hb3⟩;have b3:=ba.trans (hb3.mono ba.size);have hS3:=HSd.out _ b3;have r3:=r3.below hb3 (Nat.le_refl _);have nb1:=nb.below hb3 nb.lt)
        refine hK.out _ _ hS3 (fun hHeld=>?_)
        try simp only [Act.put,List.setIfInBounds_toArray,List.set_cons_zero,List.set_cons_succ]
        refine wpAnyH_ready (rs:=[5]) (by kernel_rfl) (by simp) ?_
        refine AllReadyH.cons rfl (fun K hK=>?_) AllReadyH.nil
        have CF:=hide (HFo.out _ b3 _ _ r3)
        go_simp
        go_wp2_with (go_at_call 35;(with_reducible refine CF.out.mono ?_);rintro e w4 ⟨x4,a4,n4,c4,rfl,k4,hb4⟩;have b4:=b3.trans (hb4.mono b3.size);have z4:=hb4.size;have hS4:=HSd.out _ b4;have nb2:=nb1.below hb4 nb1.lt)
        refine hK.out _ _ hS4 (fun hHeld=>?_)
        try simp only [Act.put,List.setIfInBounds_toArray,List.set_cons_zero,List.set_cons_succ]
        refine wpAnyH_take (i:=6) (v:=.tuple #[.agg #[.int .i64 x4,.slice a4 n4 c4],.bool X]) rfl (by kernel_rfl) (by kernel_rfl) (by kernel_rfl) (fun _ _ _ h=>h) (Or.inl ⟨by rfl,fun W hW=>by (obtain ⟨q0,q1⟩:=hW;go_simp)⟩) (by assumption) ?_
        change wpAnyH Tryz.prog _ _ _ _ _ _ (Act.put _ (some 14) _) _
        simp only [Act.put,List.setIfInBounds_toArray,List.set_cons_zero,List.set_cons_succ]
        refine wpAnyH_take (i:=7) (v:=.agg #[.int .i64 x4,.slice a4 n4 c4]) rfl (by kernel_rfl) (by kernel_rfl) (by kernel_rfl) (fun _ _ _ h=>h) (Or.inl ⟨by rfl,fun W hW=>by (obtain ⟨q0,q1⟩:=hW;go_simp)⟩) (by assumption) ?_
        change wpAnyH Tryz.prog _ _ _ _ _ _ (Act.put _ (some 21) _) _
        simp only [Act.put,List.setIfInBounds_toArray,List.set_cons_zero,List.set_cons_succ]
        refine wpAnyH_take (i:=8) (v:=.bool X) rfl (by kernel_rfl) (by kernel_rfl) (by kernel_rfl) (fun _ _ _ h=>h) (Or.inl ⟨by rfl,fun W hW=>by (obtain ⟨q0,q1⟩:=hW;go_simp)⟩) (by assumption) ?_
        change wpAnyH Tryz.prog _ _ _ _ _ _ (Act.put _ (some 22) _) _
        simp only [Act.put,List.setIfInBounds_toArray,List.set_cons_zero,List.set_cons_succ]
        have hlB:w2.heap.size<=w2.heap.size:=by first | exact Nat.le_refl _ | exact b3.size
        have b9:Below w2.heap.size w2 (w4.setCells (w2.heap.size) 0 [.int .i64 x4,.slice a4 n4 c4]):=b4.trans (putC_below hlB _ _ _)
        have K9:=hide (blk_all (ys:=[.int .i64 x4,.slice a4 n4 c4]) nb2 rfl)
        have hBlo:w2.heap.size < w3.heap.size:=nb1.lt
        have R9:=hide (fun h=>k4 h _ (Kept.setCs w4 0 [.int .i64 x4,.slice a4 n4 c4] (.inl hBlo)))
        refine wpAnyH_ready (rs:=[10]) (by kernel_rfl) (by simp) ?_
        refine AllReadyH.cons rfl (fun K hK=>?_) AllReadyH.nil
        refine wp_store_mid 36 _ _ rfl (w2.heap.size) 0 #[.int .i64 x4,.slice a4 n4 c4] rfl rfl (nb2.there rfl) sfLg2 (sfOne _ _ _ _) ?_
        refine hK.out _ _ (HSd.out _ b9) (fun hHeld=>?_)
        try simp only [Act.put,List.setIfInBounds_toArray,List.set_cons_zero,List.set_cons_succ]
        refine wpAnyH_take (i:=11) (v:=.bool X) rfl (by kernel_rfl) (by kernel_rfl) (by kernel_rfl) (fun _ _ _ h=>h) (Or.inl ⟨by rfl,fun W hW=>by (obtain ⟨q0,q1⟩:=hW;go_simp)⟩) (by assumption) ?_
        change wpAnyH Tryz.prog _ _ _ _ _ _ (Act.put _ (some 6) _) _
        simp only [Act.put,List.setIfInBounds_toArray,List.set_cons_zero,List.set_cons_succ]
        refine wpAnyH_done (by kernel_rfl) ?_ _
        obtain ⟨wN,hwN⟩:∃ y,w4.setCells (w2.heap.size) 0 [.int .i64 x4,.slice a4 n4 c4]=y:=⟨_,rfl⟩
        have B9:=hide b9
        try rw [hwN] at K9
        try rw [hwN] at R9
        try rw [hwN] at B9
        (try simp only [List.toList_toArray])
        (try rw [hwN])
        clear hwN hHeld k4 hb4 b4 hS4 b9 hK
        clear hS3 b3 hb3 nb2 nb1 nb ba
        have s0:=K9.out.cell 0
        have s1:=K9.out.cell 1
        have J9:=J2.out.below B9.out J2.out.lt
        have t2:=(J9.cell 2).trans HC2.out
        have t3:=(J9.cell 3).trans HC3.out
        simp only [List.getElem?_cons_zero,List.getElem?_cons_succ] at s0 s1
        cases X
        · have hn:=hide (Hno.out rfl)
          clear R9 Hyes Hno HSm
          go_wp2
          go_ret
          exact ⟨ret_bool hn.out.symm,HB2.out.trans (B9.out.mono HB2.out.size) |> fun h=>B1.out.trans (h.mono B1.out.size)⟩
        · obtain ⟨rfl,rfl,hR⟩:=R9.out rfl
          have hyy:=hide (Hyes.out rfl)
          have CS:=hide (HSm.out _ _ _ hR B9.out)
          go_wp2_with fail
          refine CS.out.mono ?_
          rintro e wS ⟨rfl,hbS⟩
          have BS:=hide (B9.out.trans (hbS.mono B9.out.size))
          clear hR R9 CS Hno hbS s0 s1 t2 t3 J9
          cases hY:Y
          · have hn:=hide (hyy.out.1 hY)
            go_wp2
            go_ret
            exact ⟨ret_bool hn.out.symm,HB2.out.trans (BS.out.mono HB2.out.size) |> fun h=>B1.out.trans (h.mono B1.out.size)⟩
          · have hn:=hide (hyy.out.2 hY)
            go_wp2
            go_roundw
            case rel=>exact ⟨i+1,by omega,by go_num,hn.out,HB2.out.trans (BS.out.mono HB2.out.size)⟩
            case measure=>simp [intOf];omega
    · have hii:¬ (i:Int) < (ns.length:Int):=by omega
      have hf:=hide (fd_yes (bs:=bs) (e:=e0) (l:=l0) (ns:=ns) (fun j h=>Hlo.out j h (by omega)))
      have Hb:=hide (B1.out.trans (hb.mono B1.out.size))
      clear hb
      go_wp2
      go_ret
      exact ⟨ret_bool hf.out.symm,Hb.out⟩
theorem implFolded_any (p:Wd) (u:Wv) (w:World) (hgh:Gh w) (hr:RdWd w p u) (hf:FewWd p) (hft:FitWd p) (hg:FewG (p.ep,p.la)) :
    Calls Tryz.prog 18 #[wdV p u] w fun e w'=>e=.returned (.bool (fdB p))/\Below w.heap.size w w':=by
  obtain ⟨adn,cpn,en⟩:=hr.kn.shape
  obtain ⟨adb,cpb,eb⟩:=hr.kb.shape
  obtain ⟨ada,cpa,ea⟩:=hr.ka.shape
  obtain ⟨w1,hw1⟩:∃ x,w.alloc (.cells (wdC p u).toArray 44)=x:=⟨_,rfl⟩
  have b1:Below w.heap.size w w1:=by rw [<- hw1];exact (Below.refl _ w).alloc (Nat.le_refl _) _
  have K1:=hide (show Blk w1 w.heap.size 44 (wdC p u) from by rw [<- hw1];exact Blk.new w _ _)
  have HC:=hide (show Calls Tryz.prog 52 #[wdV p u] w1 fun e w'=>e=.returned (.bool (fdB p))/\Below w1.heap.size w1 w' from by
    have h1:=hr.kn.below b1 (Nat.le_refl _)
    have h2:=hr.kb.below b1 (Nat.le_refl _)
    have h3:=hr.ka.below b1 (Nat.le_refl _)
    unfold wdV
    rw [en] at h1 ⊢
    rw [eb] at h2 ⊢
    rw [ea] at h3 ⊢
    exact allFolded_any p.ep u.f u.s u.m ada cpa p.la adn cpn p.ns adb cpb p.bs w1 (hgh.below b1) h3 hg h2 hf.nb hf.fb h1 hf.nn hf.fn)
  have IW:=hide (show (Tryz.prog.info? 44).map (·.size)=some (wdC p u).length from sfWd7)
  have R1:=hide (blk_range K1.out)
  have B1:=hide b1
  rw [show wdV p u=.agg (wdC p u).toArray from rfl] at HC ⊢
  clear en eb ea hr hf hft b1 K1 hgh
  generalize fdB p=X at HC ⊢
  generalize wdC p u=cs at HC IW R1 hw1 ⊢
  go_enter Tryz.func18,Tryz.ntmps18
  go_upto_region 1 with fail
  (try rw [hw1])
  clear hw1
  go_wp2_with (first
    | (refine wpList_load_mid rfl 44 _ rfl w.heap.size 0 rfl cs _ R1.out Tryz.underlying44 rfl IW.out ?_)
    | fail)
  refine HC.out.mono ?_
  rintro e w2 ⟨rfl,hb2⟩
  have hB:=B1.out.trans (hb2.mono B1.out.size)
  clear hb2 HC
  go_wp2
  go_ret
  exact ⟨rfl,hB⟩
end Go.Proofs.YteefibiikampbaaGreatDoor
namespace Go.Proofs.YteefibiikampbaaGreatDoor
open Go.ChangeShapes Go.WideShapes Go.RowKit
set_option linter.unusedVariables false
theorem Tryz.et : Tryz.prog.globalNamed "errors.errorType" = some 0 := by kernel_rfl
theorem Tryz.rt : (Tryz.prog.cutTypes.find? (·.1 == "internal/reflectlite.rtype")).map (·.2) = some 261 := by kernel_rfl
theorem Tryz.oneRow:((List.range 342).filter fun t=>Tryz.prog.rowNamed t [101,114,114,111,114])=[220]:=by kernel_rfl
theorem Tryz.nTypes:Tryz.prog.types.size=342:=by kernel_rfl
theorem gh_of_handles {W : World} (h : handlesMet Tryz.prog [("errors.errorType", Rows.laid_errors_errorType)] W) : Gh W := by
  obtain ⟨name,u,ty,e1,e2,e3,e4,e5⟩:=h _ (List.mem_singleton.2 rfl)
  have en:name=[101,114,114,111,114]:=(Option.some.inj e1).symm
  subst en
  obtain rfl:=Option.some.inj (Tryz.rt.symm.trans e2)
  have hm:ty ∈ (List.range 342).filter fun t=>Tryz.prog.rowNamed t [101,114,114,111,114]:=List.mem_filter.2 ⟨List.mem_range.2 (by rw [<- Tryz.nTypes];exact e3),e4⟩
  rw [Tryz.oneRow] at hm
  obtain rfl:=List.mem_singleton.1 hm
  have hh:typeHandle Tryz.prog 220=.pointer (some ⟨1,220,none⟩):=by kernel_rfl
  rw [hh] at e5
  unfold Gh
  simpa using World.var?_cell Tryz.et e5 0
def handPut:Obj->Obj
  | .cells _ t frozen=>.cells #[.iface 261 (.agg #[.pointer (some ⟨1,220,none⟩)])] t frozen
  | o=>o
def laidOn (w0:World):World:={ w0 with heap:=w0.heap.modify 0 handPut }
end Go.Proofs.YteefibiikampbaaGreatDoor
namespace Go.Proofs.YteefibiikampbaaGreatDoor
open Go.ChangeShapes Go.WideShapes Go.ChangeAt Go.RowKit
open Go.ChangeMaps (open_string shut_string)
set_option linter.unusedVariables false
theorem fnExactFolded_own:ownKnob Tryz.prog.godebug=none:=by kernel_rfl
theorem fnExactFolded_laidOut:laidOutB Tryz.prog=true:=by kernel_rfl
theorem wdC_one {w:World} {p:Wd} {u:Wv} (h:RdWd w p u):(wdC p u).all (·.oneCell')=true:=by
  obtain ⟨ada,cpa,eqa⟩:=h.ka.shape
  obtain ⟨adf,cpf,eqf⟩:=h.kf.shape
  obtain ⟨adn,cpn,eqn⟩:=h.kn.shape
  obtain ⟨adb,cpb,eqb⟩:=h.kb.shape
  obtain ⟨ads,cps,eqs⟩:=h.ks.shape
  obtain ⟨adm,cpm,eqm⟩:=h.km.shape
  simp [wdC,Value.oneCell',eqa,eqf,eqn,eqb,eqs,eqm]
theorem Tryz.infoAWd:(Tryz.prog.info? 31).map (·.size)=some 7:=by kernel_rfl
theorem Tryz.infoBWd:(Tryz.prog.info? 44).map (·.size)=some 7:=by kernel_rfl
theorem fnExactFolded_walk (z0:Wd) (y0:Wv) (w:World) (hgh:Gh w) (w0:RdWd w z0 y0/\FitWd z0) :
    Calls Tryz.prog 4 #[wdV z0 y0] w fun e w'=>e=.returned (.bool true)/\Below w.heap.size w w':=by
  obtain ⟨hr,hft⟩:=w0
  obtain ⟨w1,hw1⟩:∃ x,w.alloc (.cells (wdC z0 y0).toArray 31)=x:=⟨_,rfl⟩
  have b1:Below w.heap.size w w1:=by rw [<- hw1];exact (Below.refl _ w).alloc (Nat.le_refl _) _
  have K1:=hide (show Blk w1 w.heap.size 31 (wdC z0 y0) from by rw [<- hw1];exact Blk.new w _ _)
  have Hz:=hide (szWorldL_any z0 y0 1048576 w1 (hr.below b1 (Nat.le_refl _)) (by omega) hft)
  have HT:=hide (fun (hf:FewWd z0) V (hV:Below w.heap.size w V)=>toWorld_any z0 y0 V (hr.below hV (Nat.le_refl _)) hf)
  have HS:=hide (fun (hf:FewWd z0) (hg:FewG (z0.ep,z0.la)) u V (h:RdWd V z0 u)=>specFolded_any z0 u V h hf hft hg)
  have HI:=hide (fun (hf:FewWd z0) (hg:FewG (z0.ep,z0.la)) u V (hV:Below w.heap.size w V) (h:RdWd V z0 u)=>implFolded_any z0 u V (hgh.below hV) h hf hft hg)
  have HG:=hide (fun (h:z0.la.length<=1048576/\∀ a ∈ z0.la,a.2.2.2.2.length<=1048576)=>(show FewG (z0.ep,z0.la) from ⟨by have:=h.1;show z0.la.length<=3999999;omega,fun a ha=>⟨(hft.ga a ha).1,by have:=h.2 a ha;omega⟩⟩))
  have HE:=hide (fun (hf:FewWd z0) u t V (h1:RdWd V z0 u) (h2:RdWd V z0 t)=>eqWorld_same z0 u t V h1 h2 hf)
  have I1:=hide (show (Tryz.prog.info? 31).map (·.size)=some (wdC z0 y0).length from Tryz.infoAWd)
  have L1:=hide (show (wdC z0 y0).length=7 from rfl)
  have B1:=hide b1
  rw [show wdV z0 y0=.agg (wdC z0 y0).toArray from rfl] at Hz HT ⊢
  generalize fdB z0=X at HS HI
  clear hr hft b1 hgh
  generalize wdC z0 y0=cs at K1 Hz HT I1 L1 hw1 ⊢
  have R1:=hide (blk_range K1.out)
  go_enter Tryz.func4,Tryz.ntmps4
  go_upto_region 2 with fail
  (try rw [hw1])
  clear hw1
  go_wp2_with (first
    | (refine wpList_load_mid rfl 31 _ rfl w.heap.size 0 rfl cs _ R1.out Tryz.underlying31 rfl I1.out ?_)
    | fail)
  refine Hz.out.mono ?_
  rintro e w2 ⟨r,rfl,hfit,hb2⟩
  have B2:=hide (B1.out.trans (hb2.mono B1.out.size))
  have K2:=hide (K1.out.below hb2 K1.out.lt)
  have Hfit:=hide hfit
  clear hb2 hfit Hz R1
  by_cases hneg:r < 0
  · clear Hfit HT HS HI HE HG
    go_wp2
    go_ret
    exact ⟨rfl,B2.out⟩
  · obtain ⟨⟨hfew,hlg⟩,-⟩:=Hfit.out (by omega)
    have hg:=HG.out hlg
    have HT:=hide (HT.out hfew)
    have HS:=hide (HS.out hfew hg)
    have HI:=hide (HI.out hfew hg)
    have HE:=hide (HE.out hfew)
    have R2:=hide (blk_range K2.out)
    clear Hfit hfew hg hlg HG
    go_wp2_with (first
      | (refine wpList_load_mid rfl 31 _ rfl w.heap.size 0 rfl cs _ R2.out Tryz.underlying31 rfl I1.out ?_)
      | fail)
    refine (HT.out w2 B2.out).mono ?_
    rintro e w3 ⟨u3,rfl,o3,hb3⟩
    have B3:=hide (B2.out.trans (hb3.mono B2.out.size))
    have K3:=hide (K2.out.below hb3 K2.out.lt)
    have C3:=hide (HS.out u3 w3 o3.rd)
    rw [show wdV z0 u3=.agg (wdC z0 u3).toArray from rfl] at C3 ⊢
    generalize wdC z0 u3=c3 at C3 ⊢
    clear hb3 o3 R2
    go_wp2_with fail
    refine C3.out.mono ?_
    rintro e w4 ⟨rfl,hb4⟩
    have B4:=hide (B3.out.trans (hb4.mono B3.out.size))
    have K4:=hide (K3.out.below hb4 K3.out.lt)
    have R4:=hide (blk_range K4.out)
    clear hb4 C3
    go_wp2_with (first
      | (refine wpList_load_mid rfl 31 _ rfl w.heap.size 0 rfl cs _ R4.out Tryz.underlying31 rfl I1.out ?_)
      | fail)
    refine (HT.out w4 B4.out).mono ?_
    rintro e w5 ⟨u5,rfl,o5,hb5⟩
    have B5:=B4.out.trans (hb5.mono B4.out.size)
    have K5:=K4.out.below hb5 K4.out.lt
    have z5:=K5.lt
    have bz:Blk (w5.alloc (.cells #[.int .i64 0,.slice none 0 0,.slice none 0 0,.slice none 0 0,.slice none 0 0,.slice none 0 0,.slice none 0 0] 44)) w5.heap.size 44 [.int .i64 0,.slice none 0 0,.slice none 0 0,.slice none 0 0,.slice none 0 0,.slice none 0 0,.slice none 0 0]:=Blk.new w5 _ _
    have H1:=hide (show (wdC z0 u5).toArray.all (·.oneCell')=true from by rw [List.all_toArray];exact wdC_one o5.rd)
    have I5:=hide (show (Tryz.prog.info? 44).map (·.size)=some (wdC z0 u5).length from Tryz.infoBWd)
    have Hth:=hide (show (w5.alloc (.cells #[.int .i64 0,.slice none 0 0,.slice none 0 0,.slice none 0 0,.slice none 0 0,.slice none 0 0,.slice none 0 0] 44)).there w5.heap.size 0 (wdC z0 u5).toArray.size from bz.there rfl)
    obtain ⟨w6,hw6⟩:∃ x,(w5.alloc (.cells #[.int .i64 0,.slice none 0 0,.slice none 0 0,.slice none 0 0,.slice none 0 0,.slice none 0 0,.slice none 0 0] 44)).setCells w5.heap.size 0 (wdC z0 u5)=x:=⟨_,rfl⟩
    have J6:=hide (show Blk w6 w5.heap.size 44 (wdC z0 u5) from by rw [<- hw6];exact blk_all bz rfl)
    have b6:Below w5.heap.size w5 w6:=by rw [<- hw6];exact ((Below.refl _ w5).alloc (Nat.le_refl _) _).trans (putC_below (Nat.le_refl _) _ _ _)
    have B6:=hide (B5.trans (b6.mono B5.size))
    have K6:=hide (K5.below b6 K5.lt)
    have N6:=hide (o5.rd.below b6 (Nat.le_refl _))
    have C6:=hide (HI.out u5 w6 B6.out N6.out)
    rw [show wdV z0 u5=.agg (wdC z0 u5).toArray from rfl] at C6 ⊢
    have HE5:=hide (fun t V (h1:RdWd V z0 u5) (h2:RdWd V z0 t)=>HE.out u5 t V h1 h2)
    rw [show wdV z0 u5=.agg (wdC z0 u5).toArray from rfl] at HE5
    generalize wdC z0 u5=c5 at C6 H1 I5 Hth hw6 J6 HE5 ⊢
    have R6:=hide (blk_range J6.out)
    have Hw6:=hide hw6
    clear o5 hb5 B5 K5 bz b6 hw6 R4 HE HS HI
    go_wp2_with (first
      | (refine wpList_load_mid rfl 44 _ rfl w5.heap.size 0 rfl c5 _ R6.out Tryz.underlying44 rfl I5.out ?_)
      | (refine wpList_store_mid rfl 44 _ _ rfl w5.heap.size 0 c5.toArray rfl rfl Hth.out (by simpa using I5.out) H1.out ?_;rw [Hw6.out])
      | fail)
    refine C6.out.mono ?_
    rintro e w7 ⟨rfl,hb7⟩
    have B7:=hide (B6.out.trans (hb7.mono B6.out.size))
    have N7:=hide (N6.out.below hb7 (Nat.le_refl _))
    have z7:=hb7.size
    have HSS:Hid (∀ V,Below w7.heap.size w7 V->(V.rangeAt w5.heap.size 0 c5/\V.rangeAt w.heap.size 0 cs)):=hide (fun V hV=>⟨range_below (range_below R6.out hb7 J6.out.lt) hV (by have:=J6.out.lt;omega),range_below (range_below (blk_range K6.out) hb7 K6.out.lt) hV (by have:=K6.out.lt;omega)⟩)
    have hxx:(X != X)=false:=by cases X <;> rfl
    have bD:Below w7.heap.size w7 w7.drew:=(Below.refl _ w7).drew
    have hS0:=HSS.out _ bD
    clear hb7 C6 z7 z5
    go_wp2
    refine wp_region_held_drew (S:=fun W=>W.rangeAt w5.heap.size 0 c5/\W.rangeAt w.heap.size 0 cs) (by kernel_rfl) hS0 (fun hHeld=>?_)
    refine wpAnyH_take (i:=0) (v:=.agg c5.toArray) rfl (by kernel_rfl) (by kernel_rfl) (by kernel_rfl) (fun _ _ _ h=>h) (yieldsIf_load_mid (by rfl) 44 _ rfl w5.heap.size 0 rfl c5 _ (fun W hW=>hW.1) Tryz.underlying44 rfl I5.out) (by assumption) ?_
    change wpAnyH Tryz.prog _ _ _ _ _ _ (Act.put _ (some 22) _) _
    simp only [Act.put,List.setIfInBounds_toArray,List.set_cons_zero,List.set_cons_succ]
    refine wpAnyH_take (i:=1) (v:=.agg cs.toArray) rfl (by kernel_rfl) (by kernel_rfl) (by kernel_rfl) (fun _ _ _ h=>h) (yieldsIf_load_mid (by rfl) 31 _ rfl w.heap.size 0 rfl cs _ (fun W hW=>hW.2) Tryz.underlying31 rfl I1.out) (by assumption) ?_
    change wpAnyH Tryz.prog _ _ _ _ _ _ (Act.put _ (some 23) _) _
    simp only [Act.put,List.setIfInBounds_toArray,List.set_cons_zero,List.set_cons_succ]
    refine wpAnyH_ready (rs:=[2]) (by kernel_rfl) (by simp) ?_
    refine AllReadyH.cons rfl (fun K hK=>?_) AllReadyH.nil
    go_simp
    go_wp2_with (go_at_call 7;(with_reducible refine (HT.out _ (B7.out.trans (bD.mono B7.out.size))).mono ?_);rintro e w8 ⟨u8,rfl,o8,hb8⟩;have c8:=bD.trans (hb8.mono bD.size);have hS8:=HSS.out _ c8;have r8:=o8.rd)
    refine hK.out _ _ hS8 (fun hHeld=>?_)
    try simp only [Act.put,List.setIfInBounds_toArray,List.set_cons_zero,List.set_cons_succ]
    refine wpAnyH_ready (rs:=[3]) (by kernel_rfl) (by simp) ?_
    refine AllReadyH.cons rfl (fun K hK=>?_) AllReadyH.nil
    go_simp
    go_wp2_with (go_at_call 11;(with_reducible refine (HE5.out _ _ (N7.out.below c8 (Nat.le_refl _)) r8).mono ?_);rintro e w9 ⟨rfl,hb9⟩;have c9:=c8.trans (hb9.mono c8.size);have hS9:=HSS.out _ c9)
    refine hK.out _ _ hS9 (fun hHeld=>?_)
    try simp only [Act.put,List.setIfInBounds_toArray,List.set_cons_zero,List.set_cons_succ]
    refine wpAnyH_take (i:=4) (v:=.bool false) rfl (by kernel_rfl) (by kernel_rfl) (by kernel_rfl) (fun _ _ _ h=>h) (Or.inl ⟨by rfl,fun W hW=>by go_simp⟩) (by assumption) ?_
    change wpAnyH Tryz.prog _ _ _ _ _ _ (Act.put _ (some 26) _) _
    simp only [Act.put,List.setIfInBounds_toArray,List.set_cons_zero,List.set_cons_succ]
    refine wpAnyH_done (by kernel_rfl) ?_ _
    have hB9:=B7.out.trans (c9.mono B7.out.size)
    clear hS0 hS8 hS9 o8 r8 hb8 hb9 c8 c9
    go_wp2
    go_ret
    exact ⟨rfl,hB9⟩
theorem fnExactFolded_met (os:Os) (args:Array Value):laidMetH Tryz.prog Rows.fnExactFoldedRow.laid ((laidOn (World.holding Tryz.prog os ⟨#[],#[],[]⟩)).forCall (fun _ _=>0) ⟨#[],args,[]⟩).memory :=
  laidMetH_of_parts (laidMet_nil _ _) (by kernel_rfl)
theorem fnExactFolded_gh {W:World} (h:laidMetH Tryz.prog Rows.fnExactFoldedRow.laid W):Gh W:=by
  have h':laidMet Tryz.prog [] W/\handlesMet Tryz.prog Rows.fnExactFoldedRow.laid W:=h
  exact gh_of_handles h'.2
theorem fnExactFolded_lifted (os:Os) (started:os.Started) (H:Type) (enc:TypeId × Value->H) :
    ReturnsInHanded {} Tryz.checked os 4 .any (fun w args=>(Rows.fnExactFoldedSpec.pre enc Tryz.prog Tryz.f4 [] false w args/\laidMetH Tryz.prog Rows.fnExactFoldedRow.laid w)/\sizedMet enc Tryz.prog Tryz.f4 (OpenSpec.ofChange Rows.fnExactFoldedSpec) false w args)
      (Rows.fnExactFoldedSpec.post enc Tryz.prog Tryz.f4 false true false false):=by
  refine returnsInHanded_of_change_and (C:=Tryz.checked) (X:=fun w _=>laidMetH Tryz.prog Rows.fnExactFoldedRow.laid w) (fun _ _ _ hh h=>h.of_heap hh) fnExactFolded_own started (by kernel_rfl) Tryz.func4
    (ChangeSpec.witness_at (enc:=enc) (C:=Tryz.checked) (os:=os) (X:=fun w _=>laidMetH Tryz.prog Rows.fnExactFoldedRow.laid w) false (laidOn (World.holding Tryz.prog os ⟨#[],#[],[]⟩)) #[.agg #[.int .i64 0,.slice none 0 0,.slice none 0 0,.slice none 0 0,.slice none 0 0,.slice none 0 0,.slice none 0 0]] 8 rfl (by kernel_rfl) (by kernel_rfl) (by kernel_rfl) (by kernel_rfl) (by kernel_rfl) (fnExactFolded_met os _)) ?_
  intro W base args ds gs before hval0 hW _ _ hL _
  have hval:∀ (j:Nat) t v,Tryz.f4.params[j]?=some t->args[j]?=some v->Value.okWide Tryz.prog W .any base t v:=hval0
  have hW':=hW
  obtain ⟨p,q,hA0,hV0,rfl,hfz,hnd⟩:=hW
  have hV:DataW.TrodVars enc Tryz.prog W (fun _=>true) [] gs q:=hV0
  obtain ⟨rfl,rfl⟩:gs=[]/\q=[]:=by
    cases gs with
    | nil=>exact ⟨rfl,hV⟩
    | cons g r=>exact absurd hV (by intro h;cases h)
  have hA:DataW.TrodAll enc Tryz.prog W 0 (fun _=>true) true Tryz.f4.params.toList args.toList ds p:=hA0
  rw [Tryz.params4] at hA hval
  obtain ⟨v0,vs0,d0,ds0,p0,q0,hargs,rfl,rfl,h0,r0⟩:=trodAll_cons hA
  obtain ⟨rfl,rfl,rfl⟩:=trodAll_nil r0
  obtain rfl:args=#[v0]:=by cases args;simp_all
  have k0:=h0
  have lt0:∀ x ∈ p0,x.block < W.heap.size:=by obtain ⟨m,hm⟩:=k0;exact DataW.trod_lt m _ _ _ hm
  obtain ⟨z0,y0,rfl,w0⟩:∃ (m:Wd) (v:Wv),v0=wdV m v/\RdWd W m v/\FitWd m:=by
    obtain ⟨cs,rfl,hsz⟩:=okWide_struct Tryz.underlying31 (hval 0 31 _ rfl rfl)
    obtain ⟨fuel,hf⟩:=h0
    obtain ⟨m,v,q,rest⟩:=open_Wd (by simpa [Value.cells] using hf)
    exact ⟨m,v,by cases cs;simp at q;subst q;rfl,rest⟩
  clear hA0 hval0
  refine (fnExactFolded_walk z0 y0 W (fnExactFolded_gh hL) w0).mono fun e W' ⟨he,bel⟩=>?_
  subst he
  exact ⟨_,rfl,_,_,_,[],_,[],hW',trodAll_mk1 (shut_bool Tryz.underlying4 _),(trodAll_cons_mk (Below.trod fnExactFolded_laidOut (by kernel_rfl) (of_decide_eq_true (by kernel_rfl)) k0 bel lt0) trodAll_mk0),rfl,bel.frame _,fun h=>by cases h⟩
theorem fnExactFolded_holds:Rows.FnExactFoldedSaid :=
  OpenClaim.holds_of_wide 4 Tryz.f4 rfl rfl rfl rfl rfl rfl rfl ⟨rfl,rfl,rfl,rfl,rfl⟩ rfl rfl rfl rfl rfl (by kernel_rfl) Tryz.func4 (by kernel_rfl)
    (of_decide_eq_true (by kernel_rfl)) (by unfold Func.isWrapper;first | (rw [if_pos (by decide +kernel)];kernel_rfl) | (rw [if_neg (by decide +kernel)];exact ⟨rfl,rfl⟩))
    (fun os started H enc _=>fnExactFolded_lifted os started H enc)
theorem fnExactFolded_card:Rows.FnExactFoldedCardSaid :=
  Claim7.holds_tied_plain_at .later [] [.handle] true Rows.fnExactFoldedCard.stood.harness true
    fnExactFolded_holds (fun _ h=>by cases h) (by kernel_rfl) (fun _ h=>by cases h) fnExactFolded_row_tie rfl ⟨rfl,rfl⟩ (by kernel_rfl) rfl
    (fun f fn hf hfn=>by
      obtain rfl:f=4:=Option.some.inj ((show Tryz.prog.funcNamed Rows.fnExactFoldedRow.func=some 4 by kernel_rfl).symm.trans hf) |>.symm
      obtain rfl:fn=Tryz.f4:=(Option.some.inj (Tryz.func4.symm.trans hfn)).symm
      exact ⟨by kernel_rfl,fun j t ht=>by
        rw [Tryz.params4] at ht
        have hm:t ∈ [31]:=by simpa using Array.mem_of_getElem? ht
        have hall:([31].all fun u=>!Tryz.prog.wantsStandIn u)=true:=by kernel_rfl
        exact (show Tryz.prog.wantsStandIn t=false by simpa using List.all_eq_true.1 hall t hm)⟩)
    (by kernel_rfl)
end Go.Proofs.YteefibiikampbaaGreatDoor
