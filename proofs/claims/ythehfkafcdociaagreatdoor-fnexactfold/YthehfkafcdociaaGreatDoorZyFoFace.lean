/- Fold of the landed code. -/
import Derived.Test.YthehfkafcdociaaGreatDoorZyCtOkI
import Derived.Test.YthehfkafcdociaaGreatDoorZyLgNextJ
import Derived.Deep.Cut
set_option maxRecDepth 20000
set_option maxHeartbeats 4000000
namespace Go.Proofs.YthehfkafcdociaaGreatDoor
open Go.RowKit Go.Sort
set_option linter.unusedVariables false
set_option linter.unusedSimpArgs false
theorem RdKs.fo14 {w:World} {a:Option Addr} {cap:Nat} {l:List Bk} (h:RdKs w (.slice a l.length cap) l) (hl:0 < l.length):∃ b off,a=some ⟨b,off,none⟩/\b < w.heap.size/\∀ i (h:i < l.length),∃ bv,BkAt w b (off+i * 14) l[i] bv/\RdK w l[i] bv:=by
  rcases h with ⟨a',cap',e,rfl,hn⟩ | ⟨b,off,cap',h0,e,h1,h2,h3,h4⟩
  · simp at hl
  · simp only [Value.slice.injEq] at e
    exact ⟨b,off,e.1,h3,h4⟩
theorem foIsPlace_any (a:Option Addr) (c:Nat) (bs:List Bk) (x:Int) (w:World) (hn:bs.length<=4000000) :
    Calls Tryz.prog 60 #[.slice a bs.length c,.int .i64 x] w fun e w'=>e=.returned (.bool (plB bs x))/\w'=w:=by
  have hw:IntKind.i64.wrap ((bs.length:Int) - 1)=(bs.length:Int) - 1:=by rw [IntKind.wrap_i64];omega
  go_enter Tryz.func60,Tryz.ntmps60
  go_wp2_with fail
  refine (implWithinC_any _ _ _ _).mono ?_
  rintro e w ⟨rfl,rfl⟩
  go_wp2
  go_ret
  exact ⟨rfl,rfl⟩
theorem fewG_of {l:List Ac} {e:Int} (h:FewG (e,l)):l.length<=3999999/\∀ a ∈ l,a.1.size<=maxLen/\a.2.2.2.2.length<=3999999:=h
theorem folded_any (e0:Int) (vf vn vs vm:Value) (av:Option Addr) (cv:Nat) (l0:List Ac) (adb:Option Addr) (cpb:Nat) (bs:List Bk) (ad:Option Addr) (cd:Nat) (d:List Int) (w:World) (hgh:Gh w) (hA:RdA w (.slice av l0.length cv) l0) (hg0:FewG (e0,l0)) (hB:RdKs w (.slice adb bs.length cpb) bs) (hl:bs.length<=4000000) (hfb:∀ b ∈ bs,FewK b) (hD:RdI w (.slice ad d.length cd) d) (hd:d.length<=4000000) :
    Calls Tryz.prog 32 #[.agg #[.int .i64 e0,.slice av l0.length cv,vf,vn,.slice adb bs.length cpb,vs,vm],.slice ad d.length cd] w fun en w' =>
      (okD bs d=true/\∃ v',en=.returned (.tuple #[lgV (foD bs e0 l0 d).1 v',.bool true])/\OwnA w.heap.size w' v' (foD bs e0 l0 d).2/\Below w.heap.size w w') \/
      (okD bs d=false/\∃ (x:Int) (v':Value),en=.returned (.tuple #[.agg #[.int .i64 x,v'],.bool false])/\(∃ a n c,v'=.slice a n c)/\Below w.heap.size w w'):=by
  obtain ⟨w2,hw2⟩:∃ x,(w.alloc (.cells #[.int .i64 e0,.slice av l0.length cv,vf,vn,.slice adb bs.length cpb,vs,vm] 44)).alloc (.cells #[.int .i64 0,.slice none 0 0] 36)=x:=⟨_,rfl⟩
  have hs1:(w.alloc (.cells #[.int .i64 e0,.slice av l0.length cv,vf,vn,.slice adb bs.length cpb,vs,vm] 44)).heap.size=w.heap.size+1:=by simp
  have hb2:Below w.heap.size w w2:=by rw [<- hw2];exact ((Below.refl _ w).alloc (Nat.le_refl _) _).alloc (by rw [hs1];omega) _
  have hs2:w2.heap.size=w.heap.size+2:=by rw [<- hw2];simp
  have KW:=hide (show Blk w2 w.heap.size 44 [.int .i64 e0,.slice av l0.length cv,vf,vn,.slice adb bs.length cpb,vs,vm] from by rw [<- hw2];exact (Blk.new w _ _).below ((Below.refl (w.heap.size+1) _).alloc (by rw [hs1];exact Nat.le_refl _) _) (by omega))
  have KR:=hide (show Blk w2 (w.heap.size+1) 36 [.int .i64 0,.slice none 0 0] from by rw [<- hw2,<- hs1];exact Blk.new _ _ _)
  obtain ⟨hg1,hg2⟩:=fewG_of hg0
  have HC:=hide (implCopiedLg_any e0 (.slice av l0.length cv) l0 w2 (hA.below hb2 (Nat.le_refl _)) (by omega) (fun a ha=>by have:=(hg2 a ha).2;omega))
  have HP:=hide (fun (id:Int) V=>foIsPlace_any adb cpb bs id V hl)
  have HAl:=hide (fun (e:Int) (v vt:Value) (l:List Ac) (ts:List Tx5) V (hV:Below w.heap.size w V)=>implAll_any e v vt l ts V (hgh.below hV))
  have HNe:=hide (fun (e:Int) (v:Value) (l:List Ac) V=>implNext_any e v l V)
  have HF:=hide (fun k=>foD_few (bs:=bs) hg0 (d.take k))
  simp only [lgV] at HC HAl HNe
  have Hb2:=hide hb2
  have HB:=hide hB
  have HD:=hide hD
  have HK:=hide hfb
  have c0:=KW.out.cell 0
  have c1:=KW.out.cell 1
  simp only [List.getElem?_cons_zero,List.getElem?_cons_succ] at c0 c1
  clear hs1 hb2 hA hB hD hfb hgh hg1 hg2 hg0
  go_enter Tryz.func32,Tryz.ntmps32
  go_upto_region 1 with fail
  (try rw [hw2])
  clear hw2
  obtain ⟨M,hM⟩:∃ x,(.agg #[.int .i64 e0,.slice av l0.length cv,vf,vn,.slice adb bs.length cpb,vs,vm]:Value)=x:=⟨_,rfl⟩
  rw [hM]
  clear hM
  go_wp2_with fail
  refine HC.out.mono ?_
  rintro en w3 ⟨v3,rfl,o3,hb3⟩
  obtain ⟨a3,c3,rfl⟩:=o3.rd.shape
  obtain ⟨w4,hw4⟩:∃ w4,w3.alloc (.cells #[.int .i64 e0,.slice a3 l0.length c3] 36)=w4:=⟨_,rfl⟩
  have b4:Below w3.heap.size w3 w4:=by rw [<- hw4];exact (Below.refl _ w3).alloc (Nat.le_refl _) _
  have k4:Blk w4 w3.heap.size 36 [.int .i64 e0,.slice a3 l0.length c3]:=by rw [<- hw4];exact Blk.new w3 _ _
  have s4:w4.heap.size=w3.heap.size+1:=by rw [<- hw4];simp
  have x4:=o3.ox.below b4 (Nat.le_refl _)
  have hB4:=hb3.trans (b4.mono hb3.size)
  have hz3:=hb3.size
  clear o3 hb3 b4 c0 c1 HC
  have K5:=hide k4
  have X5:=hide x4
  have B5:=hide hB4
  clear k4 x4 hB4
  go_upto_region 2 with fail
  (try rw [hw4])
  clear hw4
  go_wp2
  go_loopw [14] (fun iv wr=>∃ (i:Nat) (e:Int) (P:List Ac) (a:Option Addr) (c base hi:Nat),i<=d.length/\iv=.int .i64 (i:Int)/\foD bs e0 l0 (d.take i)=(e,P)/\(∀ j (h:j < d.length),j < i->plB bs d[j]=true)/\Blk wr w3.heap.size 36 [.int .i64 e,.slice a P.length c]/\OwnX base hi wr (.slice a P.length c) P/\w2.heap.size<=base/\(w3.heap.size < base\/hi<=w3.heap.size)/\Below w2.heap.size w2 wr) (fun iv _=>d.length - (intOf iv).toNat)
  case atStart=>exact ⟨0,e0,l0,a3,c3,w2.heap.size,w3.heap.size,by omega,rfl,rfl,(fun j _ h=>by omega),K5.out,X5.out,Nat.le_refl _,.inr (Nat.le_refl _),B5.out⟩
  case round =>
    obtain ⟨i,e,P,a,c,base,hi,hi1,rfl,hfo,hlo,kO,x,hbase,hdis,hb⟩:=hrel
    clear K5 X5 B5
    have hwr:=hb.size
    have hO:=kO.lt
    have hBw:=Hb2.out.trans (hb.mono Hb2.out.size)
    have few:=HF.out i
    rw [hfo] at few
    have Hlo:=hide hlo
    clear hlo
    by_cases hlt:i < d.length
    · obtain ⟨b,off,rfl,hc1,hc2,hdlt,hc⟩:=HD.out.at hlt
      have cd0:=(hBw.cell (p:=⟨b,off+i,none⟩) hdlt).trans hc
      have kW:=KW.out.below hb KW.out.lt
      have cb:=kW.cell 4
      simp only [List.getElem?_cons_zero,List.getElem?_cons_succ] at cb
      have hki:(i:Int) < (d.length:Int):=by omega
      have hk0:(0:Int)<=(i:Int):=by omega
      have HP1:=hide (HP.out d[i])
      cases hp:plB bs d[i]
      · have hno:=hide (okD_no hlt hp)
        rw [hp] at HP1
        have d0:=kO.cell 0
        have d1:=kO.cell 1
        have kR:=KR.out.below hb KR.out.lt
        have r0:=kR.cell 0
        have r1:=kR.cell 1
        have g0:=kR.frozen 0
        have g1:=kR.frozen 1
        simp only [List.getElem?_cons_zero,List.getElem?_cons_succ] at d0 d1 r0 r1
        have HBx:=hide ((hBw.setCell (p:=⟨w.heap.size+1,0,none⟩) (show w.heap.size<=w.heap.size+1 by omega) (.int .i64 e)).setCell (p:=⟨w.heap.size+1,1,none⟩) (show w.heap.size<=w.heap.size+1 by omega) (.slice a P.length c))
        clear kO x kR kW hb hBw few hc hfo hp
        generalize d[i]=id at cd0 HP1
        go_wp2_with fail
        refine (HP1.out _).mono ?_
        rintro en V ⟨rfl,rfl⟩
        go_wp2
        refine bodyPost_ret (v:=.tuple #[.agg #[.int .i64 e,.slice a P.length c],.bool false]) (by simp [results,Tryz.f32,go_sem,r0,r1]) rfl ?_
        exact .inr ⟨hno.out,e,_,rfl,⟨_,_,_,rfl⟩,HBx.out⟩
      · rw [hp] at HP1
        have Hp:=hide hp
        obtain ⟨k,hk,hid⟩:=pl_yes hp
        obtain ⟨b1,off1,rfl,h3,hcell⟩:=HB.out.fo14 (by omega)
        obtain ⟨bv,hat,hrk⟩:=hcell k hk
        have hfk:=HK.out bs[k] (List.getElem_mem hk)
        have ya:=hat.below hBw h3
        have ct:=(ya 10 (by omega)).trans (show (bkC bs[k] bv)[10]?=some bv.t from rfl)
        have cen:=(ya 11 (by omega)).trans (show (bkC bs[k] bv)[11]?=some (.bool bs[k].en) from rfl)
        have hrt:=hrk.t
        obtain ⟨ta,tc,hte⟩:=hrt.shape
        rw [hte] at ct hrt
        have Hsn:=hide (foD_snoc bs e0 l0 d i hlt)
        have hkb:(k:Int) < (bs.length:Int):=by omega
        have hkb0:(0:Int)<=(k:Int):=by omega
        have hS:foS bs (e,P) (k:Int)=foB (e,P) bs[k]:=foS_at _ hk
        rw [hfo,hid,hS] at Hsn
        have HAs:Hid (∀ V,Below wr.heap.size wr V->Calls Tryz.prog 61 #[.agg #[.int .i64 e,.slice a P.length c],.slice ta bs[k].ts.length tc] V fun en w'=>∃ v',en=.returned (.tuple #[.agg #[.int .i64 e,v'],.int .i64 ((alA e P bs[k].ts).2:Int)])/\OwnA V.heap.size w' v' (alA e P bs[k].ts).1/\Below wr.heap.size wr w'/\wr.heap.size<=V.heap.size):=hide (fun V hV=>(HAl.out e (.slice a P.length c) (.slice ta bs[k].ts.length tc) P bs[k].ts V (hBw.trans (hV.mono hBw.size)) (x.rd.below hV (Nat.le_refl _)) (hrt.below (hBw.trans (hV.mono hBw.size)) (Nat.le_refl _)) few.1 few.2 hfk.t hfk.ts).mono (fun en w' ⟨v',h1,h2,h3⟩=>⟨v',h1,h2,hV.trans (h3.mono hV.size),hV.size⟩))
        have fewA:FewG (e,(alA e P bs[k].ts).1):=alA_few bs[k].ts few.1 few.2
        have KWr:=hide kW
        have KO:=hide kO
        have Hb:=hide hb
        have d0:=kO.cell 0
        have d1:=kO.cell 1
        simp only [List.getElem?_cons_zero,List.getElem?_cons_succ] at d0 d1
        have hbl:b1 < wr.heap.size:=by have:=hBw.size;omega
        rw [hid] at cd0 HP1
        have C4:=hide ((hat 11 (by omega)).trans (show (bkC bs[k] bv)[11]?=some (.bool bs[k].en) from rfl))
        have HfB:Hid (∀ A:List Ac,(alA e P bs[k].ts).1=A->foB (e,P) bs[k]=if bs[k].en=true then neA e A else (e,A)):=hide (fun A h=>by unfold foB;simp only [h])
        generalize foB (e,P) bs[k]=G at Hsn HfB
        generalize bs[k].en=en9 at cen HfB C4
        generalize bs[k].ts=ts at HAs ct hrt HfB fewA
        generalize hAA:alA e P ts=AA at HAs HfB fewA
        obtain ⟨A,nA⟩:=AA
        simp only at HAs HfB fewA
        have HfB:=hide (HfB.out A rfl)
        have FewA:=hide fewA
        clear hAA hat hrk hcell hfk hte hrt kO x few hb hBw ya hfo hS hc kW fewA hp
        go_wp2_with fail
        refine (HP1.out _).mono ?_
        rintro en V ⟨rfl,rfl⟩
        clear HP1 cen
        go_upto_region 7 with fail
        go_region_law ((go_simp;go_at_call 61;refine (HAs.out _ (by first | exact Below.refl _ _ | exact (Below.refl _ _).drew)).mono ?_;rintro en wA ⟨vA,rfl,oA,bA,zA⟩;have hsh:=oA.rd.shape;obtain ⟨aA,cA,hvA⟩:=hsh;subst hvA;have kA:=KO.out.below bA KO.out.lt;have q0:=kA.cell 0;have q1:=kA.cell 1;have f0:=kA.frozen 0;have f1:=kA.frozen 1;simp only [List.getElem?_cons_zero,List.getElem?_cons_succ] at q0 q1))
        all_goals
          have kN:=(kA.set 0 (.int .i64 e)).set 1 (.slice aA A.length cA)
          have oN:=(oA.older (g:=w3.heap.size) (by omega) 0 (.int .i64 e)).older (g:=w3.heap.size) (by omega) 1 (.slice aA A.length cA)
          have bM:=(bA.mono hwr).setCell (p:=⟨w3.heap.size,0,none⟩) (show w2.heap.size<=w3.heap.size by omega) (.int .i64 e)
          have bN:=(Hb.out.trans (bA.mono hwr)).setCell (p:=⟨w3.heap.size,0,none⟩) (show w2.heap.size<=w3.heap.size by omega) (.int .i64 e) |>.setCell (p:=⟨w3.heap.size,1,none⟩) (show w2.heap.size<=w3.heap.size by omega) (.slice aA A.length cA)
          simp only [List.set_cons_zero,List.set_cons_succ] at kN
          obtain ⟨wN,hwN⟩:∃ y,(wA.setCell ⟨w3.heap.size,0,none⟩ (.int .i64 e)).setCell ⟨w3.heap.size,1,none⟩ (.slice aA A.length cA)=y:=⟨_,rfl⟩
          rw [hwN] at kN oN bN
          have KN:=hide kN
          have ON:=hide oN
          have BN:=hide bN
          have y4:=(KW.out.below bN KW.out.lt).cell 4
          have e11:=((Hb2.out.trans (bN.mono Hb2.out.size)).cell (p:=⟨b1,off1+k * 14+11,none⟩) h3).trans C4.out
          have p0:=kN.cell 0
          have p1:=kN.cell 1
          have j0:=kN.frozen 0
          have j1:=kN.frozen 1
          simp only [List.getElem?_cons_zero,List.getElem?_cons_succ] at y4 p0 p1
          have hPl:Hid (∀ j (h:j < d.length),j < i+1->plB bs d[j]=true):=hide (fun j h hj=>by
            by_cases ej:j=i
            · subst ej;exact Hp.out
            · exact Hlo.out j h (by omega))
          have zN:=bN.size
          clear kA oA bA kN oN bN bM q0 q1 f0 f1
          cases en9
          · have hG:G=(e,A):=by rw [HfB.out];rfl
            go_upto_region 8 with fail
            (try rw [hwN])
            clear hwN
            go_wp2
            go_roundw
            case rel=>exact ⟨i+1,e,A,aA,cA,_,_,by omega,by go_num,by rw [Hsn.out,hG],hPl.out,KN.out,ON.out.ox,by omega,.inl (by omega),BN.out⟩
            case measure=>simp [intOf];omega
          · have hG:G=neA e A:=by rw [HfB.out];rfl
            go_upto_region 8 with fail
            (try rw [hwN])
            clear hwN
            go_wp2_with fail
            refine (HNe.out e (.slice aA A.length cA) A wN ON.out.rd (by have:=(fewG_of FewA.out).1;omega) (fun q hq=>by have:=(fewG_of FewA.out).2 q hq;omega)).mono ?_
            rintro en wB ⟨vB,rfl,oB,hbB⟩
            obtain ⟨aB,cB,hvB⟩:=oB.rd.shape
            subst hvB
            have kB:=KN.out.below hbB KN.out.lt
            have u0:=kB.cell 0
            have u1:=kB.cell 1
            have s0:=kB.frozen 0
            have s1:=kB.frozen 1
            simp only [List.getElem?_cons_zero,List.getElem?_cons_succ] at u0 u1
            have kM:=(kB.set 0 (.int .i64 (neA e A).1)).set 1 (.slice aB (neA e A).2.length cB)
            have oM:=(oB.older (g:=w3.heap.size) (by have:=KN.out.lt;omega) 0 (.int .i64 (neA e A).1)).older (g:=w3.heap.size) (by have:=KN.out.lt;omega) 1 (.slice aB (neA e A).2.length cB)
            have bM:=((BN.out.trans (hbB.mono zN)).setCell (p:=⟨w3.heap.size,0,none⟩) (show w2.heap.size<=w3.heap.size by omega) (.int .i64 (neA e A).1)).setCell (p:=⟨w3.heap.size,1,none⟩) (show w2.heap.size<=w3.heap.size by omega) (.slice aB (neA e A).2.length cB)
            simp only [List.set_cons_zero,List.set_cons_succ] at kM
            have KM:=hide kM
            have OM:=hide oM
            have BM:=hide bM
            have zb:=hbB.size
            have zk:=KN.out.lt
            clear kB kM oM bM oB hbB y4 e11 p0 p1 j0 j1
            obtain ⟨ne,hne⟩:∃ y,neA e A=y:=⟨_,rfl⟩
            rw [hne] at KM OM BM hG ⊢
            clear hne
            obtain ⟨e9,P9⟩:=ne
            simp only at KM OM BM ⊢
            go_wp2
            go_roundw
            case rel=>exact ⟨i+1,e9,P9,aB,cB,_,_,by omega,by go_num,by rw [Hsn.out,hG],hPl.out,KM.out,OM.out.ox,by omega,.inl (by omega),BM.out⟩
            case measure=>simp [intOf];omega
    · obtain rfl:i=d.length:=by omega
      have hy:=hide (okD_yes (bs:=bs) (d:=d) (fun j h=>Hlo.out j h h))
      rw [List.take_length] at hfo
      have d0:=kO.cell 0
      have d1:=kO.cell 1
      simp only [List.getElem?_cons_zero,List.getElem?_cons_succ] at d0 d1
      have kR:=KR.out.below hb KR.out.lt
      have r0:=kR.cell 0
      have r1:=kR.cell 1
      have g0:=kR.frozen 0
      have g1:=kR.frozen 1
      simp only [List.getElem?_cons_zero,List.getElem?_cons_succ] at r0 r1
      have HBx:=hide ((hBw.setCell (p:=⟨w.heap.size+1,0,none⟩) (show w.heap.size<=w.heap.size+1 by omega) (.int .i64 e)).setCell (p:=⟨w.heap.size+1,1,none⟩) (show w.heap.size<=w.heap.size+1 by omega) (.slice a P.length c))
      have HOx:=hide (((x.own.older (g:=w.heap.size+1) (by omega) 0 (.int .i64 e)).older (g:=w.heap.size+1) (by omega) 1 (.slice a P.length c)).mono (show w.heap.size<=_ by omega))
      have Hfo:=hide hfo
      have hli:¬ (d.length:Int) < (d.length:Int):=by omega
      clear kO x kR hb hBw few hfo
      go_wp2
      refine bodyPost_ret (v:=.tuple #[.agg #[.int .i64 e,.slice a P.length c],.bool true]) (by simp [results,Tryz.f32,go_sem,r0,r1]) rfl ?_
      exact .inl ⟨hy.out,_,by rw [Hfo.out];rfl,by rw [Hfo.out];exact HOx.out,HBx.out⟩
end Go.Proofs.YthehfkafcdociaaGreatDoor
namespace Go.Proofs.YthehfkafcdociaaGreatDoor
open Go.RowKit Go.Sort
set_option linter.unusedVariables false
set_option linter.unusedSimpArgs false
def foA (bs:List Bk) (e:Int) (l:List Ac) (d:List Int):Int × List Ac:=if okD bs d=true then foD bs e l d else (e,l)
theorem implFold_any (e0:Int) (vf vn vs vm:Value) (av:Option Addr) (cv:Nat) (l0:List Ac) (adb:Option Addr) (cpb:Nat) (bs:List Bk) (ad:Option Addr) (cd:Nat) (d:List Int) (w:World) (hgh:Gh w) (hA:RdA w (.slice av l0.length cv) l0) (hg0:FewG (e0,l0)) (hB:RdKs w (.slice adb bs.length cpb) bs) (hl:bs.length<=4000000) (hfb:∀ b ∈ bs,FewK b) (hD:RdI w (.slice ad d.length cd) d) (hd:d.length<=4000000) :
    Calls Tryz.prog 8 #[.agg #[.int .i64 e0,.slice av l0.length cv,vf,vn,.slice adb bs.length cpb,vs,vm],.slice ad d.length cd] w fun en w'=>∃ v',en=.returned (.tuple #[lgV (foA bs e0 l0 d).1 v',.bool (okD bs d)])/\OwnA w.heap.size w' v' (foA bs e0 l0 d).2/\Below w.heap.size w w':=by
  obtain ⟨w2,hw2⟩:∃ x,(w.alloc (.cells #[.int .i64 e0,.slice av l0.length cv,vf,vn,.slice adb bs.length cpb,vs,vm] 44)).alloc (.cells #[.int .i64 0,.slice none 0 0] 36)=x:=⟨_,rfl⟩
  have hs1:(w.alloc (.cells #[.int .i64 e0,.slice av l0.length cv,vf,vn,.slice adb bs.length cpb,vs,vm] 44)).heap.size=w.heap.size+1:=by simp
  have hb2:Below w.heap.size w w2:=by rw [<- hw2];exact ((Below.refl _ w).alloc (Nat.le_refl _) _).alloc (by rw [hs1];omega) _
  have hs2:w2.heap.size=w.heap.size+2:=by rw [<- hw2];simp
  have KW:=hide (show Blk w2 w.heap.size 44 [.int .i64 e0,.slice av l0.length cv,vf,vn,.slice adb bs.length cpb,vs,vm] from by rw [<- hw2];exact (Blk.new w _ _).below ((Below.refl (w.heap.size+1) _).alloc (by rw [hs1];exact Nat.le_refl _) _) (by omega))
  have KR:=hide (show Blk w2 (w.heap.size+1) 36 [.int .i64 0,.slice none 0 0] from by rw [<- hw2,<- hs1];exact Blk.new _ _ _)
  have IW:=hide (show (Tryz.prog.info? 44).map (·.size)=some ([.int .i64 e0,.slice av l0.length cv,vf,vn,.slice adb bs.length cpb,vs,vm]:List Value).length from sfWd7)
  obtain ⟨hg1,hg2⟩:=fewG_of hg0
  have HC:=hide (fun V (hV:Below w.heap.size w V)=>implCopiedLg_any e0 (.slice av l0.length cv) l0 V (hA.below hV (Nat.le_refl _)) (by omega) (fun a ha=>by have:=(hg2 a ha).2;omega))
  have HF:=hide (folded_any e0 vf vn vs vm av cv l0 adb cpb bs ad cd d w2 (hgh.below hb2) (hA.below hb2 (Nat.le_refl _)) hg0 (hB.below hb2 (Nat.le_refl _)) hl hfb (hD.below hb2 (Nat.le_refl _)) hd)
  have Hb2:=hide hb2
  obtain ⟨cw,hcw⟩:∃ x,([.int .i64 e0,.slice av l0.length cv,vf,vn,.slice adb bs.length cpb,vs,vm]:List Value)=x:=⟨_,rfl⟩
  have hcw2:(.agg #[.int .i64 e0,.slice av l0.length cv,vf,vn,.slice adb bs.length cpb,vs,vm]:Value)=.agg cw.toArray:=by rw [<- hcw]
  have h0:cw[0]?=some (.int .i64 e0):=by rw [<- hcw];rfl
  have h1:cw[1]?=some (.slice av l0.length cv):=by rw [<- hcw];rfl
  rw [hcw] at KW IW
  rw [hcw2] at HF ⊢
  rw [show (w.alloc (.cells #[.int .i64 e0,.slice av l0.length cv,vf,vn,.slice adb bs.length cpb,vs,vm] 44))=w.alloc (.cells cw.toArray 44) from by rw [<- hcw]] at hw2
  simp only [lgV] at HC HF ⊢
  have H01:=hide (And.intro h0 h1)
  have R2:=hide (blk_range KW.out)
  clear hs1 hb2 hA hB hD hfb hgh hg1 hg2 hg0 hcw hcw2 h0 h1
  go_enter Tryz.func8,Tryz.ntmps8
  go_upto_region 1 with fail
  (try rw [hw2])
  clear hw2
  go_wp2_with (first
    | (refine wpList_load_mid rfl 44 _ rfl w.heap.size 0 rfl cw _ R2.out Tryz.underlying44 rfl IW.out ?_)
    | fail)
  refine HF.out.mono ?_
  rintro en w3 h
  rcases h with ⟨hok,v',rfl,ho,hb3⟩ | ⟨hok,x,v',rfl,⟨a,n,c,rfl⟩,hb3⟩
  · have hfo:foA bs e0 l0 d=foD bs e0 l0 d:=by unfold foA;rw [if_pos hok]
    have Hok:=hide hok
    obtain ⟨a,c,rfl⟩:=ho.rd.shape
    obtain ⟨⟨e,P⟩,hP⟩:∃ y,foD bs e0 l0 d=y:=⟨_,rfl⟩
    rw [hP] at ho hfo ⊢
    have Hfo:=hide hfo
    simp only at ho ⊢
    have hb:=Hb2.out.trans (hb3.mono Hb2.out.size)
    have kR:=KR.out.below hb3 KR.out.lt
    obtain ⟨w4,hw4⟩:∃ y,w3.alloc (.cells #[.int .i64 e,.slice a P.length c] 36)=y:=⟨_,rfl⟩
    have b4:Below w3.heap.size w3 w4:=by rw [<- hw4];exact (Below.refl _ w3).alloc (Nat.le_refl _) _
    have k4:Blk w4 w3.heap.size 36 [.int .i64 e,.slice a P.length c]:=by rw [<- hw4];exact Blk.new w3 _ _
    have x0:=k4.cell 0
    have x1:=k4.cell 1
    have kR4:=kR.below b4 kR.lt
    have r0:=kR4.cell 0
    have r1:=kR4.cell 1
    have g0:=kR4.frozen 0
    have g1:=kR4.frozen 1
    simp only [List.getElem?_cons_zero,List.getElem?_cons_succ] at x0 x1 r0 r1
    have hz:=hb3.size
    have HBx:=hide (((hb.trans (b4.mono hb.size)).setCell (p:=⟨w.heap.size+1,0,none⟩) (show w.heap.size<=w.heap.size+1 by omega) (.int .i64 e)).setCell (p:=⟨w.heap.size+1,1,none⟩) (show w.heap.size<=w.heap.size+1 by omega) (.slice a P.length c))
    have HOx:=hide ((((ho.ox.below b4 (Nat.le_refl _)).own.older (g:=w.heap.size+1) (by omega) 0 (.int .i64 e)).older (g:=w.heap.size+1) (by omega) 1 (.slice a P.length c)).mono (show w.heap.size<=_ by omega))
    clear ho hb hb3 kR b4 k4 kR4 hP hfo hok HF HC R2 KW
    go_upto_region 2 with fail
    (try rw [hw4])
    clear hw4
    go_wp2
    refine bodyPost_ret (v:=.tuple #[.agg #[.int .i64 e,.slice a P.length c],.bool true]) (by simp [results,Tryz.f8,go_sem,r0,r1]) rfl ?_
    exact ⟨_,by rw [Hok.out,Hfo.out],by rw [Hfo.out];exact HOx.out,HBx.out⟩
  · have hfo:foA bs e0 l0 d=(e0,l0):=by unfold foA;rw [if_neg (by rw [hok];decide)]
    have Hok:=hide hok
    have Hfo:=hide hfo
    obtain ⟨w4,hw4⟩:∃ y,w3.alloc (.cells #[.int .i64 x,.slice a n c] 36)=y:=⟨_,rfl⟩
    have b4:Below w3.heap.size w3 w4:=by rw [<- hw4];exact (Below.refl _ w3).alloc (Nat.le_refl _) _
    have b24:=hb3.trans (b4.mono hb3.size)
    have hb:=Hb2.out.trans (b24.mono Hb2.out.size)
    have kW:=KW.out.below b24 KW.out.lt
    have x0:=(kW.cell 0).trans H01.out.1
    have x1:=(kW.cell 1).trans H01.out.2
    have KR4:=hide (KR.out.below b24 KR.out.lt)
    have HC4:=hide (HC.out w4 hb)
    have Hb:=hide hb
    have hz:=b24.size
    clear hb3 b4 b24 hb kW HF HC R2 KW KR hfo hok
    go_upto_region 2 with fail
    (try rw [hw4])
    clear hw4
    go_wp2_with fail
    refine HC4.out.mono ?_
    rintro en w6 ⟨v6,rfl,o6,hb6⟩
    obtain ⟨a6,c6,rfl⟩:=o6.rd.shape
    have kR:=KR4.out.below hb6 KR4.out.lt
    have r0:=kR.cell 0
    have r1:=kR.cell 1
    have g0:=kR.frozen 0
    have g1:=kR.frozen 1
    simp only [List.getElem?_cons_zero,List.getElem?_cons_succ] at r0 r1
    have HBx:=hide (((Hb.out.trans (hb6.mono Hb.out.size)).setCell (p:=⟨w.heap.size+1,0,none⟩) (show w.heap.size<=w.heap.size+1 by omega) (.int .i64 e0)).setCell (p:=⟨w.heap.size+1,1,none⟩) (show w.heap.size<=w.heap.size+1 by omega) (.slice a6 l0.length c6))
    have HOx:=hide (((o6.older (g:=w.heap.size+1) (by omega) 0 (.int .i64 e0)).older (g:=w.heap.size+1) (by omega) 1 (.slice a6 l0.length c6)).mono (show w.heap.size<=_ by omega))
    clear kR hb6 o6 x0 x1
    go_wp2
    refine bodyPost_ret (v:=.tuple #[.agg #[.int .i64 e0,.slice a6 l0.length c6],.bool false]) (by simp [results,Tryz.f8,go_sem,r0,r1]) rfl ?_
    exact ⟨_,by rw [Hok.out,Hfo.out],by rw [Hfo.out];exact HOx.out,HBx.out⟩
end Go.Proofs.YthehfkafcdociaaGreatDoor
