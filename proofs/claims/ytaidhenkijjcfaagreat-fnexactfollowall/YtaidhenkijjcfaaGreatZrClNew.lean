/- The one who only follows, from a ledger. -/
import Derived.Test.YtaidhenkijjcfaaGreatZrVsStep
set_option maxRecDepth 20000
set_option maxHeartbeats 2000000
namespace Go.Proofs.YtaidhenkijjcfaaGreat
open Go.RowKit
set_option linter.unusedVariables false
theorem RdA.atV {w:World} {a:Option Addr} {cap i:Nat} {l:List Ac} (h:RdA w (.slice a l.length cap) l) (hi:i < l.length) :
    ∃ b off lv,a=some ⟨b,off,none⟩/\l.length<=cap/\cap<=maxLen/\b < w.heap.size/\AcAt w b (off+i * 5) l[i] lv/\RdL w lv l[i].2.2.2.2:=by
  rcases h with ⟨a',cap',e,rfl,-⟩ | ⟨b,off,cap',h0,e,h1,h2,h3,h4⟩
  · simp at hi
  · simp only [Value.slice.injEq,true_and] at e
    obtain ⟨rfl,rfl⟩:=e
    obtain ⟨lv,q1,q2⟩:=h4 i hi
    exact ⟨b,off,lv,rfl,h1,h2,h3,q1,q2⟩
def setV (l:List Ac):List Vl:=(l.filter (fun a=>decide (5<=a.2.2.2.1))).map (fun a=>(a.1,a.2.2.2.1))
theorem setV_len (l:List Ac):(setV l).length<=l.length:=by unfold setV;rw [List.length_map];exact List.length_filter_le _ _
theorem setV_in (l:List Ac) (k:Nat) (h:k < l.length) (hs:5<=l[k].2.2.2.1):setV (l.take (k+1))=setV (l.take k) ++ [(l[k].1,l[k].2.2.2.1)]:=by
  unfold setV
  rw [List.take_succ_eq_append_getElem h,List.filter_append,List.map_append]
  simp [hs]
theorem setV_out (l:List Ac) (k:Nat) (h:k < l.length) (hs:¬ 5<=l[k].2.2.2.1):setV (l.take (k+1))=setV (l.take k):=by
  unfold setV
  rw [List.take_succ_eq_append_getElem h,List.filter_append,List.map_append]
  simp [hs]
def setA (e:Int) (l:List Ac):List Vl:=if lgB e l=true then setV l else []
theorem specL7Set_any (e:Int) (v:Value) (l:List Ac) (w:World) (hr:RdA w v l) (hl:l.length<=4000000) :
    Calls Tryz.prog 127 #[lgV e v] w fun en w'=>∃ v',en=.returned v'/\OwnV w.heap.size w' v' (setV l)/\Below w.heap.size w w':=by
  obtain ⟨av,cv,rfl⟩:=hr.shape
  simp only [lgV] at *
  obtain ⟨w1,hw1⟩:∃ w1,w.alloc (.cells #[.int .i64 e,.slice av l.length cv] 66)=w1:=⟨_,rfl⟩
  have hb1:Below w.heap.size w w1:=by rw [<- hw1];exact (Below.refl _ w).alloc (Nat.le_refl _) _
  have kL:Blk w1 w.heap.size 66 [.int .i64 e,.slice av l.length cv]:=by rw [<- hw1];exact Blk.new w _ _
  have hs1:w1.heap.size=w.heap.size+1:=by rw [<- hw1];simp
  have ho0:=own_nilV w1 (w.heap.size+1) (by omega)
  have hb0:Below (w.heap.size+1) w1 (w1.alloc (.cells #[] 100)):=(Below.refl _ w1).alloc (by omega) _
  have Hr:=hide (hr.below hb1 (Nat.le_refl _))
  have KL:=hide kL
  have HO:=hide ho0
  have HB:=hide hb0
  have HB1:=hide hb1
  have HS1:=hide hs1
  clear hr ho0 hb0 hb1 kL hs1
  go_enter Tryz.func127,Tryz.ntmps127
  go_wp2
  go_loopw [3,4] (fun ov iv wr=>∃ k:Nat,k<=l.length/\iv=.int .i64 (k:Int)/\OwnV (w.heap.size+1) wr ov (setV (l.take k))/\Below (w.heap.size+1) w1 wr) (fun _ iv _=>l.length - (intOf iv).toNat)
  case atStart=>exact ⟨0,by omega,rfl,HO.out,HB.out⟩
  case round =>
    obtain ⟨k,hk,rfl,ho,hb⟩:=hrel
    have hbs:=hb.size
    have hs1:=HS1.out
    have kR:=KL.out.below hb (by omega)
    have x0:=kR.cell 0
    have x1:=kR.cell 1
    simp only [List.getElem?_cons_zero,List.getElem?_cons_succ] at x0 x1
    clear HO HB
    by_cases hlt:k < l.length
    · obtain ⟨b,off,lv,rfl,hc1,hc2,hbw,hat,-⟩:=Hr.out.atV hlt
      have hli:(k:Int) < (l.length:Int):=by omega
      have hlen:=setV_len (l.take k)
      have htk:(l.take k).length<=l.length:=by simp;omega
      have hbw1:b < w.heap.size+1:=by omega
      have hwr:w.heap.size+1<=wr.heap.size:=by omega
      have c0:=(hb.cell (p:=⟨b,off+k * 5,none⟩) hbw1).trans hat.c0
      have c3:=(hb.cell (p:=⟨b,off+k * 5+3,none⟩) hbw1).trans hat.c3
      have Hin:=hide (setV_in l k hlt)
      have Hout:=hide (setV_out l k hlt)
      clear hat
      generalize setV (l.take k)=S at ho hlen Hin Hout
      generalize l[k].1=nm at c0 Hin
      generalize l[k].2.2.2.1=st at c3 Hin Hout
      have Ho:=hide ho
      have Hb:=hide hb
      clear ho hb kR hs1
      by_cases hst:5<=st
      · have Hin:=hide (Hin.out hst)
        clear Hout
        have hwlt:w.heap.size < w.heap.size+1:=Nat.lt_succ_self _
        go_wp2
        go_region_held_law (fun w'=>w'.cell? ⟨w.heap.size,1,none⟩=some (.slice (some ⟨b,off,none⟩) l.length cv)/\w'.cell? ⟨b,off+k * 5,none⟩=some (.string nm)/\w'.cell? ⟨b,off+k * 5+3,none⟩=some (.int .i64 st)) (go_keep)
          ((refine step_appV rfl _ _ rfl (w.heap.size+1) u3 wr.heap.size S (nm,st) (by rfl) (by rfl) (Ho.out.alloc _).drew (Blk.newV wr _ (vlC (nm,st)) _ rfl).drewV (by omega) (by simp;omega) ?_;intro v3 w3 ho3 hb3;have hbB:Below (w.heap.size+1) wr w3:=(((Below.refl _ wr).alloc (by omega) _).drew).trans hb3;have y1:=(hbB.cell (p:=⟨w.heap.size,1,none⟩) hwlt).trans x1;have y2:=(hbB.cell (p:=⟨b,off+k * 5,none⟩) hbw1).trans c0;have y3:=(hbB.cell (p:=⟨b,off+k * 5+3,none⟩) hbw1).trans c3))
        go_wp2
        go_roundw
        case rel=>exact ⟨k+1,by omega,by go_num,by rw [Hin.out];exact ho3,Hb.out.trans hbB⟩
        case measure=>simp [intOf];omega
      · have Hout:=hide (Hout.out hst)
        clear Hin
        have hst':¬ (5:Int)<=st:=hst
        go_wp2
        go_roundw
        case rel=>exact ⟨k+1,by omega,by go_num,by rw [Hout.out];exact Ho.out,Hb.out⟩
        case measure=>simp [intOf];omega
    · have ek:k=l.length:=by omega
      subst ek
      rw [List.take_length] at ho
      have Ho:=hide (show OwnV w.heap.size wr _ (setV l) from ho.mono (by omega))
      have Hb:=hide (HB1.out.trans (hb.mono (by omega)))
      clear ho hb kR hs1
      go_wp2
      go_ret
      exact ⟨_,rfl,Ho.out,Hb.out⟩
theorem implSetOf_any (e:Int) (v:Value) (l:List Ac) (w:World) (hr:RdA w v l) (hl:l.length<=4000000) (hall:∀ a ∈ l,a.1.size<=maxLen/\a.2.2.2.2.length<=4000000) :
    Calls Tryz.prog 130 #[lgV e v] w fun en w'=>∃ v',en=.returned v'/\OwnV w.heap.size w' v' (setA e l)/\Below w.heap.size w w':=by
  obtain ⟨av,cv,rfl⟩:=hr.shape
  obtain ⟨w1,hw1⟩:∃ w1,(w.alloc (.cells #[.int .i64 e,.slice av l.length cv] 66)).alloc (.cells #[] 100)=w1:=⟨_,rfl⟩
  have hb1:Below w.heap.size w w1:=by rw [<- hw1];exact ((Below.refl _ w).alloc (Nat.le_refl _) _).alloc (by simp) _
  have k1:Blk w1 w.heap.size 66 [.int .i64 e,.slice av l.length cv]:=by rw [<- hw1];exact (Blk.new w 66 [.int .i64 e,.slice av l.length cv]).below ((Below.refl (w.heap.size+1) _).alloc (by simp) _) (by omega)
  have o1:OwnV (w.heap.size+1) w1 (.slice (some ⟨w.heap.size+1,0,none⟩) 0 0) []:=by
    rw [<- hw1]
    have h:=own_nilV (w.alloc (.cells #[.int .i64 e,.slice av l.length cv] 66)) (w.heap.size+1) (by simp)
    simp only [World.size_alloc] at h
    exact h
  have hs1:w1.heap.size=w.heap.size+2:=by rw [<- hw1];simp
  have HK:=hide (implLedgerOk_any e _ l w1 (hr.below hb1 (Nat.le_refl _)) hl hall)
  have Hr:=hide hr
  have Hx:Hid (setA e l=if lgB e l=true then setV l else []):=hide rfl
  have c0:=k1.cell 0
  have c1:=k1.cell 1
  have HS1:=hide hs1
  simp only [List.getElem?_cons_zero,List.getElem?_cons_succ] at c0 c1
  simp only [lgV] at *
  clear hr hall hs1
  generalize setA e l=X at Hx ⊢
  cases hok:lgB e l
  · rw [hok] at HK Hx
    rw [if_neg (by simp)] at Hx
    clear hok
    have O1:=hide o1
    clear o1
    go_enter Tryz.func130,Tryz.ntmps130
    go_wp2_with fail
    refine HK.out.mono ?_
    rintro en w2 ⟨rfl,hb2⟩
    have Hb:=hide (hb1.trans (hb2.mono hb1.size))
    have Ho:=hide ((O1.out.below hb2 (Nat.le_refl _)).mono (show w.heap.size<=w.heap.size+1 by omega))
    clear c0 c1 k1
    go_wp2
    go_ret
    exact ⟨_,rfl,by rw [Hx.out];exact Ho.out,Hb.out⟩
  · rw [hok] at HK Hx
    rw [if_pos rfl] at Hx
    clear hok
    have O1:=hide o1
    clear o1
    go_enter Tryz.func130,Tryz.ntmps130
    go_wp2_with fail
    refine HK.out.mono ?_
    rintro en w2 ⟨rfl,hb2⟩
    have HB2:=hide (hb1.trans (hb2.mono hb1.size))
    have k2:=k1.below hb2 k1.lt
    have d0:=k2.cell 0
    have d1:=k2.cell 1
    simp only [List.getElem?_cons_zero,List.getElem?_cons_succ] at d0 d1
    have HO:=hide (O1.out.below hb2 (Nat.le_refl _))
    have hs2:=hb2.size
    clear c0 c1 k1 k2 O1 hb2 hb1 hw1
    go_wp2
    go_loopw [3,14] (fun ov iv wr=>∃ k:Nat,k<=l.length/\iv=.int .i64 (k:Int)/\OwnV (w.heap.size+1) wr ov (setV (l.take k))/\Below (w.heap.size+1) w2 wr) (fun _ iv _=>l.length - (intOf iv).toNat)
    case atStart=>exact ⟨0,by omega,rfl,HO.out,Below.refl _ _⟩
    case round =>
      obtain ⟨k,hk,rfl,ho,hb⟩:=hrel
      have hbs:=hb.size
      have hs1:=HS1.out
      have hBw:Below w.heap.size w wr:=HB2.out.trans (hb.mono (by omega))
      clear HO d0 d1
      by_cases hlt:k < l.length
      · obtain ⟨b,off,lv,rfl,hc1,hc2,hbw,hat,hrl⟩:=Hr.out.atV hlt
        have hli:(k:Int) < (l.length:Int):=by omega
        have hlen:=setV_len (l.take k)
        have htk:(l.take k).length<=l.length:=by simp;omega
        have hwr:w.heap.size+1<=wr.heap.size:=by omega
        obtain ⟨c0,c1,c2,c3,c4⟩:=hat.below hBw hbw
        have Hin:=hide (setV_in l k hlt)
        have Hout:=hide (setV_out l k hlt)
        obtain ⟨la,lc,rfl⟩:=hrl.shape
        clear hat hrl
        generalize setV (l.take k)=S at ho hlen Hin Hout
        generalize l[k]=ak at c0 c1 c2 c3 c4 Hin Hout
        obtain ⟨nm,fr,no,st,ls⟩:=ak
        simp only at c0 c1 c2 c3 c4 Hin Hout
        obtain ⟨w4,hw4⟩:∃ w4,wr.alloc (.cells #[.string nm,.int .i64 fr,.int .i64 no,.int .i64 st,.slice la ls.length lc] 190)=w4:=⟨_,rfl⟩
        have hA:Below wr.heap.size wr w4:=by rw [<- hw4];exact (Below.refl _ wr).alloc (Nat.le_refl _) _
        have k4:Blk w4 wr.heap.size 190 [.string nm,.int .i64 fr,.int .i64 no,.int .i64 st,.slice la ls.length lc]:=by rw [<- hw4];exact Blk.new wr _ _
        have l4:w4.heap.size=wr.heap.size+1:=by rw [<- hw4];simp
        have L4:=hide l4
        have e0:=k4.cell 0
        have e3:=k4.cell 3
        simp only [List.getElem?_cons_zero,List.getElem?_cons_succ] at e0 e3
        have Ho:=hide (ho.below hA (Nat.le_refl _))
        have hlo:=ho.lt
        have Hb:=hide (hb.trans (hA.mono (by omega)))
        have HbA:=hide (hb.trans (hA.mono hwr))
        clear ho hb hBw hs1 l4
        by_cases hst:5<=st
        · have Hin:=hide (Hin.out hst)
          clear Hout
          have l4:=L4.out
          have hbase:w.heap.size+1<=w4.heap.size+1:=by omega
          clear l4
          go_wp2_with (at_builtin;refine app_ownV _ rfl _ _ rfl (w.heap.size+1) _ _ S [(nm,st)] rfl rfl (Ho.out.alloc _) (rd_one_v _ _ nm st (by simp)) (by simp;omega) (by simp;omega) ?_;intro v1 wn ho1 hg1 hb1)
          go_roundw
          case rel=>exact ⟨k+1,by omega,by go_num,by rw [Hin.out];exact ho1,(HbA.out.alloc (by have:=L4.out;omega) _).trans hb1⟩
          case measure=>simp [intOf];omega
        · have Hout:=hide (Hout.out hst)
          clear Hin
          go_wp2
          go_roundw
          case rel=>exact ⟨k+1,by omega,by go_num,by rw [Hout.out];exact Ho.out,HbA.out⟩
          case measure=>simp [intOf];omega
      · have ek:k=l.length:=by omega
        subst ek
        rw [List.take_length] at ho
        have Ho:=hide (show OwnV w.heap.size wr _ (setV l) from ho.mono (by omega))
        have Hb:=hide hBw
        clear ho hb hBw hs1
        go_wp2
        go_ret
        exact ⟨_,rfl,by rw [Hx.out];exact Ho.out,Hb.out⟩
def cnA (e:Int) (l:List Ac):Int × List Vl:=if lgB e l=true then (e,setV l) else (0,[])
theorem own_noneV (w:World) (base:Nat):OwnV base w (.slice none 0 0) []:=World.ownsRow_nil w base _ _
theorem Blk.set2 {W:World} {B:Nat} {t:TypeId} {a b:Value} (h:Blk W B t [a,b]) (x y:Value):Blk (W.setCells B 0 [x,y]) B t [x,y]:=by
  have h1:Blk (W.setCell ⟨B,0,none⟩ x) B t [x,b]:=by
    have e:=heap_setCell_same W B 0 [a,b].toArray t x h
    simpa [Blk] using e
  have h2:Blk ((W.setCell ⟨B,0,none⟩ x).setCell ⟨B,1,none⟩ y) B t [x,y]:=by
    have e:=heap_setCell_same _ B 1 [x,b].toArray t y h1
    simpa [Blk] using e
  exact h2
theorem Blk.not2 {W:World} {B:Nat} {t:TypeId} {cs:List Value} (h:Blk W B t cs) {g:Nat} (hne:B ≠ g) (x y:Value):Blk (W.setCells g 0 [x,y]) B t cs :=
  (heap_setCell_other _ ⟨g,1,none⟩ B y hne).trans ((heap_setCell_other W ⟨g,0,none⟩ B x hne).trans h)
theorem below_set2 {B:Nat} {w w':World} (h:Below B w w') {g:Nat} (hg:B<=g) (x y:Value):Below B w (w'.setCells g 0 [x,y]) :=
  (h.setCell (p:=⟨g,0,none⟩) hg x).setCell (p:=⟨g,1,none⟩) hg y
theorem Blk.range2 {w:World} {b:Nat} {t:TypeId} {cs:List Value} (h:Blk w b t cs):w.rangeAt b 0 cs:=fun j v hv=>by rw [Nat.zero_add];exact (h.cell j).trans hv
theorem Blk.there2 {W:World} {B n:Nat} {t:TypeId} {cs:List Value} (h:Blk W B t cs) (hn:cs.length=n):W.there B 0 n:=fun j hj=>by
  rw [Nat.zero_add]
  exact ⟨by rw [h.cell j,List.getElem?_eq_getElem (by omega)];rfl,h.frozen j⟩
theorem cnA_len (e:Int) (l:List Ac):(cnA e l).2.length<=l.length:=by
  unfold cnA
  split
  · exact setV_len l
  · simp
theorem OwnV.setsC {base:Nat} {w:World} {v:Value} {l:List Vl} (h:OwnV base w v l) {g:Nat} (hg:g < base) (x y:Value):OwnV base (w.setCells g 0 [x,y]) v l:=(h.olderQ hg 0 x).olderQ hg 1 y
theorem res_specCn {X:World} {a:Act} {R:Ending->World->Prop} {F:List Value} (g:Nat) (h:X.rangeAt g 0 F) (h2:a.tmps[2]?.getD undef=.pointer (some ⟨g,0,none⟩)) (hs:(Tryz.prog.info? 35).map (·.size)=some F.length) (hd:a.defers=[]) (hR:R (.returned (.agg F.toArray)) X):bodyPost Tryz.prog Tryz.f81 R .ret a X:=by
  have hl:=run_loadVar_mid (P:=Tryz.prog) X g 0 35 F _ h Tryz.underlying35 rfl hs
  refine bodyPost_ret (v:=.agg F.toArray) ?_ hd hR
  simp [results,Tryz.f81,h2,asAddr,hl]
theorem specClientNew_any (e:Int) (v:Value) (l:List Ac) (w:World) (hr:RdA w v l) (hl:l.length<=4000000) (hall:∀ a ∈ l,a.1.size<=maxLen/\a.2.2.2.2.length<=4000000) :
    Calls Tryz.prog 81 #[lgV e v] w fun en w'=>∃ v',en=.returned (lgV (cnA e l).1 v')/\OwnV w.heap.size w' v' (cnA e l).2/\Below w.heap.size w w':=by
  obtain ⟨av,cv,rfl⟩:=hr.shape
  obtain ⟨w1,hw1⟩:∃ w1,(w.alloc (.cells #[.int .i64 e,.slice av l.length cv] 66)).alloc (.cells #[.int .i64 0,.slice none 0 0] 35)=w1:=⟨_,rfl⟩
  have hb1:Below w.heap.size w w1:=by rw [<- hw1];exact ((Below.refl _ w).alloc (Nat.le_refl _) _).alloc (by simp) _
  have k1:Blk w1 w.heap.size 66 [.int .i64 e,.slice av l.length cv]:=by rw [<- hw1];exact (Blk.new w _ _).below ((Below.refl (w.heap.size+1) _).alloc (by simp) _) (by omega)
  have r1:Blk w1 (w.heap.size+1) 35 [.int .i64 0,.slice none 0 0]:=by rw [<- hw1];exact Blk.new' _ _ [.int .i64 0,.slice none 0 0] _ (by simp)
  have HK:=hide (specLedgerOk_any e _ l w1 (hr.below hb1 (Nat.le_refl _)) hl hall)
  have HS:=hide (fun w h=>specL7Set_any e (.slice av l.length cv) l w h hl)
  have Hr:=hide (hr.below hb1 (Nat.le_refl _))
  have Hx:Hid (cnA e l=if lgB e l=true then (e,setV l) else (0,[])):=hide rfl
  have Hy:Hid (setA e l=if lgB e l=true then setV l else []):=hide rfl
  have c0:=k1.cell 0
  have c1:=k1.cell 1
  simp only [List.getElem?_cons_zero,List.getElem?_cons_succ] at c0 c1
  simp only [lgV] at *
  clear hr hall
  generalize cnA e l=X at Hx ⊢
  cases hok:lgB e l
  · rw [hok] at HK Hx
    rw [if_neg (by simp)] at Hx
    have hx:=Hx.out
    subst hx
    clear hok HS Hx Hy
    go_enter Tryz.func81,Tryz.ntmps81
    go_wp2_with fail
    refine HK.out.mono ?_
    rintro en w2 ⟨rfl,hb2⟩
    have hB2:=hb1.trans (hb2.mono hb1.size)
    have r2:=r1.below hb2 r1.lt
    have q0:=r2.cell 0
    have q1:=r2.cell 1
    have g0:=r2.frozen 0
    have g1:=r2.frozen 1
    simp only [List.getElem?_cons_zero,List.getElem?_cons_succ] at q0 q1
    clear c0 c1 k1 r1
    go_wp2
    refine bodyPost_ret (v:=.agg #[.int .i64 0,.slice none 0 0]) (by simp [results,Tryz.f81,go_sem,q0,q1]) rfl ?_
    exact ⟨_,rfl,own_noneV _ _,(hB2.setCell (p:=⟨w.heap.size+1,0,none⟩) (show w.heap.size<=w.heap.size+1 by omega) _).setCell (p:=⟨w.heap.size+1,1,none⟩) (show w.heap.size<=w.heap.size+1 by omega) _⟩
  · rw [hok] at HK Hx Hy
    rw [if_pos rfl] at Hx Hy
    have hx:=Hx.out
    subst hx
    have hy:=Hy.out
    clear hok Hx Hy
    have HS:=HS
    clear hy
    generalize setV l=Y at HS ⊢
    go_enter Tryz.func81,Tryz.ntmps81
    go_wp2_with fail
    refine HK.out.mono ?_
    rintro en w2 ⟨rfl,hb2⟩
    have hB2:=hb1.trans (hb2.mono hb1.size)
    have HB2:=hide hB2
    have bD:Below w2.heap.size w2 w2.drew:=(Below.refl _ w2).drew
    have k2:=hide (k1.below hb2 k1.lt)
    have r2:=hide (r1.below hb2 r1.lt)
    have hs2:=(r1.below hb2 r1.lt).lt
    have HSS:=hide (fun V (hV:Below w2.heap.size w2 V)=>And.intro ((k2.out.below hV k2.out.lt).cell 0) ((k2.out.below hV k2.out.lt).cell 1))
    have hS:=HSS.out _ bD
    have Hrr:=hide (Hr.out.below hb2 (Nat.le_refl _))
    clear c0 c1 k1 r1 hb2 hb1 hB2 HK
    go_upto_region 3 with fail
    go_wp2
    refine wp_region_held_drew (S:=fun W=>W.cell? ⟨w.heap.size,0,none⟩=some (.int .i64 e)/\W.cell? ⟨w.heap.size,1,none⟩=some (.slice av l.length cv)) (by kernel_rfl) hS (fun hHeld=>?_)
    refine wpAnyH_take (i:=0) (v:=.pointer (some ⟨w.heap.size,0,none⟩)) rfl (by kernel_rfl) (by kernel_rfl) (by kernel_rfl) (fun _ _ _ h=>h) (Or.inl ⟨by rfl,fun W hW=>by (obtain ⟨q0,q1⟩:=hW;go_simp)⟩) (by assumption) ?_
    change wpAnyH Tryz.prog _ _ _ _ _ _ (Act.put _ (some 7) _) _
    simp only [Act.put,List.setIfInBounds_toArray,List.set_cons_zero,List.set_cons_succ]
    refine wpAnyH_take (i:=1) (v:=.int .i64 e) rfl (by kernel_rfl) (by kernel_rfl) (by kernel_rfl) (fun _ _ _ h=>h) (Or.inl ⟨by rfl,fun W hW=>by (obtain ⟨q0,q1⟩:=hW;go_simp)⟩) (by assumption) ?_
    change wpAnyH Tryz.prog _ _ _ _ _ _ (Act.put _ (some 8) _) _
    simp only [Act.put,List.setIfInBounds_toArray,List.set_cons_zero,List.set_cons_succ]
    refine wpAnyH_take (i:=2) (v:=.agg #[.int .i64 e,.slice av l.length cv]) rfl (by kernel_rfl) (by kernel_rfl) (by kernel_rfl) (fun _ _ _ h=>h) (Or.inl ⟨by rfl,fun W hW=>by (obtain ⟨q0,q1⟩:=hW;go_simp)⟩) (by assumption) ?_
    change wpAnyH Tryz.prog _ _ _ _ _ _ (Act.put _ (some 9) _) _
    simp only [Act.put,List.setIfInBounds_toArray,List.set_cons_zero,List.set_cons_succ]
    refine wpAnyH_ready (rs:=[3]) (by kernel_rfl) (by simp) ?_
    refine AllReadyH.cons rfl (fun K hK=>?_) AllReadyH.nil
    go_simp
    go_wp2_with (go_at_call 127;(with_reducible refine (HS.out _ (Hrr.out.below bD (Nat.le_refl _))).mono ?_);rintro en w3 ⟨v3,rfl,o3,hb3⟩;obtain ⟨a3,cv3,hv3⟩:=o3.rd.shape;subst hv3;have b3:=bD.trans (hb3.mono bD.size);have hS3:=HSS.out _ b3;have kr:=r2.out.below b3 r2.out.lt;have hS4:(w3.setCells (w.heap.size+1) 0 [.int .i64 e,.slice a3 Y.length cv3]).cell? ⟨w.heap.size,0,none⟩=some (.int .i64 e)/\(w3.setCells (w.heap.size+1) 0 [.int .i64 e,.slice a3 Y.length cv3]).cell? ⟨w.heap.size,1,none⟩=some (.slice av l.length cv):=(have k:=(k2.out.below b3 k2.out.lt).not2 (g:=w.heap.size+1) (by omega) (.int .i64 e) (.slice a3 Y.length cv3);⟨k.cell 0,k.cell 1⟩))
    refine hK.out _ _ hS3 (fun hHeld=>?_)
    try simp only [Act.put,List.setIfInBounds_toArray,List.set_cons_zero,List.set_cons_succ]
    refine wpAnyH_take (i:=4) (v:=.agg #[.int .i64 e,.slice a3 Y.length cv3]) rfl (by kernel_rfl) (by kernel_rfl) (by kernel_rfl) (fun _ _ _ h=>h) (Or.inl ⟨by rfl,fun W hW=>by (obtain ⟨q0,q1⟩:=hW;go_simp)⟩) (by assumption) ?_
    change wpAnyH Tryz.prog _ _ _ _ _ _ (Act.put _ (some 11) _) _
    simp only [Act.put,List.setIfInBounds_toArray,List.set_cons_zero,List.set_cons_succ]
    refine wpAnyH_ready (rs:=[5]) (by kernel_rfl) (by simp) ?_
    refine AllReadyH.cons rfl (fun K hK=>?_) AllReadyH.nil
    refine wp_store_mid 35 _ _ rfl (w.heap.size+1) 0 #[.int .i64 e,.slice a3 Y.length cv3] rfl rfl (kr.there2 (n:=2) rfl) (by kernel_rfl) (all_oneCell_toArray (cs:=[.int .i64 e,.slice a3 Y.length cv3]) (List.all_eq_true.1 rfl)) ?_
    refine hK.out _ _ hS4 (fun hHeld=>?_)
    refine wpAnyH_done (by kernel_rfl) ?_ _
    have HX:=hide (show Blk (w3.setCells (w.heap.size+1) 0 [.int .i64 e,.slice a3 Y.length cv3]) (w.heap.size+1) 35 [.int .i64 e,.slice a3 Y.length cv3] from kr.set2 _ _)
    have HB:=hide (below_set2 (HB2.out.trans (b3.mono HB2.out.size)) (g:=w.heap.size+1) (by omega) (.int .i64 e) (.slice a3 Y.length cv3))
    have HO:=hide ((o3.setsC (g:=w.heap.size+1) (Nat.lt_of_lt_of_le hs2 bD.size) (.int .i64 e) (.slice a3 Y.length cv3)).mono (show w.heap.size<=w2.drew.heap.size by have:=bD.size;omega))
    clear HSS hS hS3 hS4 kr k2 r2 Hrr HS
    go_wp2
    refine res_specCn (F:=[.int .i64 e,.slice a3 Y.length cv3]) (w.heap.size+1) HX.out.range2 (by rfl) (by kernel_rfl) rfl ?_
    exact ⟨.slice a3 Y.length cv3,rfl,HO.out,HB.out⟩
theorem res_implCn {X:World} {a:Act} {R:Ending->World->Prop} {F:List Value} (g:Nat) (h:X.rangeAt g 0 F) (h2:a.tmps[2]?.getD undef=.pointer (some ⟨g,0,none⟩)) (hs:(Tryz.prog.info? 35).map (·.size)=some F.length) (hd:a.defers=[]) (hR:R (.returned (.agg F.toArray)) X):bodyPost Tryz.prog Tryz.f83 R .ret a X:=by
  have hl:=run_loadVar_mid (P:=Tryz.prog) X g 0 35 F _ h Tryz.underlying35 rfl hs
  refine bodyPost_ret (v:=.agg F.toArray) ?_ hd hR
  simp [results,Tryz.f83,h2,asAddr,hl]
theorem implClientNew_any (e:Int) (v:Value) (l:List Ac) (w:World) (hr:RdA w v l) (hl:l.length<=4000000) (hall:∀ a ∈ l,a.1.size<=maxLen/\a.2.2.2.2.length<=4000000) :
    Calls Tryz.prog 83 #[lgV e v] w fun en w'=>∃ v',en=.returned (lgV (cnA e l).1 v')/\OwnV w.heap.size w' v' (cnA e l).2/\Below w.heap.size w w':=by
  obtain ⟨av,cv,rfl⟩:=hr.shape
  obtain ⟨w1,hw1⟩:∃ w1,(w.alloc (.cells #[.int .i64 e,.slice av l.length cv] 66)).alloc (.cells #[.int .i64 0,.slice none 0 0] 35)=w1:=⟨_,rfl⟩
  have hb1:Below w.heap.size w w1:=by rw [<- hw1];exact ((Below.refl _ w).alloc (Nat.le_refl _) _).alloc (by simp) _
  have k1:Blk w1 w.heap.size 66 [.int .i64 e,.slice av l.length cv]:=by rw [<- hw1];exact (Blk.new w _ _).below ((Below.refl (w.heap.size+1) _).alloc (by simp) _) (by omega)
  have r1:Blk w1 (w.heap.size+1) 35 [.int .i64 0,.slice none 0 0]:=by rw [<- hw1];exact Blk.new' _ _ [.int .i64 0,.slice none 0 0] _ (by simp)
  have HK:=hide (implLedgerOk_any e _ l w1 (hr.below hb1 (Nat.le_refl _)) hl hall)
  have HS:=hide (fun w h=>implSetOf_any e (.slice av l.length cv) l w h hl hall)
  have Hr:=hide (hr.below hb1 (Nat.le_refl _))
  have Hx:Hid (cnA e l=if lgB e l=true then (e,setV l) else (0,[])):=hide rfl
  have Hy:Hid (setA e l=if lgB e l=true then setV l else []):=hide rfl
  have c0:=k1.cell 0
  have c1:=k1.cell 1
  simp only [List.getElem?_cons_zero,List.getElem?_cons_succ] at c0 c1
  simp only [lgV] at *
  clear hr hall
  generalize cnA e l=X at Hx ⊢
  cases hok:lgB e l
  · rw [hok] at HK Hx
    rw [if_neg (by simp)] at Hx
    have hx:=Hx.out
    subst hx
    clear hok HS Hx Hy
    go_enter Tryz.func83,Tryz.ntmps83
    go_wp2_with fail
    refine HK.out.mono ?_
    rintro en w2 ⟨rfl,hb2⟩
    have hB2:=hb1.trans (hb2.mono hb1.size)
    have r2:=r1.below hb2 r1.lt
    have q0:=r2.cell 0
    have q1:=r2.cell 1
    have g0:=r2.frozen 0
    have g1:=r2.frozen 1
    simp only [List.getElem?_cons_zero,List.getElem?_cons_succ] at q0 q1
    clear c0 c1 k1 r1
    go_wp2
    refine bodyPost_ret (v:=.agg #[.int .i64 0,.slice none 0 0]) (by simp [results,Tryz.f83,go_sem,q0,q1]) rfl ?_
    exact ⟨_,rfl,own_noneV _ _,(hB2.setCell (p:=⟨w.heap.size+1,0,none⟩) (show w.heap.size<=w.heap.size+1 by omega) _).setCell (p:=⟨w.heap.size+1,1,none⟩) (show w.heap.size<=w.heap.size+1 by omega) _⟩
  · rw [hok] at HK Hx Hy
    rw [if_pos rfl] at Hx Hy
    have hx:=Hx.out
    subst hx
    have hy:=Hy.out
    clear hok Hx Hy
    rw [hy] at HS
    clear hy
    generalize setV l=Y at HS ⊢
    go_enter Tryz.func83,Tryz.ntmps83
    go_wp2_with fail
    refine HK.out.mono ?_
    rintro en w2 ⟨rfl,hb2⟩
    have hB2:=hb1.trans (hb2.mono hb1.size)
    have HB2:=hide hB2
    have bD:Below w2.heap.size w2 w2.drew:=(Below.refl _ w2).drew
    have k2:=hide (k1.below hb2 k1.lt)
    have r2:=hide (r1.below hb2 r1.lt)
    have hs2:=(r1.below hb2 r1.lt).lt
    have HSS:=hide (fun V (hV:Below w2.heap.size w2 V)=>And.intro ((k2.out.below hV k2.out.lt).cell 0) ((k2.out.below hV k2.out.lt).cell 1))
    have hS:=HSS.out _ bD
    have Hrr:=hide (Hr.out.below hb2 (Nat.le_refl _))
    clear c0 c1 k1 r1 hb2 hb1 hB2 HK
    go_upto_region 3 with fail
    go_wp2
    refine wp_region_held_drew (S:=fun W=>W.cell? ⟨w.heap.size,0,none⟩=some (.int .i64 e)/\W.cell? ⟨w.heap.size,1,none⟩=some (.slice av l.length cv)) (by kernel_rfl) hS (fun hHeld=>?_)
    refine wpAnyH_take (i:=0) (v:=.pointer (some ⟨w.heap.size,0,none⟩)) rfl (by kernel_rfl) (by kernel_rfl) (by kernel_rfl) (fun _ _ _ h=>h) (Or.inl ⟨by rfl,fun W hW=>by (obtain ⟨q0,q1⟩:=hW;go_simp)⟩) (by assumption) ?_
    change wpAnyH Tryz.prog _ _ _ _ _ _ (Act.put _ (some 7) _) _
    simp only [Act.put,List.setIfInBounds_toArray,List.set_cons_zero,List.set_cons_succ]
    refine wpAnyH_take (i:=1) (v:=.int .i64 e) rfl (by kernel_rfl) (by kernel_rfl) (by kernel_rfl) (fun _ _ _ h=>h) (Or.inl ⟨by rfl,fun W hW=>by (obtain ⟨q0,q1⟩:=hW;go_simp)⟩) (by assumption) ?_
    change wpAnyH Tryz.prog _ _ _ _ _ _ (Act.put _ (some 8) _) _
    simp only [Act.put,List.setIfInBounds_toArray,List.set_cons_zero,List.set_cons_succ]
    refine wpAnyH_take (i:=2) (v:=.agg #[.int .i64 e,.slice av l.length cv]) rfl (by kernel_rfl) (by kernel_rfl) (by kernel_rfl) (fun _ _ _ h=>h) (Or.inl ⟨by rfl,fun W hW=>by (obtain ⟨q0,q1⟩:=hW;go_simp)⟩) (by assumption) ?_
    change wpAnyH Tryz.prog _ _ _ _ _ _ (Act.put _ (some 9) _) _
    simp only [Act.put,List.setIfInBounds_toArray,List.set_cons_zero,List.set_cons_succ]
    refine wpAnyH_ready (rs:=[3]) (by kernel_rfl) (by simp) ?_
    refine AllReadyH.cons rfl (fun K hK=>?_) AllReadyH.nil
    go_simp
    go_wp2_with (go_at_call 130;(with_reducible refine (HS.out _ (Hrr.out.below bD (Nat.le_refl _))).mono ?_);rintro en w3 ⟨v3,rfl,o3,hb3⟩;obtain ⟨a3,cv3,hv3⟩:=o3.rd.shape;subst hv3;have b3:=bD.trans (hb3.mono bD.size);have hS3:=HSS.out _ b3;have kr:=r2.out.below b3 r2.out.lt;have hS4:(w3.setCells (w.heap.size+1) 0 [.int .i64 e,.slice a3 Y.length cv3]).cell? ⟨w.heap.size,0,none⟩=some (.int .i64 e)/\(w3.setCells (w.heap.size+1) 0 [.int .i64 e,.slice a3 Y.length cv3]).cell? ⟨w.heap.size,1,none⟩=some (.slice av l.length cv):=(have k:=(k2.out.below b3 k2.out.lt).not2 (g:=w.heap.size+1) (by omega) (.int .i64 e) (.slice a3 Y.length cv3);⟨k.cell 0,k.cell 1⟩))
    refine hK.out _ _ hS3 (fun hHeld=>?_)
    try simp only [Act.put,List.setIfInBounds_toArray,List.set_cons_zero,List.set_cons_succ]
    refine wpAnyH_take (i:=4) (v:=.agg #[.int .i64 e,.slice a3 Y.length cv3]) rfl (by kernel_rfl) (by kernel_rfl) (by kernel_rfl) (fun _ _ _ h=>h) (Or.inl ⟨by rfl,fun W hW=>by (obtain ⟨q0,q1⟩:=hW;go_simp)⟩) (by assumption) ?_
    change wpAnyH Tryz.prog _ _ _ _ _ _ (Act.put _ (some 11) _) _
    simp only [Act.put,List.setIfInBounds_toArray,List.set_cons_zero,List.set_cons_succ]
    refine wpAnyH_ready (rs:=[5]) (by kernel_rfl) (by simp) ?_
    refine AllReadyH.cons rfl (fun K hK=>?_) AllReadyH.nil
    refine wp_store_mid 35 _ _ rfl (w.heap.size+1) 0 #[.int .i64 e,.slice a3 Y.length cv3] rfl rfl (kr.there2 (n:=2) rfl) (by kernel_rfl) (all_oneCell_toArray (cs:=[.int .i64 e,.slice a3 Y.length cv3]) (List.all_eq_true.1 rfl)) ?_
    refine hK.out _ _ hS4 (fun hHeld=>?_)
    refine wpAnyH_done (by kernel_rfl) ?_ _
    have HX:=hide (show Blk (w3.setCells (w.heap.size+1) 0 [.int .i64 e,.slice a3 Y.length cv3]) (w.heap.size+1) 35 [.int .i64 e,.slice a3 Y.length cv3] from kr.set2 _ _)
    have HB:=hide (below_set2 (HB2.out.trans (b3.mono HB2.out.size)) (g:=w.heap.size+1) (by omega) (.int .i64 e) (.slice a3 Y.length cv3))
    have HO:=hide ((o3.setsC (g:=w.heap.size+1) (Nat.lt_of_lt_of_le hs2 bD.size) (.int .i64 e) (.slice a3 Y.length cv3)).mono (show w.heap.size<=w2.drew.heap.size by have:=bD.size;omega))
    clear HSS hS hS3 hS4 kr k2 r2 Hrr HS
    go_wp2
    refine res_implCn (F:=[.int .i64 e,.slice a3 Y.length cv3]) (w.heap.size+1) HX.out.range2 (by rfl) (by kernel_rfl) rfl ?_
    exact ⟨.slice a3 Y.length cv3,rfl,HO.out,HB.out⟩
end Go.Proofs.YtaidhenkijjcfaaGreat
