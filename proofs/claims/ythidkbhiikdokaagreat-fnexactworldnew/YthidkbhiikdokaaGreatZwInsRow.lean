/- Rows of elements of several cells. -/
import Derived.Test.YthidkbhiikdokaaGreatZwLgImpl
import Derived.Test.YthidkbhiikdokaaGreatZwVsStep
import Derived.Lib.AppendZerosOnto
import Derived.Lib.Overlaps
import Derived.Lib.SliceRun
import Derived.Laws.IdiomCopy
import Derived.Laws.NewBlocks
set_option maxRecDepth 20000
set_option maxHeartbeats 2000000
namespace Go.Proofs.YthidkbhiikdokaaGreat
open Go.RowKit
set_option linter.unusedVariables false
theorem RdA.atV {w:World} {a:Option Addr} {cap i:Nat} {l:List Ac} (h:RdA w (.slice a l.length cap) l) (hi:i < l.length) :
    ∃ b off lv,a=some ⟨b,off,none⟩/\l.length<=cap/\cap<=maxLen/\b < w.heap.size/\AcAt w b (off+i * 5) l[i] lv/\RdL w lv l[i].2.2.2.2:=by
  rcases h with ⟨a',cap',e,rfl,-⟩ | ⟨b,off,cap',h0,e,h1,h2,h3,h4⟩
  · simp at hi
  · simp only [Value.slice.injEq,true_and] at e
    obtain ⟨rfl,rfl⟩:=e
    obtain ⟨lv,q1,q2⟩:=h4 i hi
    exact ⟨b,off,lv,rfl,h1,h2,h3,q1,q2⟩
def setV (l:List Ac):List Vl:=(l.filter (fun a=>decide (5<=a.2.2.2.1))).map (fun a=>(a.1,a.2.2.2.1))
theorem setV_len (l:List Ac):(setV l).length<=l.length:=by unfold setV;rw [List.length_map];exact List.length_filter_le _ _
theorem setV_in (l:List Ac) (k:Nat) (h:k < l.length) (hs:5<=l[k].2.2.2.1):setV (l.take (k+1))=setV (l.take k) ++ [(l[k].1,l[k].2.2.2.1)]:=by
  unfold setV
  rw [List.take_succ_eq_append_getElem h,List.filter_append,List.map_append]
  simp [hs]
theorem setV_out (l:List Ac) (k:Nat) (h:k < l.length) (hs:¬ 5<=l[k].2.2.2.1):setV (l.take (k+1))=setV (l.take k):=by
  unfold setV
  rw [List.take_succ_eq_append_getElem h,List.filter_append,List.map_append]
  simp [hs]
def setA (e:Int) (l:List Ac):List Vl:=if lgB e l=true then setV l else []
theorem specL7Set_any (e:Int) (v:Value) (l:List Ac) (w:World) (hr:RdA w v l) (hl:l.length<=4000000) :
    Calls Tryz.prog 51 #[lgV e v] w fun en w'=>∃ v',en=.returned v'/\OwnV w.heap.size w' v' (setV l)/\Below w.heap.size w w':=by
  obtain ⟨av,cv,rfl⟩:=hr.shape
  simp only [lgV] at *
  obtain ⟨w1,hw1⟩:∃ w1,w.alloc (.cells #[.int .i64 e,.slice av l.length cv] 30)=w1:=⟨_,rfl⟩
  have hb1:Below w.heap.size w w1:=by rw [<- hw1];exact (Below.refl _ w).alloc (Nat.le_refl _) _
  have kL:Blk w1 w.heap.size 30 [.int .i64 e,.slice av l.length cv]:=by rw [<- hw1];exact Blk.new w _ _
  have hs1:w1.heap.size=w.heap.size+1:=by rw [<- hw1];simp
  have ho0:=own_nilV w1 (w.heap.size+1) (by omega)
  have hb0:Below (w.heap.size+1) w1 (w1.alloc (.cells #[] 118)):=(Below.refl _ w1).alloc (by omega) _
  have Hr:=hide (hr.below hb1 (Nat.le_refl _))
  have KL:=hide kL
  have HO:=hide ho0
  have HB:=hide hb0
  have HB1:=hide hb1
  have HS1:=hide hs1
  clear hr ho0 hb0 hb1 kL hs1
  go_enter Tryz.func51,Tryz.ntmps51
  go_wp2
  go_loopw [3,4] (fun ov iv wr=>∃ k:Nat,k<=l.length/\iv=.int .i64 (k:Int)/\OwnV (w.heap.size+1) wr ov (setV (l.take k))/\Below (w.heap.size+1) w1 wr) (fun _ iv _=>l.length - (intOf iv).toNat)
  case atStart=>exact ⟨0,by omega,rfl,HO.out,HB.out⟩
  case round =>
    obtain ⟨k,hk,rfl,ho,hb⟩:=hrel
    have hbs:=hb.size
    have hs1:=HS1.out
    have kR:=KL.out.below hb (by omega)
    have x0:=kR.cell 0
    have x1:=kR.cell 1
    simp only [List.getElem?_cons_zero,List.getElem?_cons_succ] at x0 x1
    clear HO HB
    by_cases hlt:k < l.length
    · obtain ⟨b,off,lv,rfl,hc1,hc2,hbw,hat,-⟩:=Hr.out.atV hlt
      have hli:(k:Int) < (l.length:Int):=by omega
      have hlen:=setV_len (l.take k)
      have htk:(l.take k).length<=l.length:=by simp;omega
      have hbw1:b < w.heap.size+1:=by omega
      have hwr:w.heap.size+1<=wr.heap.size:=by omega
      have c0:=(hb.cell (p:=⟨b,off+k * 5,none⟩) hbw1).trans hat.c0
      have c3:=(hb.cell (p:=⟨b,off+k * 5+3,none⟩) hbw1).trans hat.c3
      have Hin:=hide (setV_in l k hlt)
      have Hout:=hide (setV_out l k hlt)
      clear hat
      generalize setV (l.take k)=S at ho hlen Hin Hout
      generalize l[k].1=nm at c0 Hin
      generalize l[k].2.2.2.1=st at c3 Hin Hout
      have Ho:=hide ho
      have Hb:=hide hb
      clear ho hb kR hs1
      by_cases hst:5<=st
      · have Hin:=hide (Hin.out hst)
        clear Hout
        have hwlt:w.heap.size < w.heap.size+1:=Nat.lt_succ_self _
        go_wp2
        go_region_held_law (fun w'=>w'.cell? ⟨w.heap.size,1,none⟩=some (.slice (some ⟨b,off,none⟩) l.length cv)/\w'.cell? ⟨b,off+k * 5,none⟩=some (.string nm)/\w'.cell? ⟨b,off+k * 5+3,none⟩=some (.int .i64 st)) (go_keep)
          ((refine step_appV rfl _ _ rfl (w.heap.size+1) u3 wr.heap.size S (nm,st) (by rfl) (by rfl) (Ho.out.alloc _).drew (Blk.newV wr _ (vlC (nm,st)) _ rfl).drewV (by omega) (by simp;omega) ?_;intro v3 w3 ho3 hb3;have hbB:Below (w.heap.size+1) wr w3:=(((Below.refl _ wr).alloc (by omega) _).drew).trans hb3;have y1:=(hbB.cell (p:=⟨w.heap.size,1,none⟩) hwlt).trans x1;have y2:=(hbB.cell (p:=⟨b,off+k * 5,none⟩) hbw1).trans c0;have y3:=(hbB.cell (p:=⟨b,off+k * 5+3,none⟩) hbw1).trans c3))
        go_wp2
        go_roundw
        case rel=>exact ⟨k+1,by omega,by go_num,by rw [Hin.out];exact ho3,Hb.out.trans hbB⟩
        case measure=>simp [intOf];omega
      · have Hout:=hide (Hout.out hst)
        clear Hin
        have hst':¬ (5:Int)<=st:=hst
        go_wp2
        go_roundw
        case rel=>exact ⟨k+1,by omega,by go_num,by rw [Hout.out];exact Ho.out,Hb.out⟩
        case measure=>simp [intOf];omega
    · have ek:k=l.length:=by omega
      subst ek
      rw [List.take_length] at ho
      have Ho:=hide (show OwnV w.heap.size wr _ (setV l) from ho.mono (by omega))
      have Hb:=hide (HB1.out.trans (hb.mono (by omega)))
      clear ho hb kR hs1
      go_wp2
      go_ret
      exact ⟨_,rfl,Ho.out,Hb.out⟩
theorem implSetOf_any (e:Int) (v:Value) (l:List Ac) (w:World) (hr:RdA w v l) (hl:l.length<=4000000) (hall:∀ a ∈ l,a.1.size<=maxLen/\a.2.2.2.2.length<=4000000) :
    Calls Tryz.prog 59 #[lgV e v] w fun en w'=>∃ v',en=.returned v'/\OwnV w.heap.size w' v' (setA e l)/\Below w.heap.size w w':=by
  obtain ⟨av,cv,rfl⟩:=hr.shape
  obtain ⟨w1,hw1⟩:∃ w1,(w.alloc (.cells #[.int .i64 e,.slice av l.length cv] 30)).alloc (.cells #[] 118)=w1:=⟨_,rfl⟩
  have hb1:Below w.heap.size w w1:=by rw [<- hw1];exact ((Below.refl _ w).alloc (Nat.le_refl _) _).alloc (by simp) _
  have k1:Blk w1 w.heap.size 30 [.int .i64 e,.slice av l.length cv]:=by rw [<- hw1];exact (Blk.new w 30 [.int .i64 e,.slice av l.length cv]).below ((Below.refl (w.heap.size+1) _).alloc (by simp) _) (by omega)
  have o1:OwnV (w.heap.size+1) w1 (.slice (some ⟨w.heap.size+1,0,none⟩) 0 0) []:=by
    rw [<- hw1]
    have h:=own_nilV (w.alloc (.cells #[.int .i64 e,.slice av l.length cv] 30)) (w.heap.size+1) (by simp)
    simp only [World.size_alloc] at h
    exact h
  have hs1:w1.heap.size=w.heap.size+2:=by rw [<- hw1];simp
  have HK:=hide (implLedgerOk_any e _ l w1 (hr.below hb1 (Nat.le_refl _)) hl hall)
  have Hr:=hide hr
  have Hx:Hid (setA e l=if lgB e l=true then setV l else []):=hide rfl
  have c0:=k1.cell 0
  have c1:=k1.cell 1
  have HS1:=hide hs1
  simp only [List.getElem?_cons_zero,List.getElem?_cons_succ] at c0 c1
  simp only [lgV] at *
  clear hr hall hs1
  generalize setA e l=X at Hx ⊢
  cases hok:lgB e l
  · rw [hok] at HK Hx
    rw [if_neg (by simp)] at Hx
    clear hok
    have O1:=hide o1
    clear o1
    go_enter Tryz.func59,Tryz.ntmps59
    go_wp2_with fail
    refine HK.out.mono ?_
    rintro en w2 ⟨rfl,hb2⟩
    have Hb:=hide (hb1.trans (hb2.mono hb1.size))
    have Ho:=hide ((O1.out.below hb2 (Nat.le_refl _)).mono (show w.heap.size<=w.heap.size+1 by omega))
    clear c0 c1 k1
    go_wp2
    go_ret
    exact ⟨_,rfl,by rw [Hx.out];exact Ho.out,Hb.out⟩
  · rw [hok] at HK Hx
    rw [if_pos rfl] at Hx
    clear hok
    have O1:=hide o1
    clear o1
    go_enter Tryz.func59,Tryz.ntmps59
    go_wp2_with fail
    refine HK.out.mono ?_
    rintro en w2 ⟨rfl,hb2⟩
    have HB2:=hide (hb1.trans (hb2.mono hb1.size))
    have k2:=k1.below hb2 k1.lt
    have d0:=k2.cell 0
    have d1:=k2.cell 1
    simp only [List.getElem?_cons_zero,List.getElem?_cons_succ] at d0 d1
    have HO:=hide (O1.out.below hb2 (Nat.le_refl _))
    have hs2:=hb2.size
    clear c0 c1 k1 k2 O1 hb2 hb1 hw1
    go_wp2
    go_loopw [3,14] (fun ov iv wr=>∃ k:Nat,k<=l.length/\iv=.int .i64 (k:Int)/\OwnV (w.heap.size+1) wr ov (setV (l.take k))/\Below (w.heap.size+1) w2 wr) (fun _ iv _=>l.length - (intOf iv).toNat)
    case atStart=>exact ⟨0,by omega,rfl,HO.out,Below.refl _ _⟩
    case round =>
      obtain ⟨k,hk,rfl,ho,hb⟩:=hrel
      have hbs:=hb.size
      have hs1:=HS1.out
      have hBw:Below w.heap.size w wr:=HB2.out.trans (hb.mono (by omega))
      clear HO d0 d1
      by_cases hlt:k < l.length
      · obtain ⟨b,off,lv,rfl,hc1,hc2,hbw,hat,hrl⟩:=Hr.out.atV hlt
        have hli:(k:Int) < (l.length:Int):=by omega
        have hlen:=setV_len (l.take k)
        have htk:(l.take k).length<=l.length:=by simp;omega
        have hwr:w.heap.size+1<=wr.heap.size:=by omega
        obtain ⟨c0,c1,c2,c3,c4⟩:=hat.below hBw hbw
        have Hin:=hide (setV_in l k hlt)
        have Hout:=hide (setV_out l k hlt)
        obtain ⟨la,lc,rfl⟩:=hrl.shape
        clear hat hrl
        generalize setV (l.take k)=S at ho hlen Hin Hout
        generalize l[k]=ak at c0 c1 c2 c3 c4 Hin Hout
        obtain ⟨nm,fr,no,st,ls⟩:=ak
        simp only at c0 c1 c2 c3 c4 Hin Hout
        obtain ⟨w4,hw4⟩:∃ w4,wr.alloc (.cells #[.string nm,.int .i64 fr,.int .i64 no,.int .i64 st,.slice la ls.length lc] 53)=w4:=⟨_,rfl⟩
        have hA:Below wr.heap.size wr w4:=by rw [<- hw4];exact (Below.refl _ wr).alloc (Nat.le_refl _) _
        have k4:Blk w4 wr.heap.size 53 [.string nm,.int .i64 fr,.int .i64 no,.int .i64 st,.slice la ls.length lc]:=by rw [<- hw4];exact Blk.new wr _ _
        have l4:w4.heap.size=wr.heap.size+1:=by rw [<- hw4];simp
        have L4:=hide l4
        have e0:=k4.cell 0
        have e3:=k4.cell 3
        simp only [List.getElem?_cons_zero,List.getElem?_cons_succ] at e0 e3
        have Ho:=hide (ho.below hA (Nat.le_refl _))
        have hlo:=ho.lt
        have Hb:=hide (hb.trans (hA.mono (by omega)))
        have HbA:=hide (hb.trans (hA.mono hwr))
        clear ho hb hBw hs1 l4
        by_cases hst:5<=st
        · have Hin:=hide (Hin.out hst)
          clear Hout
          have l4:=L4.out
          have hbase:w.heap.size+1<=w4.heap.size+1:=by omega
          clear l4
          go_wp2_with (at_builtin;refine app_ownV _ rfl _ _ rfl (w.heap.size+1) _ _ S [(nm,st)] rfl rfl (Ho.out.alloc _) (rd_one_v _ _ nm st (by simp)) (by simp;omega) (by simp;omega) ?_;intro v1 wn ho1 hg1 hb1)
          go_roundw
          case rel=>exact ⟨k+1,by omega,by go_num,by rw [Hin.out];exact ho1,(HbA.out.alloc (by have:=L4.out;omega) _).trans hb1⟩
          case measure=>simp [intOf];omega
        · have Hout:=hide (Hout.out hst)
          clear Hin
          go_wp2
          go_roundw
          case rel=>exact ⟨k+1,by omega,by go_num,by rw [Hout.out];exact Ho.out,HbA.out⟩
          case measure=>simp [intOf];omega
      · have ek:k=l.length:=by omega
        subst ek
        rw [List.take_length] at ho
        have Ho:=hide (show OwnV w.heap.size wr _ (setV l) from ho.mono (by omega))
        have Hb:=hide hBw
        clear ho hb hBw hs1
        go_wp2
        go_ret
        exact ⟨_,rfl,by rw [Hx.out];exact Ho.out,Hb.out⟩
def ovL (Y:List Value) (o:Nat) (vs:List Value):List Value:=Y.take o ++ vs ++ Y.drop (o+vs.length)
theorem grown_setCells (b:Nat):∀ (vs:List Value) (o:Nat) (w:World),w.grownBy (w.setCells b o vs) (some b)
  | [],_,w=>World.grownBy.refl _ _
  | v :: vs,o,w=>by
    have h1:=grown_set w b o v
    have h2:=grown_setCells b vs (o+1) (w.setCell ⟨b,o,none⟩ v)
    exact ⟨h2.os.trans h1.os,h2.tape.trans h1.tape,h2.output.trans h1.output,Nat.le_trans h1.size h2.size,fun k hk hn=>(h2.block k (Nat.lt_of_lt_of_le hk h1.size) hn).trans (h1.block k hk hn)⟩
end Go.Proofs.YthidkbhiikdokaaGreat
