/- Prefix of the landed code. -/
import Derived.Test.YtmbbpmbkbiggmaaZpSfPure
import Derived.Test.YtmbbpmbkbiggmaaZpLdMid
import Derived.Test.YtmbbpmbkbiggmaaZpBkRowE
import Derived.Test.YtmbbpmbkbiggmaaZpVtOpen
import Derived.Deep.Cut
set_option maxRecDepth 20000
set_option maxHeartbeats 8000000
namespace Go.Proofs.Ytmbbpmbkbiggmaa
open Go.RowKit Go.Sort
set_option linter.unusedVariables false
theorem implPrefixN_any (ep:Int) (va vf vb vs vm:Value) (adn:Option Addr) (cpn:Nat) (ns:List Nd) (w:World) (hN:RdNs w (.slice adn ns.length cpn) ns) (hl:ns.length<=4000000) (hfn:∀ q ∈ ns,FewNd q) :
    Calls Try.prog 32 #[.agg #[.int .i64 ep,va,vf,.slice adn ns.length cpn,vb,vs,vm]] w fun e w'=>e=.returned (.bool (prB ns))/\Below w.heap.size w w':=by
  obtain ⟨w1,hw1⟩:∃ x,w.alloc (.cells #[.int .i64 ep,va,vf,.slice adn ns.length cpn,vb,vs,vm] 42)=x:=⟨_,rfl⟩
  have b1:Below w.heap.size w w1:=by rw [<- hw1];exact (Below.refl _ w).alloc (Nat.le_refl _) _
  have K1:=hide (show Blk w1 w.heap.size 42 [.int .i64 ep,va,vf,.slice adn ns.length cpn,vb,vs,vm] from by rw [<- hw1];exact Blk.new w _ _)
  have HN:=hide hN
  have B1:=hide b1
  have HF:=hide hfn
  have x3:=K1.out.cell 3
  simp only [List.getElem?_cons_zero,List.getElem?_cons_succ] at x3
  clear hN b1 hfn
  go_enter Try.func32,Try.ntmps32
  go_upto_region 1 with fail
  (try rw [hw1])
  clear hw1
  obtain ⟨M,hM⟩:∃ x,(.agg #[.int .i64 ep,va,vf,.slice adn ns.length cpn,vb,vs,vm]:Value)=x:=⟨_,rfl⟩
  rw [hM]
  clear hM
  go_wp2
  clear x3
  go_loopw [11] (fun iv wr=>∃ i:Nat,i<=ns.length/\iv=.int .i64 (i:Int)/\(∀ j (h:j < ns.length),j < i->∀ k (hk:k < j),bgB ns[j].dn (ns[k]'(by omega)).dn=true)/\Below w1.heap.size w1 wr) (fun iv _=>ns.length - (intOf iv).toNat)
  case atStart=>exact ⟨0,Nat.zero_le _,rfl,(fun j _ h=>by omega),Below.refl _ _⟩
  case round =>
    obtain ⟨i,hi,rfl,hlo,hb⟩:=hrel
    obtain ⟨wo,rfl⟩:∃ x,x=wr:=⟨_,rfl⟩
    have Hlo:=hide hlo
    clear hlo
    by_cases hlt:i < ns.length
    · obtain ⟨b0,off,rfl,hc1,hc2,h3,hcell⟩:=HN.out.sf20 (by omega)
      obtain ⟨u,hat,hru⟩:=hcell i hlt
      have hBr:=B1.out.trans (hb.mono B1.out.size)
      have Hrg:=hide (range_below hat hBr h3)
      have hrw:=hru.below hBr (Nat.le_refl _)
      have hii:(i:Int) < (ns.length:Int):=by omega
      have hi0:(0:Int)<=(i:Int):=by omega
      have hicp:(i:Int)<=(cpn:Int):=by omega
      have hicn:i<=cpn:=by omega
      have zb1:Blk (wo.alloc (.cells #[.string { data:=#[] },.int .i64 0,.int .i64 0,.slice none 0 0,.slice none 0 0,.slice none 0 0,.int .i64 0,.int .i64 0,.int .i64 0,.int .i64 0,.slice none 0 0,.int .i64 0,.slice none 0 0,.slice none 0 0,.int .i64 0,.slice none 0 0,.slice none 0 0,.slice none 0 0,.slice none 0 0,.slice none 0 0] 79)) wo.heap.size 79 [.string { data:=#[] },.int .i64 0,.int .i64 0,.slice none 0 0,.slice none 0 0,.slice none 0 0,.int .i64 0,.int .i64 0,.int .i64 0,.int .i64 0,.slice none 0 0,.int .i64 0,.slice none 0 0,.slice none 0 0,.int .i64 0,.slice none 0 0,.slice none 0 0,.slice none 0 0,.slice none 0 0,.slice none 0 0]:=Blk.new wo _ _
      have H11:=hide (show (noC ns[i] u).toArray.all (·.oneCell')=true from by rw [List.all_toArray];exact noC_one hrw)
      have IE1:=hide (show (Try.prog.info? 79).map (·.size)=some (noC ns[i] u).length from sfNd20)
      have Hth1:=hide (show (wo.alloc (.cells #[.string { data:=#[] },.int .i64 0,.int .i64 0,.slice none 0 0,.slice none 0 0,.slice none 0 0,.int .i64 0,.int .i64 0,.int .i64 0,.int .i64 0,.slice none 0 0,.int .i64 0,.slice none 0 0,.slice none 0 0,.int .i64 0,.slice none 0 0,.slice none 0 0,.slice none 0 0,.slice none 0 0,.slice none 0 0] 79)).there wo.heap.size 0 (noC ns[i] u).toArray.size from zb1.there rfl)
      obtain ⟨w2,hw2⟩:∃ x,(wo.alloc (.cells #[.string { data:=#[] },.int .i64 0,.int .i64 0,.slice none 0 0,.slice none 0 0,.slice none 0 0,.int .i64 0,.int .i64 0,.int .i64 0,.int .i64 0,.slice none 0 0,.int .i64 0,.slice none 0 0,.slice none 0 0,.int .i64 0,.slice none 0 0,.slice none 0 0,.slice none 0 0,.slice none 0 0,.slice none 0 0] 79)).setCells wo.heap.size 0 (noC ns[i] u)=x:=⟨_,rfl⟩
      have J1:=hide (show Blk w2 wo.heap.size 79 (noC ns[i] u) from by rw [<- hw2];exact blk_all zb1 rfl)
      have bw2:Below wo.heap.size wo w2:=by rw [<- hw2];exact ((Below.refl _ wo).alloc (Nat.le_refl _) _).trans (putC_below (Nat.le_refl _) _ _ _)
      have Hw2:=hide hw2
      obtain ⟨ad,cd,hd⟩:=hrw.kd.shape
      have R1:=hide (show RdI wo (.slice ad ns[i].dn.length cd) ns[i].dn from by rw [<- hd];exact hrw.kd)
      have HC1:=hide (show (noC ns[i] u)[17]?=some (.slice ad ns[i].dn.length cd) from by rw [<- hd];rfl)
      have KB:=hide (K1.out.below (hb.trans (bw2.mono hb.size)) K1.out.lt)
      have HB2:=hide (hb.trans (bw2.mono hb.size))
      have HBr:=hide (hBr.trans (bw2.mono hBr.size))
      have HC:=hide (fun k (h:k < ns.length)=>hcell k h)
      have hzz:=bw2.size
      have hNd:=hide ((HF.out _ (List.getElem_mem hlt)).nd)
      have R1w:=hide (R1.out.below bw2 (Nat.le_refl _))
      obtain ⟨D,hD⟩:∃ x,ns[i].dn=x:=⟨_,rfl⟩
      have HDq:Hid (∀ k (hk:k < i),bgB D (ns[k]'(by omega)).dn=bgB ns[i].dn (ns[k]'(by omega)).dn):=hide (fun k hk=>by rw [hD])
      rw [hD] at R1w HC1 hNd
      have x3:=KB.out.cell 3
      simp only [List.getElem?_cons_zero,List.getElem?_cons_succ] at x3
      clear hat hru hcell hb hBr hrw zb1 bw2 hw2 hd R1 hD
      generalize noC ns[i] u=cs at Hrg H11 IE1 Hth1 Hw2 J1 HC1
      go_wp2_with (first
        | (refine wpList_load_mid rfl 79 _ rfl b0 (off+i * 20) rfl cs _ Hrg.out Try.underlying79 rfl IE1.out ?_)
        | (refine wpList_store_mid rfl 79 _ _ rfl wo.heap.size 0 cs.toArray rfl rfl Hth1.out (by simpa using IE1.out) H11.out ?_;rw [Hw2.out])
        | fail)
      clear x3 Hrg H11 IE1 Hth1 Hw2
      go_loopw [21] (fun kv wr=>∃ k:Nat,k<=i/\kv=.int .i64 (k:Int)/\(∀ j (h:j < i),j < k->bgB D (ns[j]'(by omega)).dn=true)/\Below w2.heap.size w2 wr) (fun kv _=>i - (intOf kv).toNat)
      case atStart=>exact ⟨0,Nat.zero_le _,rfl,(fun j _ h=>by omega),Below.refl _ _⟩
      case round =>
        obtain ⟨k,hk,rfl,hin,hq⟩:=hrel
        have Hin:=hide hin
        clear hin
        by_cases hlk:k < i
        · obtain ⟨v,hat,hrv⟩:=HC.out k (by omega)
          have hBq:=HBr.out.trans (hq.mono HBr.out.size)
          have Hrg:=hide (range_below hat hBq h3)
          have hrw:=hrv.below hBq (Nat.le_refl _)
          have hki:(k:Int) < (i:Int):=by omega
          have hk0:(0:Int)<=(k:Int):=by omega
          have zb2:Blk (wr.alloc (.cells #[.string { data:=#[] },.int .i64 0,.int .i64 0,.slice none 0 0,.slice none 0 0,.slice none 0 0,.int .i64 0,.int .i64 0,.int .i64 0,.int .i64 0,.slice none 0 0,.int .i64 0,.slice none 0 0,.slice none 0 0,.int .i64 0,.slice none 0 0,.slice none 0 0,.slice none 0 0,.slice none 0 0,.slice none 0 0] 79)) wr.heap.size 79 [.string { data:=#[] },.int .i64 0,.int .i64 0,.slice none 0 0,.slice none 0 0,.slice none 0 0,.int .i64 0,.int .i64 0,.int .i64 0,.int .i64 0,.slice none 0 0,.int .i64 0,.slice none 0 0,.slice none 0 0,.int .i64 0,.slice none 0 0,.slice none 0 0,.slice none 0 0,.slice none 0 0,.slice none 0 0]:=Blk.new wr _ _
          have H12:=hide (show (noC (ns[k]'(by omega)) v).toArray.all (·.oneCell')=true from by rw [List.all_toArray];exact noC_one hrw)
          have IE2:=hide (show (Try.prog.info? 79).map (·.size)=some (noC (ns[k]'(by omega)) v).length from sfNd20)
          have Hth2:=hide (show (wr.alloc (.cells #[.string { data:=#[] },.int .i64 0,.int .i64 0,.slice none 0 0,.slice none 0 0,.slice none 0 0,.int .i64 0,.int .i64 0,.int .i64 0,.int .i64 0,.slice none 0 0,.int .i64 0,.slice none 0 0,.slice none 0 0,.int .i64 0,.slice none 0 0,.slice none 0 0,.slice none 0 0,.slice none 0 0,.slice none 0 0] 79)).there wr.heap.size 0 (noC (ns[k]'(by omega)) v).toArray.size from zb2.there rfl)
          obtain ⟨w3,hw3⟩:∃ x,(wr.alloc (.cells #[.string { data:=#[] },.int .i64 0,.int .i64 0,.slice none 0 0,.slice none 0 0,.slice none 0 0,.int .i64 0,.int .i64 0,.int .i64 0,.int .i64 0,.slice none 0 0,.int .i64 0,.slice none 0 0,.slice none 0 0,.int .i64 0,.slice none 0 0,.slice none 0 0,.slice none 0 0,.slice none 0 0,.slice none 0 0] 79)).setCells wr.heap.size 0 (noC (ns[k]'(by omega)) v)=x:=⟨_,rfl⟩
          have J2:=hide (show Blk w3 wr.heap.size 79 (noC (ns[k]'(by omega)) v) from by rw [<- hw3];exact blk_all zb2 rfl)
          have bw3:Below wr.heap.size wr w3:=by rw [<- hw3];exact ((Below.refl _ wr).alloc (Nat.le_refl _) _).trans (putC_below (Nat.le_refl _) _ _ _)
          have Hw3:=hide hw3
          obtain ⟨ae,ce,he⟩:=hrw.kd.shape
          have R2:=hide (show RdI wr (.slice ae (ns[k]'(by omega)).dn.length ce) (ns[k]'(by omega)).dn from by rw [<- he];exact hrw.kd)
          have HC2:=hide (show (noC (ns[k]'(by omega)) v)[17]?=some (.slice ae (ns[k]'(by omega)).dn.length ce) from by rw [<- he];rfl)
          have hNe:=hide ((HF.out _ (List.getElem_mem (show k < ns.length by omega))).nd)
          have Hno:Hid (bgB D (ns[k]'(by omega)).dn=false->prB ns=false):=hide (fun h=>pr_no hlt hlk (by rw [<- HDq.out k hlk];exact h))
          have Hyes:Hid (bgB D (ns[k]'(by omega)).dn=true->∀ j (h:j < i),j < k+1->bgB D (ns[j]'(by omega)).dn=true):=hide (fun h j hj hjk=>by
            by_cases e:j=k
            · subst e;exact h
            · exact Hin.out j hj (by omega))
          have R2w:=hide (R2.out.below bw3 (Nat.le_refl _))
          have R1q:=hide ((R1w.out.below hq (Nat.le_refl _)).below bw3 (Nat.le_refl _))
          have y1:=(((J1.out.below hq J1.out.lt).below bw3 (J1.out.below hq J1.out.lt).lt).cell 17).trans HC1.out
          have Hb3:=hide (hq.trans (bw3.mono hq.size))
          generalize (ns[k]'(by omega)).dn=E at R2w HC2 hNe Hno Hyes
          have y2:=(J2.out.cell 17).trans HC2.out
          clear hat hrv hq hBq hrw zb2 bw3 hw3 he R2 HC2 Hin
          generalize noC (ns[k]'(by omega)) v=ds at Hrg H12 IE2 Hth2 Hw3 J2
          obtain ⟨m,hm1,hm2,hmi,hbg⟩:∃ m:Nat,m<=D.length/\m<=E.length/\min (D.length:Int) (E.length:Int)=(m:Int)/\bgB D E=decide (D.take m=E.take m):=by
            by_cases hle:E.length<=D.length
            · by_cases e:E.length=D.length
              · exact ⟨D.length,Nat.le_refl _,by omega,by omega,bg_left (by omega)⟩
              · exact ⟨E.length,hle,Nat.le_refl _,by omega,bg_right hle⟩
            · exact ⟨D.length,Nat.le_refl _,by omega,by omega,bg_left (by omega)⟩
          have hm0:(0:Int)<=(m:Int):=by omega
          have Hmi:=hide hmi
          clear hmi
          have hmc:m<=cd:=Nat.le_trans hm1 R1q.out.cap
          have hmd:m<=ce:=Nat.le_trans hm2 R2w.out.cap
          have hmci:(m:Int)<=(cd:Int):=by omega
          have hmdi:(m:Int)<=(ce:Int):=by omega
          have P1:=hide (R1q.out.pre rfl hm1)
          have P2:=hide (R2w.out.pre rfl hm2)
          have HE:=hide (fun (d:Nat) (os:Array Obj)=>Calls.regrown_of ((equalI_any (.slice ad m cd) (.slice ae m ce) (D.take m) (E.take m) (grow (redrawn w3 d) os) (P1.out.below (below_regrown w3 d os) (Nat.le_refl _)) (P2.out.below (below_regrown w3 d os) (Nat.le_refl _)) (by have:=hNd.out;rw [List.length_take];omega) (by have:=hNe.out;rw [List.length_take];omega)).mono (fun e V ⟨p,q⟩=>⟨p,q _⟩)))
          rw [<- hbg] at HE
          have g1:=cell_regrown y1
          have g2:=cell_regrown y2
          clear hbg P1 P2 R1q R2w
          generalize bgB D E=X at HE Hno Hyes
          go_wp2_with (first
            | (refine wpList_load_mid rfl 79 _ rfl b0 (off+k * 20) rfl ds _ Hrg.out Try.underlying79 rfl IE2.out ?_)
            | (refine wpList_store_mid rfl 79 _ _ rfl wr.heap.size 0 ds.toArray rfl rfl Hth2.out (by simpa using IE2.out) H12.out ?_;rw [Hw3.out])
            | fail)
          rw [Hmi.out]
          clear Hmi
          refine wp_region_quiet_below (by kernel_rfl) (by kernel_rfl) ?_
          (try dsimp only [List.append])
          repeat (first | go_big_quiet_step (first | (go_at_call 48;exact HE.out _ _)))
          refine wpQuiet_nil ?_
          intro _ hw'
          obtain ⟨⟨dq,osq⟩,hw''⟩:=hw'
          subst hw''
          have Hb4:=hide (Hb3.out.trans ((below_regrown w3 dq osq).mono Hb3.out.size))
          cases X
          · have hn:=hide (Hno.out rfl)
            go_wp2
            go_ret
            exact ⟨ret_bool hn.out.symm,HB2.out.trans (Hb4.out.mono HB2.out.size) |> fun h=>B1.out.trans (h.mono B1.out.size)⟩
          · have hn:=hide (Hyes.out rfl)
            clear Hno Hyes
            go_wp2
            go_roundw
            case rel=>exact ⟨k+1,by omega,by go_num,hn.out,Hb4.out⟩
            case measure=>simp [intOf];omega
        · have hki:¬ (k:Int) < (i:Int):=by omega
          have Hq:=hide hq
          clear hq
          go_wp2
          go_roundw
          case rel=>exact ⟨i+1,by omega,by go_num,fun j h hj=>by
            by_cases e:j=i
            · subst e;exact fun k' hk'=>by rw [<- HDq.out k' hk'];exact Hin.out k' hk' (by omega)
            · exact Hlo.out j h (by omega),HB2.out.trans (Hq.out.mono HB2.out.size)⟩
          case measure=>simp [intOf];omega
    · have hii:¬ (i:Int) < (ns.length:Int):=by omega
      have hf:=hide (pr_yes (l:=ns) (fun j h=>Hlo.out j h (by omega)))
      go_wp2
      go_ret
      exact ⟨ret_bool hf.out.symm,B1.out.trans (hb.mono B1.out.size)⟩
theorem implPrefix_any (p:Wd) (u:Wv) (w:World) (hr:RdWd w p u) (hf:FewWd p) (hft:FitWd p) :
    Calls Try.prog 11 #[wdV p u] w fun e w'=>e=.returned (.bool (prB p.ns))/\Below w.heap.size w w':=by
  obtain ⟨ad,cp,e⟩:=hr.kn.shape
  obtain ⟨w1,hw1⟩:∃ x,w.alloc (.cells (wdC p u).toArray 42)=x:=⟨_,rfl⟩
  have b1:Below w.heap.size w w1:=by rw [<- hw1];exact (Below.refl _ w).alloc (Nat.le_refl _) _
  have K1:=hide (show Blk w1 w.heap.size 42 (wdC p u) from by rw [<- hw1];exact Blk.new w _ _)
  have HC:=hide (show Calls Try.prog 32 #[wdV p u] w1 fun e w'=>e=.returned (.bool (prB p.ns))/\Below w1.heap.size w1 w' from by
    have h:=hr.kn.below b1 (Nat.le_refl _)
    unfold wdV
    rw [e] at h ⊢
    exact implPrefixN_any p.ep u.a u.f u.b u.s u.m ad cp p.ns w1 h hf.nn hf.fn)
  have IW:=hide (show (Try.prog.info? 42).map (·.size)=some (wdC p u).length from sfWd7)
  have R1:=hide (blk_range K1.out)
  have B1:=hide b1
  rw [show wdV p u=.agg (wdC p u).toArray from rfl] at HC ⊢
  clear e hr hf hft b1 K1
  generalize prB p.ns=X at HC ⊢
  generalize wdC p u=cs at HC IW R1 hw1 ⊢
  go_enter Try.func11,Try.ntmps11
  go_upto_region 1 with fail
  (try rw [hw1])
  clear hw1
  go_wp2_with (first
    | (refine wpList_load_mid rfl 42 _ rfl w.heap.size 0 rfl cs _ R1.out Try.underlying42 rfl IW.out ?_)
    | fail)
  refine HC.out.mono ?_
  rintro e w2 ⟨rfl,hb2⟩
  have hB:=B1.out.trans (hb2.mono B1.out.size)
  clear hb2 HC
  go_wp2
  go_ret
  exact ⟨rfl,hB⟩
end Go.Proofs.Ytmbbpmbkbiggmaa
