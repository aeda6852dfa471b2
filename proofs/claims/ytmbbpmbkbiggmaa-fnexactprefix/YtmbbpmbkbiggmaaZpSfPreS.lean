/- Prefix of the model. -/
import Derived.Test.YtmbbpmbkbiggmaaZpSfPure
import Derived.Test.YtmbbpmbkbiggmaaZpLdMid
import Derived.Test.YtmbbpmbkbiggmaaZpVtOpen
import Derived.Deep.Cut
set_option maxRecDepth 20000
set_option maxHeartbeats 4000000
namespace Go.Proofs.Ytmbbpmbkbiggmaa
open Go.RowKit Go.Sort
set_option linter.unusedVariables false
theorem specBegins_any (a1 a2:Option Addr) (c1 c2:Nat) (l1 l2:List Int) (w:World) (hr1:RdI w (.slice a1 l1.length c1) l1) (hr2:RdI w (.slice a2 l2.length c2) l2) (hl1:l1.length<=4000000) (hl2:l2.length<=4000000) :
    Calls Try.prog 31 #[.slice a1 l1.length c1,.slice a2 l2.length c2] w fun e w'=>e=.returned (.bool (bgB l1 l2))/\Sm w w':=by
  have H1:=hide hr1
  have H2:=hide hr2
  clear hr1 hr2
  go_enter Try.func31,Try.ntmps31
  go_wp2
  go_loopw [5] (fun i wr=>∃ k:Nat,k<=l1.length/\k<=l2.length/\i=.int .i64 k/\l1.take k=l2.take k/\Sm w wr) (fun i _=>l1.length - (intOf i).toNat)
  case atStart=>exact ⟨0,Nat.zero_le _,Nat.zero_le _,rfl,rfl,Sm.refl _⟩
  case round =>
    obtain ⟨k,hk1,hk2,rfl,ht,hs⟩:=hrel
    have Ht:=hide ht
    clear ht
    by_cases hlt:k < l1.length
    · by_cases hlt2:k < l2.length
      · obtain ⟨b,off,rfl,x1,x2,x3,x4⟩:=H1.out.at hlt
        obtain ⟨b2,off2,rfl,y1,y2,y3,y4⟩:=H2.out.at hlt2
        have hc1:wr.cell? ⟨b,off+k,none⟩=some (.int .i64 l1[k]):=(hs.cell _).trans x4
        have hc2:wr.cell? ⟨b2,off2+k,none⟩=some (.int .i64 l2[k]):=(hs.cell _).trans y4
        have hli:(k:Int) < (l1.length:Int):=by omega
        have hli2:(k:Int) < (l2.length:Int):=by omega
        have hk0:(0:Int)<=(k:Int):=by omega
        by_cases he:l1[k]=l2[k]
        · have Hnx:=hide (take_eq_snoc hlt hlt2 Ht.out he)
          rw [<- he] at hc2
          clear he x4 y4
          generalize l1[k]=s1 at hc1 hc2
          go_wp2
          go_quiet (fail)
          go_wp2
          go_roundw
          case rel=>exact ⟨k+1,by omega,by omega,by go_num,Hnx.out,hs.drewN _⟩
          case measure=>simp [intOf];omega
        · have hf:=hide (bg_no hlt hlt2 he)
          have hq:=int_ne he
          clear he x4 y4
          generalize l1[k]=s1 at hc1 hq
          generalize l2[k]=s2 at hc2 hq
          go_wp2
          go_quiet (fail)
          go_wp2
          go_ret
          exact ⟨ret_bool hf.out.symm,hs.drewN _⟩
      · have hf:=hide (bg_yes hk1 hk2 (fun h=>hlt2 h.2) Ht.out)
        have hli:(k:Int) < (l1.length:Int):=by omega
        have hli2:¬ (k:Int) < (l2.length:Int):=by omega
        go_wp2
        go_ret
        exact ⟨ret_bool hf.out.symm,hs⟩
    · have hf:=hide (bg_yes hk1 hk2 (fun h=>hlt h.1) Ht.out)
      have hli:¬ (k:Int) < (l1.length:Int):=by omega
      go_wp2
      go_ret
      exact ⟨ret_bool hf.out.symm,hs⟩
theorem specPrefixN_any (ep:Int) (va vf vb vs vm:Value) (adn:Option Addr) (cpn:Nat) (ns:List Nd) (w:World) (hN:RdNs w (.slice adn ns.length cpn) ns) (hl:ns.length<=4000000) (hfn:∀ q ∈ ns,FewNd q) :
    Calls Try.prog 10 #[.agg #[.int .i64 ep,va,vf,.slice adn ns.length cpn,vb,vs,vm]] w fun e w'=>e=.returned (.bool (prB ns))/\Below w.heap.size w w':=by
  obtain ⟨w1,hw1⟩:∃ x,w.alloc (.cells #[.int .i64 ep,va,vf,.slice adn ns.length cpn,vb,vs,vm] 42)=x:=⟨_,rfl⟩
  have b1:Below w.heap.size w w1:=by rw [<- hw1];exact (Below.refl _ w).alloc (Nat.le_refl _) _
  have K1:=hide (show Blk w1 w.heap.size 42 [.int .i64 ep,va,vf,.slice adn ns.length cpn,vb,vs,vm] from by rw [<- hw1];exact Blk.new w _ _)
  have HN:=hide hN
  have B1:=hide b1
  have HF:=hide hfn
  clear hN b1 hfn
  go_enter Try.func10,Try.ntmps10
  go_upto_region 1 with fail
  (try rw [hw1])
  clear hw1
  obtain ⟨M,hM⟩:∃ x,(.agg #[.int .i64 ep,va,vf,.slice adn ns.length cpn,vb,vs,vm]:Value)=x:=⟨_,rfl⟩
  rw [hM]
  clear hM
  go_wp2
  go_loopw [3] (fun iv wr=>∃ i:Nat,i<=ns.length/\iv=.int .i64 (i:Int)/\(∀ j (h:j < ns.length),j < i->∀ k (hk:k < j),bgB ns[j].dn (ns[k]'(by omega)).dn=true)/\Below w1.heap.size w1 wr) (fun iv _=>ns.length - (intOf iv).toNat)
  case atStart=>exact ⟨0,Nat.zero_le _,rfl,(fun j _ h=>by omega),Below.refl _ _⟩
  case round =>
    obtain ⟨i,hi,rfl,hlo,hb⟩:=hrel
    have Hlo:=hide hlo
    clear hlo
    have x3:=(K1.out.below hb K1.out.lt).cell 3
    simp only [List.getElem?_cons_zero,List.getElem?_cons_succ] at x3
    by_cases hlt:i < ns.length
    · have hii:(i:Int) < (ns.length:Int):=by omega
      have Hb:=hide hb
      clear hb
      go_wp2
      clear x3
      go_loopw [4] (fun kv wr=>∃ k:Nat,k<=i/\kv=.int .i64 (k:Int)/\(∀ j (h:j < i),j < k->bgB ns[i].dn (ns[j]'(by omega)).dn=true)/\Below w1.heap.size w1 wr) (fun kv _=>i - (intOf kv).toNat)
      case atStart=>exact ⟨0,Nat.zero_le _,rfl,(fun j _ h=>by omega),Hb.out⟩
      case round =>
        obtain ⟨k,hk,rfl,hin,hq⟩:=hrel
        have Hin:=hide hin
        clear hin
        by_cases hlk:k < i
        · obtain ⟨b0,off,rfl,hc1,hc2,h3,hcell⟩:=HN.out.sf20 (by omega)
          obtain ⟨u,hat,hru⟩:=hcell i hlt
          obtain ⟨v,hat2,hrv⟩:=hcell k (by omega)
          have hBq:=B1.out.trans (hq.mono B1.out.size)
          have x3:=(K1.out.below hq K1.out.lt).cell 3
          simp only [List.getElem?_cons_zero,List.getElem?_cons_succ] at x3
          obtain ⟨ad,cd,hd⟩:=hru.kd.shape
          obtain ⟨ae,ce,he⟩:=hrv.kd.shape
          have c1:=(range_below hat hBq h3) 17 u.d rfl
          have c2:=(range_below hat2 hBq h3) 17 v.d rfl
          have r1:=hru.kd.below hBq (Nat.le_refl _)
          have r2:=hrv.kd.below hBq (Nat.le_refl _)
          rw [hd] at c1 r1
          rw [he] at c2 r2
          have HB:=hide (fun (d:Nat) (os:Array Obj)=>Calls.regrown_of ((specBegins_any ad ae cd ce ns[i].dn (ns[k]'(by omega)).dn (grow (redrawn wr d) os) (r1.below (below_regrown wr d os) (Nat.le_refl _)) (r2.below (below_regrown wr d os) (Nat.le_refl _)) (HF.out _ (List.getElem_mem hlt)).nd (HF.out _ (List.getElem_mem (by omega))).nd).mono (fun e V ⟨p,q⟩=>⟨p,q _⟩)))
          have g3:=cell_regrown x3
          have g1:=cell_regrown c1
          have g2:=cell_regrown c2
          have hki:(k:Int) < (i:Int):=by omega
          have hkn:(k:Int) < (ns.length:Int):=by omega
          have hk0:(0:Int)<=(k:Int):=by omega
          have hi0:(0:Int)<=(i:Int):=by omega
          have Hq:=hide hq
          have Hno:Hid (bgB ns[i].dn (ns[k]'(by omega)).dn=false->prB ns=false):=hide (fun h=>pr_no hlt hlk h)
          have Hyes:Hid (bgB ns[i].dn (ns[k]'(by omega)).dn=true->∀ j (h:j < i),j < k+1->bgB ns[i].dn (ns[j]'(by omega)).dn=true):=hide (fun h j hj hjk=>by
            by_cases e:j=k
            · subst e;exact h
            · exact Hin.out j hj (by omega))
          clear hat hat2 hru hrv hcell hq c1 c2 r1 r2 hd he x3 Hin hBq
          generalize bgB ns[i].dn (ns[k]'(by omega)).dn=X at HB Hno Hyes
          generalize ns[i].dn.length=n1 at HB g1
          generalize (ns[k]'(by omega)).dn.length=n2 at HB g2
          go_wp2
          refine wp_region_quiet_below (by kernel_rfl) (by kernel_rfl) ?_
          (try dsimp only [List.append])
          repeat (first | go_big_quiet_step (first | (go_at_call 31;exact HB.out _ _)))
          refine wpQuiet_nil ?_
          intro _ hw'
          obtain ⟨⟨dq,osq⟩,hw''⟩:=hw'
          subst hw''
          have Hb2:=hide (Hq.out.trans ((below_regrown wr dq osq).mono Hq.out.size))
          cases X
          · have hn:=hide (Hno.out rfl)
            go_wp2
            go_ret
            exact ⟨ret_bool hn.out.symm,B1.out.trans (Hb2.out.mono B1.out.size)⟩
          · have hn:=hide (Hyes.out rfl)
            clear Hno Hyes
            go_wp2
            go_roundw
            case rel=>exact ⟨k+1,by omega,by go_num,hn.out,Hb2.out⟩
            case measure=>simp [intOf];omega
        · have hki:¬ (k:Int) < (i:Int):=by omega
          have Hq:=hide hq
          clear hq
          go_wp2
          go_roundw
          case rel=>exact ⟨i+1,by omega,by go_num,fun j h hj=>by
            by_cases e:j=i
            · subst e;exact fun k' hk'=>Hin.out k' hk' (by omega)
            · exact Hlo.out j h (by omega),Hq.out⟩
          case measure=>simp [intOf];omega
    · have hii:¬ (i:Int) < (ns.length:Int):=by omega
      have hf:=hide (pr_yes (l:=ns) (fun j h=>Hlo.out j h (by omega)))
      go_wp2
      go_ret
      exact ⟨ret_bool hf.out.symm,B1.out.trans (hb.mono B1.out.size)⟩
theorem specPrefix_any (p:Wd) (u:Wv) (w:World) (hr:RdWd w p u) (hf:FewWd p) (hft:FitWd p) :
    Calls Try.prog 10 #[wdV p u] w fun e w'=>e=.returned (.bool (prB p.ns))/\Below w.heap.size w w':=by
  obtain ⟨ad,cp,e⟩:=hr.kn.shape
  have h:=hr.kn
  unfold wdV
  rw [e] at h ⊢
  exact specPrefixN_any p.ep u.a u.f u.b u.s u.m ad cp p.ns w h hf.nn hf.fn
end Go.Proofs.Ytmbbpmbkbiggmaa
