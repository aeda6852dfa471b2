/- At all worlds WorldOk of the program answers as the model's WorldOk, and writes into no argument: the law FnExactWorldOk returns true, with no condition. -/
import Derived.Test.YtckahjabljffjaaGreatZwWdEq
import Derived.Test.YtckahjabljffjaaGreatZwWdOkS
import Derived.Below
set_option maxRecDepth 100000
set_option maxHeartbeats 8000000
namespace Go.Proofs.YtckahjabljffjaaGreat
open Go.RowKit Go.Sort
set_option linter.unusedVariables false
theorem implNodesOk_any (ep:Int) (va vs:Value) (adf adn adb adm:Option Addr) (cpf cpn cpb cpm:Nat) (fo:List ByteArray) (ns:List Nd) (bs:List Bk) (ms:List Mg) (w:World) (Q:Wq w adf adn adb adm cpf cpn cpb cpm fo ns bs ms) :
    Calls Tryz.prog 65 #[.agg #[.int .i64 ep,va,.slice adf fo.length cpf,.slice adn ns.length cpn,.slice adb bs.length cpb,vs,.slice adm ms.length cpm]] w fun e w'=>e=.returned (.bool (nodesB fo bs ns))/\Below w.heap.size w w':=by
  obtain ⟨w1,hw1⟩:∃ x,w.alloc (.cells #[.int .i64 ep,va,.slice adf fo.length cpf,.slice adn ns.length cpn,.slice adb bs.length cpb,vs,.slice adm ms.length cpm] 36)=x:=⟨_,rfl⟩
  have b1:Below w.heap.size w w1:=by rw [<- hw1];exact (Below.refl _ w).alloc (Nat.le_refl _) _
  have K1:=hide (show Blk w1 w.heap.size 36 [.int .i64 ep,va,.slice adf fo.length cpf,.slice adn ns.length cpn,.slice adb bs.length cpb,vs,.slice adm ms.length cpm] from by rw [<- hw1];exact Blk.new w _ _)
  have IW:=hide (show (Tryz.prog.info? 36).map (·.size)=some ([.int .i64 ep,va,.slice adf fo.length cpf,.slice adn ns.length cpn,.slice adb bs.length cpb,vs,.slice adm ms.length cpm]:List Value).length from infoWd7)
  have B1:=hide b1
  have HQ:=hide Q
  have HX:Hid (nodesB fo bs ns=(decide (ns.length<=12) && (List.range ns.length).all (ndAt fo bs ns))):=hide rfl
  have HO:=hide (fun (n:Nd) (v:Nv) (V:World) (hr:RdNd V n v) (hf:FewNd n) (hg:FitNd n)=>implNodeOk_any n v V hr hf hg)
  have HC:=hide (fun (s:ByteArray) (V:World) (hV:Below w.heap.size w V)=>contains_any (.slice adf fo.length cpf) fo s V (Q.f.below hV (Nat.le_refl _)) Q.lf)
  have HR:=hide (fun (al:Option Addr) (cl:Nat) (l:List Bk) (V:World) (hV:Below w.heap.size w V) (hL:RdKs V (.slice al l.length cl) l) (hll:l.length<=4000000) (hfl:∀ x ∈ l,FewK x)=>implHasAll_any ep va (.slice adf fo.length cpf) (.slice adn ns.length cpn) vs (.slice adm ms.length cpm) adb cpb bs al cl l V (Q.b.below hV (Nat.le_refl _)) Q.lb Q.fb hL hll hfl)
  have k1:=K1.out
  have x3:=k1.cell 3
  simp only [List.getElem?_cons_zero,List.getElem?_cons_succ] at x3
  have hx2:([.int .i64 ep,va,.slice adf fo.length cpf,.slice adn ns.length cpn,.slice adb bs.length cpb,vs,.slice adm ms.length cpm]:List Value)[2]?=some (.slice adf fo.length cpf):=rfl
  have hx3:([.int .i64 ep,va,.slice adf fo.length cpf,.slice adn ns.length cpn,.slice adb bs.length cpb,vs,.slice adm ms.length cpm]:List Value)[3]?=some (.slice adn ns.length cpn):=rfl
  clear Q b1 k1
  obtain ⟨cw,hcw⟩:∃ x,([.int .i64 ep,va,.slice adf fo.length cpf,.slice adn ns.length cpn,.slice adb bs.length cpb,vs,.slice adm ms.length cpm]:List Value)=x:=⟨_,rfl⟩
  have hcw2:(.agg #[.int .i64 ep,va,.slice adf fo.length cpf,.slice adn ns.length cpn,.slice adb bs.length cpb,vs,.slice adm ms.length cpm]:Value)=.agg cw.toArray:=by rw [<- hcw]
  rw [hcw] at K1 IW hx2 hx3
  rw [hcw2] at HR ⊢
  rw [show (w.alloc (.cells #[.int .i64 ep,va,.slice adf fo.length cpf,.slice adn ns.length cpn,.slice adb bs.length cpb,vs,.slice adm ms.length cpm] 36))=w.alloc (.cells cw.toArray 36) from by rw [<- hcw]] at hw1
  clear hcw hcw2
  generalize nodesB fo bs ns=X at HX ⊢
  go_enter Tryz.func65,Tryz.ntmps65
  go_upto_region 1 with fail
  (try rw [hw1])
  clear hw1
  by_cases h0:ns.length<=12
  · rw [decide_eq_true h0,Bool.true_and] at HX
    have h0i:¬ (12:Int) < (ns.length:Int):=by omega
    go_wp2
    go_loopw [12] (fun iv wr=>∃ k:Nat,k<=ns.length/\iv=.int .i64 (k:Int)/\(∀ j,j < k->ndAt fo bs ns j=true)/\Below w1.heap.size w1 wr) (fun iv _=>ns.length - (intOf iv).toNat)
    case atStart=>exact ⟨0,Nat.zero_le _,rfl,(fun j h=>by omega),Below.refl _ _⟩
    case round =>
      obtain ⟨k,hk,rfl,hlo,hb⟩:=hrel
      have Hlo:=hide hlo
      clear hlo
      by_cases hlt:k < ns.length
      · obtain ⟨b0, off,rfl,h3,hcell⟩:=HQ.out.n.at20 (by omega)
        obtain ⟨u,hat,hrl⟩:=hcell k hlt
        have hBr:=B1.out.trans (hb.mono B1.out.size)
        have Hrg:=hide (range_below hat hBr h3)
        have hrw:=hrl.below hBr (Nat.le_refl _)
        have hfw:=HQ.out.fn _ (List.getElem_mem hlt)
        have hgw:=HQ.out.gn _ (List.getElem_mem hlt)
        have Hno:Hid (ndAt fo bs ns k=false->X=false):=hide (fun h=>by rw [HX.out];exact rangeW_no hlt h)
        have Hyes:Hid (ndAt fo bs ns k=true->∀ j,j < k+1->ndAt fo bs ns j=true):=hide (fun h j hjk=>by
          by_cases e:j=k
          · subst e;exact h
          · exact Hlo.out j (by omega))
        have Hq:Hid (ndAt fo bs ns k=(nodB ns[k] && (!hasN fo ns[k].nm && (upAt ns k && realB bs ns[k].tt)))):=hide (ndAt_eq hlt)
        obtain ⟨am,cm,eb⟩:=hrw.kt.shape
        have hki:(k:Int) < (ns.length:Int):=by omega
        have hk0:(0:Int)<=(k:Int):=by omega
        have hz1:=K1.out.lt
        have zb:Blk (wr.alloc (.cells #[.string { data:=#[] },.int .i64 0,.int .i64 0,.slice none 0 0,.slice none 0 0,.slice none 0 0,.int .i64 0,.int .i64 0,.int .i64 0,.int .i64 0,.slice none 0 0,.int .i64 0,.slice none 0 0,.slice none 0 0,.int .i64 0,.slice none 0 0,.slice none 0 0,.slice none 0 0,.slice none 0 0,.slice none 0 0] 75)) wr.heap.size 75 [.string { data:=#[] },.int .i64 0,.int .i64 0,.slice none 0 0,.slice none 0 0,.slice none 0 0,.int .i64 0,.int .i64 0,.int .i64 0,.int .i64 0,.slice none 0 0,.int .i64 0,.slice none 0 0,.slice none 0 0,.int .i64 0,.slice none 0 0,.slice none 0 0,.slice none 0 0,.slice none 0 0,.slice none 0 0]:=Blk.new wr _ _
        have H1:=hide (show (noC ns[k] u).toArray.all (·.oneCell')=true from by rw [List.all_toArray];exact noC_one hrw)
        have IE:=hide (show (Tryz.prog.info? 75).map (·.size)=some (noC ns[k] u).length from infoNd20)
        have Hth:=hide (show (wr.alloc (.cells #[.string { data:=#[] },.int .i64 0,.int .i64 0,.slice none 0 0,.slice none 0 0,.slice none 0 0,.int .i64 0,.int .i64 0,.int .i64 0,.int .i64 0,.slice none 0 0,.int .i64 0,.slice none 0 0,.slice none 0 0,.int .i64 0,.slice none 0 0,.slice none 0 0,.slice none 0 0,.slice none 0 0,.slice none 0 0] 75)).there wr.heap.size 0 (noC ns[k] u).toArray.size from zb.there rfl)
        obtain ⟨w3,hw3⟩:∃ x,(wr.alloc (.cells #[.string { data:=#[] },.int .i64 0,.int .i64 0,.slice none 0 0,.slice none 0 0,.slice none 0 0,.int .i64 0,.int .i64 0,.int .i64 0,.int .i64 0,.slice none 0 0,.int .i64 0,.slice none 0 0,.slice none 0 0,.int .i64 0,.slice none 0 0,.slice none 0 0,.slice none 0 0,.slice none 0 0,.slice none 0 0] 75)).setCells wr.heap.size 0 (noC ns[k] u)=x:=⟨_,rfl⟩
        have J3:=hide (show Blk w3 wr.heap.size 75 (noC ns[k] u) from by rw [<- hw3];exact blk_all zb rfl)
        have b3:Below wr.heap.size wr w3:=by rw [<- hw3];exact ((Below.refl _ wr).alloc (Nat.le_refl _) _).trans (putC_below (Nat.le_refl _) _ _ _)
        have B3:=hide (hb.trans (b3.mono hb.size))
        have B3w:=hBr.trans (b3.mono hBr.size)
        have R3:=hrw.below b3 (Nat.le_refl _)
        have qq:=fun (d:Nat) (os:Array Obj)=>below_regrown w3 d os
        have HO3:=hide (fun (d:Nat) (os:Array Obj)=>Calls.regrown_of (HO.out ns[k] u (grow (redrawn w3 d) os) (R3.below (qq d os) (Nat.le_refl _)) hfw hgw))
        have HC3:=hide (fun (d:Nat) (os:Array Obj)=>Calls.regrown_of (HC.out ns[k].nm (grow (redrawn w3 d) os) (B3w.trans ((qq d os).mono B3w.size))))
        have HR3:=hide (fun (d:Nat) (os:Array Obj)=>Calls.regrown_of (HR.out am cm ns[k].tt (grow (redrawn w3 d) os) (B3w.trans ((qq d os).mono B3w.size)) (by rw [<- eb];exact (R3.below (qq d os) (Nat.le_refl _)).kt) hfw.nt hfw.ft))
        have rw3:=range_below (range_below (blk_range K1.out) hb K1.out.lt) b3 (by have:=hb.size;omega)
        have RW:=hide (range_regrown rw3 (by have:=hb.size;have:=b3.size;omega))
        have RJ:=hide (range_regrown (blk_range J3.out) J3.out.lt)
        have g2:=cell_regrown (show w3.cell? ⟨w.heap.size,2,none⟩=some (.slice adf fo.length cpf) from by have a:=rw3 2 _ hx2;rwa [Nat.zero_add] at a)
        have g3:=cell_regrown (show w3.cell? ⟨w.heap.size,3,none⟩=some (.slice (some ⟨b0,off,none⟩) ns.length cpn) from by have a:=rw3 3 _ hx3;rwa [Nat.zero_add] at a)
        have j0:=cell_regrown (show w3.cell? ⟨wr.heap.size,0,none⟩=some (.string ns[k].nm) from J3.out.cell 0)
        have j5:=cell_regrown (show w3.cell? ⟨wr.heap.size,5,none⟩=some (.slice am ns[k].tt.length cm) from by rw [<- eb];exact J3.out.cell 5)
        have HP:=hide (show ∀ (hp:0 < k),w3.cell? ⟨b0,off+(k - 1) * 20,none⟩=some (.string (ns[k - 1]'(by omega)).nm) from fun hp=>by
          obtain ⟨v,ha,-⟩:=hcell (k - 1) (by omega)
          have a:=(range_below ha B3w h3) 0 _ rfl
          rwa [Nat.add_zero] at a)
        have HU:=hide (show ∀ (hp:0 < k),upAt ns k=Op.bytesLess (ns[k - 1]'(by omega)).nm.toList ns[k].nm.toList from fun hp=>upAt_eq hlt hp)
        have HU0:=hide (show k=0->upAt ns k=true from upAt_none)
        rw [show noV ns[k] u=.agg (noC ns[k] u).toArray from rfl] at HO3
        have Hw3:=hide hw3
        clear hat hrl hcell hb hrw b3 zb hw3 hBr Hlo hfw hgw eb R3 hz1 B3w qq rw3 J3
        generalize ndAt fo bs ns k=Y at Hno Hyes Hq
        generalize nodB ns[k]=G at HO3 Hq
        generalize realB bs ns[k].tt=H at HR3 Hq
        generalize hasN fo ns[k].nm=C at HC3 Hq
        generalize ns[k].tt.length=tn at j5 HR3
        generalize upAt ns k=U at HU HU0 Hq
        generalize ns[k].nm=nm at j0 HC3 HU
        generalize noC ns[k] u=cs at Hrg H1 IE Hth Hw3 RJ HO3
        by_cases hk1:k=0
        · have hd : decide (0 < k)=false:=by simp;omega
          rw [HU0.out hk1,Bool.true_and] at Hq
          have Hq2:Hid (Y=(G && (!C && H))):=Hq
          have Hq:Hid (Y=(!C && (G && H))):=hide (by rw [Hq2.out];cases G <;> cases C <;> rfl)
          clear Hq2 HU HU0 HP hk1
          cases C
          · rw [Bool.not_false,Bool.true_and] at Hq
            cases G
            · rw [Bool.false_and] at Hq
              have hn:=hide (Hno.out Hq.out)
              clear Hno Hyes Hq
              go_wp2_with (first
                | (refine load_mid 75 _ rfl b0 (off+k * 20) rfl cs _ Hrg.out Tryz.underlying75 rfl IE.out (by rfl) ?_)
                | (refine wpList_store_mid rfl 75 _ _ rfl wr.heap.size 0 cs.toArray rfl rfl Hth.out (by simpa using IE.out) H1.out ?_;rw [Hw3.out])
                | fail)
              refine wp_region_quiet_below (by kernel_rfl) (by kernel_rfl) ?_
              (try dsimp only [List.append])
              (try simp only [Act.put])
              iterate 22 (go_big_quiet_step (first | (go_at_call 32;exact HC3.out _ _) | (go_at_call 120;exact HO3.out _ _) | (go_at_call 121;exact HR3.out _ _)))
              (first | go_big_quiet_skip | (refine quiet_load_mid 75 _ rfl wr.heap.size (0) rfl cs _ RJ.out Tryz.underlying75 rfl IE.out (by rfl) ?_;change wpQuiet _ _ _ _ _ (Act.put _ (some 39) _);simp only [Act.put,List.setIfInBounds_toArray,List.set_cons_zero,List.set_cons_succ]))
              iterate 4 (go_big_quiet_step (first | (go_at_call 32;exact HC3.out _ _) | (go_at_call 120;exact HO3.out _ _) | (go_at_call 121;exact HR3.out _ _)))
              (first | go_big_quiet_skip | (refine quiet_load_mid 36 _ rfl w.heap.size (0) rfl cw _ RW.out Tryz.underlying36 rfl IW.out (by rfl) ?_;change wpQuiet _ _ _ _ _ (Act.put _ (some 44) _);simp only [Act.put,List.setIfInBounds_toArray,List.set_cons_zero,List.set_cons_succ]))
              iterate 5 (go_big_quiet_step (first | (go_at_call 32;exact HC3.out _ _) | (go_at_call 120;exact HO3.out _ _) | (go_at_call 121;exact HR3.out _ _)))
              refine wpQuiet_nil ?_
              intro _ hw'
              obtain ⟨⟨dq,osq⟩,hw''⟩:=hw'
              subst hw''
              go_wp2
              go_ret
              exact ⟨ret_bool hn.out.symm,B1.out.trans ((B3.out.trans ((below_regrown w3 dq osq).mono B3.out.size)).mono B1.out.size)⟩
            · rw [Bool.true_and] at Hq
              cases H
              · have hn:=hide (Hno.out Hq.out)
                clear Hno Hyes Hq
                go_wp2_with (first
                  | (refine load_mid 75 _ rfl b0 (off+k * 20) rfl cs _ Hrg.out Tryz.underlying75 rfl IE.out (by rfl) ?_)
                  | (refine wpList_store_mid rfl 75 _ _ rfl wr.heap.size 0 cs.toArray rfl rfl Hth.out (by simpa using IE.out) H1.out ?_;rw [Hw3.out])
                  | fail)
                refine wp_region_quiet_below (by kernel_rfl) (by kernel_rfl) ?_
                (try dsimp only [List.append])
                (try simp only [Act.put])
                iterate 22 (go_big_quiet_step (first | (go_at_call 32;exact HC3.out _ _) | (go_at_call 120;exact HO3.out _ _) | (go_at_call 121;exact HR3.out _ _)))
                (first | go_big_quiet_skip | (refine quiet_load_mid 75 _ rfl wr.heap.size (0) rfl cs _ RJ.out Tryz.underlying75 rfl IE.out (by rfl) ?_;change wpQuiet _ _ _ _ _ (Act.put _ (some 39) _);simp only [Act.put,List.setIfInBounds_toArray,List.set_cons_zero,List.set_cons_succ]))
                iterate 4 (go_big_quiet_step (first | (go_at_call 32;exact HC3.out _ _) | (go_at_call 120;exact HO3.out _ _) | (go_at_call 121;exact HR3.out _ _)))
                (first | go_big_quiet_skip | (refine quiet_load_mid 36 _ rfl w.heap.size (0) rfl cw _ RW.out Tryz.underlying36 rfl IW.out (by rfl) ?_;change wpQuiet _ _ _ _ _ (Act.put _ (some 44) _);simp only [Act.put,List.setIfInBounds_toArray,List.set_cons_zero,List.set_cons_succ]))
                iterate 5 (go_big_quiet_step (first | (go_at_call 32;exact HC3.out _ _) | (go_at_call 120;exact HO3.out _ _) | (go_at_call 121;exact HR3.out _ _)))
                refine wpQuiet_nil ?_
                intro _ hw'
                obtain ⟨⟨dq,osq⟩,hw''⟩:=hw'
                subst hw''
                go_wp2
                go_ret
                exact ⟨ret_bool hn.out.symm,B1.out.trans ((B3.out.trans ((below_regrown w3 dq osq).mono B3.out.size)).mono B1.out.size)⟩
              · have Hy:=hide (Hyes.out Hq.out)
                clear Hno Hyes Hq
                go_wp2_with (first
                  | (refine load_mid 75 _ rfl b0 (off+k * 20) rfl cs _ Hrg.out Tryz.underlying75 rfl IE.out (by rfl) ?_)
                  | (refine wpList_store_mid rfl 75 _ _ rfl wr.heap.size 0 cs.toArray rfl rfl Hth.out (by simpa using IE.out) H1.out ?_;rw [Hw3.out])
                  | fail)
                refine wp_region_quiet_below (by kernel_rfl) (by kernel_rfl) ?_
                (try dsimp only [List.append])
                (try simp only [Act.put])
                iterate 22 (go_big_quiet_step (first | (go_at_call 32;exact HC3.out _ _) | (go_at_call 120;exact HO3.out _ _) | (go_at_call 121;exact HR3.out _ _)))
                (first | go_big_quiet_skip | (refine quiet_load_mid 75 _ rfl wr.heap.size (0) rfl cs _ RJ.out Tryz.underlying75 rfl IE.out (by rfl) ?_;change wpQuiet _ _ _ _ _ (Act.put _ (some 39) _);simp only [Act.put,List.setIfInBounds_toArray,List.set_cons_zero,List.set_cons_succ]))
                iterate 4 (go_big_quiet_step (first | (go_at_call 32;exact HC3.out _ _) | (go_at_call 120;exact HO3.out _ _) | (go_at_call 121;exact HR3.out _ _)))
                (first | go_big_quiet_skip | (refine quiet_load_mid 36 _ rfl w.heap.size (0) rfl cw _ RW.out Tryz.underlying36 rfl IW.out (by rfl) ?_;change wpQuiet _ _ _ _ _ (Act.put _ (some 44) _);simp only [Act.put,List.setIfInBounds_toArray,List.set_cons_zero,List.set_cons_succ]))
                iterate 5 (go_big_quiet_step (first | (go_at_call 32;exact HC3.out _ _) | (go_at_call 120;exact HO3.out _ _) | (go_at_call 121;exact HR3.out _ _)))
                refine wpQuiet_nil ?_
                intro _ hw'
                obtain ⟨⟨dq,osq⟩,hw''⟩:=hw'
                subst hw''
                go_wp2
                go_roundw
                case rel=>exact ⟨k+1,by omega,by go_num,Hy.out,B3.out.trans ((below_regrown w3 dq osq).mono B3.out.size)⟩
                case measure=>simp [intOf];omega
          · rw [Bool.not_true,Bool.false_and] at Hq
            have hn:=hide (Hno.out Hq.out)
            clear Hno Hyes Hq
            go_wp2_with (first
              | (refine load_mid 75 _ rfl b0 (off+k * 20) rfl cs _ Hrg.out Tryz.underlying75 rfl IE.out (by rfl) ?_)
              | (refine wpList_store_mid rfl 75 _ _ rfl wr.heap.size 0 cs.toArray rfl rfl Hth.out (by simpa using IE.out) H1.out ?_;rw [Hw3.out])
              | fail)
            refine wp_region_quiet_below (by kernel_rfl) (by kernel_rfl) ?_
            (try dsimp only [List.append])
            (try simp only [Act.put])
            iterate 22 (go_big_quiet_step (first | (go_at_call 32;exact HC3.out _ _) | (go_at_call 120;exact HO3.out _ _) | (go_at_call 121;exact HR3.out _ _)))
            (first | go_big_quiet_skip | (refine quiet_load_mid 75 _ rfl wr.heap.size (0) rfl cs _ RJ.out Tryz.underlying75 rfl IE.out (by rfl) ?_;change wpQuiet _ _ _ _ _ (Act.put _ (some 39) _);simp only [Act.put,List.setIfInBounds_toArray,List.set_cons_zero,List.set_cons_succ]))
            iterate 4 (go_big_quiet_step (first | (go_at_call 32;exact HC3.out _ _) | (go_at_call 120;exact HO3.out _ _) | (go_at_call 121;exact HR3.out _ _)))
            (first | go_big_quiet_skip | (refine quiet_load_mid 36 _ rfl w.heap.size (0) rfl cw _ RW.out Tryz.underlying36 rfl IW.out (by rfl) ?_;change wpQuiet _ _ _ _ _ (Act.put _ (some 44) _);simp only [Act.put,List.setIfInBounds_toArray,List.set_cons_zero,List.set_cons_succ]))
            iterate 5 (go_big_quiet_step (first | (go_at_call 32;exact HC3.out _ _) | (go_at_call 120;exact HO3.out _ _) | (go_at_call 121;exact HR3.out _ _)))
            refine wpQuiet_nil ?_
            intro _ hw'
            obtain ⟨⟨dq,osq⟩,hw''⟩:=hw'
            subst hw''
            go_wp2
            go_ret
            exact ⟨ret_bool hn.out.symm,B1.out.trans ((B3.out.trans ((below_regrown w3 dq osq).mono B3.out.size)).mono B1.out.size)⟩
        · have hpos : (0:Int) < (k:Int):=by omega
          have hposN:0 < k:=by omega
          have hd1:decide (0 < k)=true:=by simp;omega
          have hix:((k:Int) - 1).toNat=k - 1:=by omega
          have hix1:(0:Int)<=(k:Int) - 1:=by omega
          have hix2:(k:Int) - 1 < (ns.length:Int):=by omega
          have gp:=cell_regrown (HP.out hposN)
          rw [HU.out hposN] at Hq
          generalize (ns[k - 1]'(by omega)).nm=pn at gp Hq
          clear HU HU0 HP hk1
          cases hless:Op.bytesLess pn.toList nm.toList
          · rw [hless,Bool.false_and,Bool.and_false,Bool.and_false] at Hq
            have hn:=hide (Hno.out Hq.out)
            clear Hno Hyes Hq
            go_wp2_with (first
              | (refine load_mid 75 _ rfl b0 (off+k * 20) rfl cs _ Hrg.out Tryz.underlying75 rfl IE.out (by rfl) ?_)
              | (refine wpList_store_mid rfl 75 _ _ rfl wr.heap.size 0 cs.toArray rfl rfl Hth.out (by simpa using IE.out) H1.out ?_;rw [Hw3.out])
              | fail)
            refine wp_region_quiet_below (by kernel_rfl) (by kernel_rfl) ?_
            (try dsimp only [List.append])
            (try simp only [Act.put])
            iterate 22 (go_big_quiet_step (first | (go_at_call 32;exact HC3.out _ _) | (go_at_call 120;exact HO3.out _ _) | (go_at_call 121;exact HR3.out _ _)))
            (first | go_big_quiet_skip | (refine quiet_load_mid 75 _ rfl wr.heap.size (0) rfl cs _ RJ.out Tryz.underlying75 rfl IE.out (by rfl) ?_;change wpQuiet _ _ _ _ _ (Act.put _ (some 39) _);simp only [Act.put,List.setIfInBounds_toArray,List.set_cons_zero,List.set_cons_succ]))
            iterate 4 (go_big_quiet_step (first | (go_at_call 32;exact HC3.out _ _) | (go_at_call 120;exact HO3.out _ _) | (go_at_call 121;exact HR3.out _ _)))
            (first | go_big_quiet_skip | (refine quiet_load_mid 36 _ rfl w.heap.size (0) rfl cw _ RW.out Tryz.underlying36 rfl IW.out (by rfl) ?_;change wpQuiet _ _ _ _ _ (Act.put _ (some 44) _);simp only [Act.put,List.setIfInBounds_toArray,List.set_cons_zero,List.set_cons_succ]))
            iterate 5 (go_big_quiet_step (first | (go_at_call 32;exact HC3.out _ _) | (go_at_call 120;exact HO3.out _ _) | (go_at_call 121;exact HR3.out _ _)))
            refine wpQuiet_nil ?_
            intro _ hw'
            obtain ⟨⟨dq,osq⟩,hw''⟩:=hw'
            subst hw''
            go_wp2
            go_ret
            exact ⟨ret_bool hn.out.symm,B1.out.trans ((B3.out.trans ((below_regrown w3 dq osq).mono B3.out.size)).mono B1.out.size)⟩
          · rw [hless,Bool.true_and] at Hq
            have Hq2:Hid (Y=(G && (!C && H))):=Hq
            have Hq:Hid (Y=(!C && (G && H))):=hide (by rw [Hq2.out];cases G <;> cases C <;> rfl)
            clear Hq2
            cases C
            · rw [Bool.not_false,Bool.true_and] at Hq
              cases G
              · rw [Bool.false_and] at Hq
                have hn:=hide (Hno.out Hq.out)
                clear Hno Hyes Hq
                go_wp2_with (first
                  | (refine load_mid 75 _ rfl b0 (off+k * 20) rfl cs _ Hrg.out Tryz.underlying75 rfl IE.out (by rfl) ?_)
                  | (refine wpList_store_mid rfl 75 _ _ rfl wr.heap.size 0 cs.toArray rfl rfl Hth.out (by simpa using IE.out) H1.out ?_;rw [Hw3.out])
                  | fail)
                refine wp_region_quiet_below (by kernel_rfl) (by kernel_rfl) ?_
                (try dsimp only [List.append])
                (try simp only [Act.put])
                iterate 22 (go_big_quiet_step (first | (go_at_call 32;exact HC3.out _ _) | (go_at_call 120;exact HO3.out _ _) | (go_at_call 121;exact HR3.out _ _)))
                (first | go_big_quiet_skip | (refine quiet_load_mid 75 _ rfl wr.heap.size (0) rfl cs _ RJ.out Tryz.underlying75 rfl IE.out (by rfl) ?_;change wpQuiet _ _ _ _ _ (Act.put _ (some 39) _);simp only [Act.put,List.setIfInBounds_toArray,List.set_cons_zero,List.set_cons_succ]))
                iterate 4 (go_big_quiet_step (first | (go_at_call 32;exact HC3.out _ _) | (go_at_call 120;exact HO3.out _ _) | (go_at_call 121;exact HR3.out _ _)))
                (first | go_big_quiet_skip | (refine quiet_load_mid 36 _ rfl w.heap.size (0) rfl cw _ RW.out Tryz.underlying36 rfl IW.out (by rfl) ?_;change wpQuiet _ _ _ _ _ (Act.put _ (some 44) _);simp only [Act.put,List.setIfInBounds_toArray,List.set_cons_zero,List.set_cons_succ]))
                iterate 5 (go_big_quiet_step (first | (go_at_call 32;exact HC3.out _ _) | (go_at_call 120;exact HO3.out _ _) | (go_at_call 121;exact HR3.out _ _)))
                refine wpQuiet_nil ?_
                intro _ hw'
                obtain ⟨⟨dq,osq⟩,hw''⟩:=hw'
                subst hw''
                go_wp2
                go_ret
                exact ⟨ret_bool hn.out.symm,B1.out.trans ((B3.out.trans ((below_regrown w3 dq osq).mono B3.out.size)).mono B1.out.size)⟩
              · rw [Bool.true_and] at Hq
                cases H
                · have hn:=hide (Hno.out Hq.out)
                  clear Hno Hyes Hq
                  go_wp2_with (first
                    | (refine load_mid 75 _ rfl b0 (off+k * 20) rfl cs _ Hrg.out Tryz.underlying75 rfl IE.out (by rfl) ?_)
                    | (refine wpList_store_mid rfl 75 _ _ rfl wr.heap.size 0 cs.toArray rfl rfl Hth.out (by simpa using IE.out) H1.out ?_;rw [Hw3.out])
                    | fail)
                  refine wp_region_quiet_below (by kernel_rfl) (by kernel_rfl) ?_
                  (try dsimp only [List.append])
                  (try simp only [Act.put])
                  iterate 22 (go_big_quiet_step (first | (go_at_call 32;exact HC3.out _ _) | (go_at_call 120;exact HO3.out _ _) | (go_at_call 121;exact HR3.out _ _)))
                  (first | go_big_quiet_skip | (refine quiet_load_mid 75 _ rfl wr.heap.size (0) rfl cs _ RJ.out Tryz.underlying75 rfl IE.out (by rfl) ?_;change wpQuiet _ _ _ _ _ (Act.put _ (some 39) _);simp only [Act.put,List.setIfInBounds_toArray,List.set_cons_zero,List.set_cons_succ]))
                  iterate 4 (go_big_quiet_step (first | (go_at_call 32;exact HC3.out _ _) | (go_at_call 120;exact HO3.out _ _) | (go_at_call 121;exact HR3.out _ _)))
                  (first | go_big_quiet_skip | (refine quiet_load_mid 36 _ rfl w.heap.size (0) rfl cw _ RW.out Tryz.underlying36 rfl IW.out (by rfl) ?_;change wpQuiet _ _ _ _ _ (Act.put _ (some 44) _);simp only [Act.put,List.setIfInBounds_toArray,List.set_cons_zero,List.set_cons_succ]))
                  iterate 5 (go_big_quiet_step (first | (go_at_call 32;exact HC3.out _ _) | (go_at_call 120;exact HO3.out _ _) | (go_at_call 121;exact HR3.out _ _)))
                  refine wpQuiet_nil ?_
                  intro _ hw'
                  obtain ⟨⟨dq,osq⟩,hw''⟩:=hw'
                  subst hw''
                  go_wp2
                  go_ret
                  exact ⟨ret_bool hn.out.symm,B1.out.trans ((B3.out.trans ((below_regrown w3 dq osq).mono B3.out.size)).mono B1.out.size)⟩
                · have Hy:=hide (Hyes.out Hq.out)
                  clear Hno Hyes Hq
                  go_wp2_with (first
                    | (refine load_mid 75 _ rfl b0 (off+k * 20) rfl cs _ Hrg.out Tryz.underlying75 rfl IE.out (by rfl) ?_)
                    | (refine wpList_store_mid rfl 75 _ _ rfl wr.heap.size 0 cs.toArray rfl rfl Hth.out (by simpa using IE.out) H1.out ?_;rw [Hw3.out])
                    | fail)
                  refine wp_region_quiet_below (by kernel_rfl) (by kernel_rfl) ?_
                  (try dsimp only [List.append])
                  (try simp only [Act.put])
                  iterate 22 (go_big_quiet_step (first | (go_at_call 32;exact HC3.out _ _) | (go_at_call 120;exact HO3.out _ _) | (go_at_call 121;exact HR3.out _ _)))
                  (first | go_big_quiet_skip | (refine quiet_load_mid 75 _ rfl wr.heap.size (0) rfl cs _ RJ.out Tryz.underlying75 rfl IE.out (by rfl) ?_;change wpQuiet _ _ _ _ _ (Act.put _ (some 39) _);simp only [Act.put,List.setIfInBounds_toArray,List.set_cons_zero,List.set_cons_succ]))
                  iterate 4 (go_big_quiet_step (first | (go_at_call 32;exact HC3.out _ _) | (go_at_call 120;exact HO3.out _ _) | (go_at_call 121;exact HR3.out _ _)))
                  (first | go_big_quiet_skip | (refine quiet_load_mid 36 _ rfl w.heap.size (0) rfl cw _ RW.out Tryz.underlying36 rfl IW.out (by rfl) ?_;change wpQuiet _ _ _ _ _ (Act.put _ (some 44) _);simp only [Act.put,List.setIfInBounds_toArray,List.set_cons_zero,List.set_cons_succ]))
                  iterate 5 (go_big_quiet_step (first | (go_at_call 32;exact HC3.out _ _) | (go_at_call 120;exact HO3.out _ _) | (go_at_call 121;exact HR3.out _ _)))
                  refine wpQuiet_nil ?_
                  intro _ hw'
                  obtain ⟨⟨dq,osq⟩,hw''⟩:=hw'
                  subst hw''
                  go_wp2
                  go_roundw
                  case rel=>exact ⟨k+1,by omega,by go_num,Hy.out,B3.out.trans ((below_regrown w3 dq osq).mono B3.out.size)⟩
                  case measure=>simp [intOf];omega
            · rw [Bool.not_true,Bool.false_and] at Hq
              have hn:=hide (Hno.out Hq.out)
              clear Hno Hyes Hq
              go_wp2_with (first
                | (refine load_mid 75 _ rfl b0 (off+k * 20) rfl cs _ Hrg.out Tryz.underlying75 rfl IE.out (by rfl) ?_)
                | (refine wpList_store_mid rfl 75 _ _ rfl wr.heap.size 0 cs.toArray rfl rfl Hth.out (by simpa using IE.out) H1.out ?_;rw [Hw3.out])
                | fail)
              refine wp_region_quiet_below (by kernel_rfl) (by kernel_rfl) ?_
              (try dsimp only [List.append])
              (try simp only [Act.put])
              iterate 22 (go_big_quiet_step (first | (go_at_call 32;exact HC3.out _ _) | (go_at_call 120;exact HO3.out _ _) | (go_at_call 121;exact HR3.out _ _)))
              (first | go_big_quiet_skip | (refine quiet_load_mid 75 _ rfl wr.heap.size (0) rfl cs _ RJ.out Tryz.underlying75 rfl IE.out (by rfl) ?_;change wpQuiet _ _ _ _ _ (Act.put _ (some 39) _);simp only [Act.put,List.setIfInBounds_toArray,List.set_cons_zero,List.set_cons_succ]))
              iterate 4 (go_big_quiet_step (first | (go_at_call 32;exact HC3.out _ _) | (go_at_call 120;exact HO3.out _ _) | (go_at_call 121;exact HR3.out _ _)))
              (first | go_big_quiet_skip | (refine quiet_load_mid 36 _ rfl w.heap.size (0) rfl cw _ RW.out Tryz.underlying36 rfl IW.out (by rfl) ?_;change wpQuiet _ _ _ _ _ (Act.put _ (some 44) _);simp only [Act.put,List.setIfInBounds_toArray,List.set_cons_zero,List.set_cons_succ]))
              iterate 5 (go_big_quiet_step (first | (go_at_call 32;exact HC3.out _ _) | (go_at_call 120;exact HO3.out _ _) | (go_at_call 121;exact HR3.out _ _)))
              refine wpQuiet_nil ?_
              intro _ hw'
              obtain ⟨⟨dq,osq⟩,hw''⟩:=hw'
              subst hw''
              go_wp2
              go_ret
              exact ⟨ret_bool hn.out.symm,B1.out.trans ((B3.out.trans ((below_regrown w3 dq osq).mono B3.out.size)).mono B1.out.size)⟩
      · have hf:=hide (show X=true from by rw [HX.out];exact rangeW_yes (fun j hj=>Hlo.out j (by omega)))
        go_wp2
        go_ret
        exact ⟨ret_bool hf.out.symm,B1.out.trans (hb.mono B1.out.size)⟩
  · rw [decide_eq_false h0,Bool.false_and] at HX
    have h0i:(12:Int) < (ns.length:Int):=by omega
    go_wp2
    go_ret
    exact ⟨ret_bool HX.out.symm,B1.out⟩
end Go.Proofs.YtckahjabljffjaaGreat
namespace Go.Proofs.YtckahjabljffjaaGreat
open Go.RowKit Go.Sort
set_option linter.unusedVariables false
theorem implWorldOk_any (p:Wd) (u:Wv) (w:World) (hr:RdWd w p u) (hf:FewWd p) (hg:FitWd p) :
    Calls Tryz.prog 21 #[wdV p u] w fun en w'=>en=.returned (.bool (wdB p))/\Below w.heap.size w w':=by
  have HX:Hid (wdB p=(lgB p.ep p.la && (nmsB p.fo && (blocksB p.bs && (nodesB p.fo p.bs p.ns && netB p.bs p.ns p.ms))))):=hide rfl
  generalize wdB p=X at HX ⊢
  obtain ⟨ep,la,fo,ns,bs,sg,ms⟩:=p
  obtain ⟨ya,yf,yn,yb,ys,ym⟩:=u
  obtain ⟨hya,hyf,hyn,hyb,hys,hym⟩:=hr
  simp only at *
  obtain ⟨ada,cpa,rfl⟩:=hya.shape
  obtain ⟨adf,cpf,rfl⟩:=hyf.shape
  obtain ⟨adn,cpn,rfl⟩:=hyn.shape
  obtain ⟨adb,cpb,rfl⟩:=hyb.shape
  obtain ⟨ads,cps,rfl⟩:=hys.shape
  obtain ⟨adm,cpm,rfl⟩:=hym.shape
  simp only [wdV]
  have Q:Wq w adf adn adb adm cpf cpn cpb cpm fo ns bs ms:=⟨hyf,hyn,hyb,hym,hf.nf,hf.nn,hf.nb,hf.nm,hg.gf,hf.fn,hg.gn,hf.fb,hg.gb,hf.fm,hg.gm⟩
  obtain ⟨w1,hw1⟩:∃ x,w.alloc (.cells #[.int .i64 ep,.slice ada la.length cpa,.slice adf fo.length cpf,.slice adn ns.length cpn,.slice adb bs.length cpb,.slice ads sg.length cps,.slice adm ms.length cpm] 36)=x:=⟨_,rfl⟩
  have B1:Below w.heap.size w w1:=by rw [<- hw1];exact (Below.refl _ w).alloc (Nat.le_refl _) _
  have K1:=hide (show Blk w1 w.heap.size 36 [.int .i64 ep,.slice ada la.length cpa,.slice adf fo.length cpf,.slice adn ns.length cpn,.slice adb bs.length cpb,.slice ads sg.length cps,.slice adm ms.length cpm] from by rw [<- hw1];exact Blk.new w _ _)
  have IW:=hide (show (Tryz.prog.info? 36).map (·.size)=some ([.int .i64 ep,.slice ada la.length cpa,.slice adf fo.length cpf,.slice adn ns.length cpn,.slice adb bs.length cpb,.slice ads sg.length cps,.slice adm ms.length cpm]:List Value).length from infoWd7)
  have HL:=hide (fun V (hV:Below w.heap.size w V)=>implLedgerOk_any ep (.slice ada la.length cpa) la V (hya.below hV (Nat.le_refl _)) hf.na (fun a ha=>⟨(hg.ga a ha).1,hf.fa a ha⟩))
  have HM:=hide (fun V (hV:Below w.heap.size w V)=>implNamesOk_any (.slice adf fo.length cpf) fo V (Q.f.below hV (Nat.le_refl _)) Q.lf Q.zf)
  have HB:=hide (fun V (hV:Below w.heap.size w V)=>implBlocksOk_any ep (.slice ada la.length cpa) (.slice ads sg.length cps) adf adn adb adm cpf cpn cpb cpm fo ns bs ms V (Q.below hV (Nat.le_refl _)))
  have HN:=hide (fun V (hV:Below w.heap.size w V)=>implNodesOk_any ep (.slice ada la.length cpa) (.slice ads sg.length cps) adf adn adb adm cpf cpn cpb cpm fo ns bs ms V (Q.below hV (Nat.le_refl _)))
  have HW:=hide (fun V (hV:Below w.heap.size w V)=>implNetOk_any ep (.slice ada la.length cpa) (.slice ads sg.length cps) adf adn adb adm cpf cpn cpb cpm fo ns bs ms V (Q.below hV (Nat.le_refl _)))
  have k1:=K1.out
  have x0:=k1.cell 0
  have x1:=k1.cell 1
  simp only [List.getElem?_cons_zero,List.getElem?_cons_succ] at x0 x1
  have hx2:([.int .i64 ep,.slice ada la.length cpa,.slice adf fo.length cpf,.slice adn ns.length cpn,.slice adb bs.length cpb,.slice ads sg.length cps,.slice adm ms.length cpm]:List Value)[2]?=some (.slice adf fo.length cpf):=rfl
  simp only [lgV] at HL
  clear Q hya hyf hyn hyb hys hym hf hg k1
  generalize lgB ep la=L0 at HX HL
  generalize nmsB fo=M0 at HX HM
  generalize blocksB bs=B0 at HX HB
  generalize nodesB fo bs ns=N0 at HX HN
  generalize netB bs ns ms=W0 at HX HW
  obtain ⟨cw,hcw⟩:∃ x,([.int .i64 ep,.slice ada la.length cpa,.slice adf fo.length cpf,.slice adn ns.length cpn,.slice adb bs.length cpb,.slice ads sg.length cps,.slice adm ms.length cpm]:List Value)=x:=⟨_,rfl⟩
  have hcw2:(.agg #[.int .i64 ep,.slice ada la.length cpa,.slice adf fo.length cpf,.slice adn ns.length cpn,.slice adb bs.length cpb,.slice ads sg.length cps,.slice adm ms.length cpm]:Value)=.agg cw.toArray:=by rw [<- hcw]
  rw [hcw] at K1 IW hx2
  rw [hcw2] at HB HN HW ⊢
  rw [show (w.alloc (.cells #[.int .i64 ep,.slice ada la.length cpa,.slice adf fo.length cpf,.slice adn ns.length cpn,.slice adb bs.length cpb,.slice ads sg.length cps,.slice adm ms.length cpm] 36))=w.alloc (.cells cw.toArray 36) from by rw [<- hcw]] at hw1
  clear hcw hcw2
  have RW:=hide (fun V (hV:Below w1.heap.size w1 V)=>range_below (blk_range K1.out) hV K1.out.lt)
  have HY:=hide (fun V (hV:Below w1.heap.size w1 V)=>(show V.cell? ⟨w.heap.size,2,none⟩=some (.slice adf fo.length cpf) from by
    have a:=RW.out V hV 2 _ hx2
    rwa [Nat.zero_add] at a))
  clear K1 hx2
  go_enter Tryz.func21,Tryz.ntmps21
  go_upto_region 1 with fail
  (try rw [hw1])
  clear hw1
  cases L0
  · rw [Bool.false_and] at HX
    go_wp2_with (first
      | (go_at_call 29;(with_reducible refine (HL.out _ B1).mono ?_);rintro e w2 ⟨rfl,hb2⟩;have B2:=B1.trans (hb2.mono B1.size);have D2:=hb2;have R2:=hide (RW.out w2 D2);have y2:=HY.out w2 D2)
      | fail)
    go_ret
    exact ⟨ret_bool HX.out.symm,B2⟩
  · rw [Bool.true_and] at HX
    cases M0
    · rw [Bool.false_and] at HX
      go_wp2_with (first
        | (go_at_call 30;(with_reducible refine (HM.out _ B2).mono ?_);rintro e w2 ⟨rfl,rfl⟩)
        | (go_at_call 29;(with_reducible refine (HL.out _ B1).mono ?_);rintro e w2 ⟨rfl,hb2⟩;have B2:=B1.trans (hb2.mono B1.size);have D2:=hb2;have R2:=hide (RW.out w2 D2);have y2:=HY.out w2 D2)
        | fail)
      go_ret
      exact ⟨ret_bool HX.out.symm,B2⟩
    · rw [Bool.true_and] at HX
      cases B0
      · rw [Bool.false_and] at HX
        go_wp2_with (first
          | (go_at_call 64;(with_reducible refine (HB.out _ B2).mono ?_);rintro e w3 ⟨rfl,hb3⟩;have B3:=B2.trans (hb3.mono B2.size);have D3:=D2.trans (hb3.mono D2.size);have R3:=hide (RW.out w3 D3))
          | (refine load_mid 36 _ rfl w.heap.size (0) rfl cw _ R2.out Tryz.underlying36 rfl IW.out (by rfl) ?_)
          | (go_at_call 30;(with_reducible refine (HM.out _ B2).mono ?_);rintro e w2 ⟨rfl,rfl⟩)
          | (go_at_call 29;(with_reducible refine (HL.out _ B1).mono ?_);rintro e w2 ⟨rfl,hb2⟩;have B2:=B1.trans (hb2.mono B1.size);have D2:=hb2;have R2:=hide (RW.out w2 D2);have y2:=HY.out w2 D2)
          | fail)
        go_ret
        exact ⟨ret_bool HX.out.symm,B3⟩
      · rw [Bool.true_and] at HX
        cases N0
        · rw [Bool.false_and] at HX
          go_wp2_with (first
            | (go_at_call 65;(with_reducible refine (HN.out _ B3).mono ?_);rintro e w4 ⟨rfl,hb4⟩;have B4:=B3.trans (hb4.mono B3.size);have D4:=D3.trans (hb4.mono D3.size);have R4:=hide (RW.out w4 D4))
            | (refine load_mid 36 _ rfl w.heap.size (0) rfl cw _ R3.out Tryz.underlying36 rfl IW.out (by rfl) ?_)
            | (go_at_call 64;(with_reducible refine (HB.out _ B2).mono ?_);rintro e w3 ⟨rfl,hb3⟩;have B3:=B2.trans (hb3.mono B2.size);have D3:=D2.trans (hb3.mono D2.size);have R3:=hide (RW.out w3 D3))
            | (refine load_mid 36 _ rfl w.heap.size (0) rfl cw _ R2.out Tryz.underlying36 rfl IW.out (by rfl) ?_)
            | (go_at_call 30;(with_reducible refine (HM.out _ B2).mono ?_);rintro e w2 ⟨rfl,rfl⟩)
            | (go_at_call 29;(with_reducible refine (HL.out _ B1).mono ?_);rintro e w2 ⟨rfl,hb2⟩;have B2:=B1.trans (hb2.mono B1.size);have D2:=hb2;have R2:=hide (RW.out w2 D2);have y2:=HY.out w2 D2)
            | fail)
          go_ret
          exact ⟨ret_bool HX.out.symm,B4⟩
        · rw [Bool.true_and] at HX
          go_wp2_with (first
            | (go_at_call 66;(with_reducible refine (HW.out _ B4).mono ?_);rintro e w5 ⟨rfl,hb5⟩;have B5:=B4.trans (hb5.mono B4.size);have D5:=D4.trans (hb5.mono D4.size);have R5:=hide (RW.out w5 D5))
            | (refine load_mid 36 _ rfl w.heap.size (0) rfl cw _ R4.out Tryz.underlying36 rfl IW.out (by rfl) ?_)
            | (go_at_call 65;(with_reducible refine (HN.out _ B3).mono ?_);rintro e w4 ⟨rfl,hb4⟩;have B4:=B3.trans (hb4.mono B3.size);have D4:=D3.trans (hb4.mono D3.size);have R4:=hide (RW.out w4 D4))
            | (refine load_mid 36 _ rfl w.heap.size (0) rfl cw _ R3.out Tryz.underlying36 rfl IW.out (by rfl) ?_)
            | (go_at_call 64;(with_reducible refine (HB.out _ B2).mono ?_);rintro e w3 ⟨rfl,hb3⟩;have B3:=B2.trans (hb3.mono B2.size);have D3:=D2.trans (hb3.mono D2.size);have R3:=hide (RW.out w3 D3))
            | (refine load_mid 36 _ rfl w.heap.size (0) rfl cw _ R2.out Tryz.underlying36 rfl IW.out (by rfl) ?_)
            | (go_at_call 30;(with_reducible refine (HM.out _ B2).mono ?_);rintro e w2 ⟨rfl,rfl⟩)
            | (go_at_call 29;(with_reducible refine (HL.out _ B1).mono ?_);rintro e w2 ⟨rfl,hb2⟩;have B2:=B1.trans (hb2.mono B1.size);have D2:=hb2;have R2:=hide (RW.out w2 D2);have y2:=HY.out w2 D2)
            | fail)
          go_ret
          exact ⟨ret_bool HX.out.symm,B5⟩
end Go.Proofs.YtckahjabljffjaaGreat
namespace Go.Proofs.YtckahjabljffjaaGreat
open Go.ChangeShapes Go.WideShapes Go.ChangeAt Go.RowKit
open Go.ChangeMaps (open_string shut_string)
set_option linter.unusedVariables false
theorem fnExactWorldOk_own:ownKnob Tryz.prog.godebug=none:=by kernel_rfl
theorem fnExactWorldOk_laidOut:laidOutB Tryz.prog=true:=by kernel_rfl
theorem wdC_one {w:World} {p:Wd} {u:Wv} (h:RdWd w p u):(wdC p u).all (·.oneCell')=true:=by
  obtain ⟨ada,cpa,eqa⟩:=h.ka.shape
  obtain ⟨adf,cpf,eqf⟩:=h.kf.shape
  obtain ⟨adn,cpn,eqn⟩:=h.kn.shape
  obtain ⟨adb,cpb,eqb⟩:=h.kb.shape
  obtain ⟨ads,cps,eqs⟩:=h.ks.shape
  obtain ⟨adm,cpm,eqm⟩:=h.km.shape
  simp [wdC,Value.oneCell',eqa,eqf,eqn,eqb,eqs,eqm]
theorem Tryz.infoAWd:(Tryz.prog.info? 51).map (·.size)=some 7:=by kernel_rfl
theorem Tryz.infoBWd:(Tryz.prog.info? 36).map (·.size)=some 7:=by kernel_rfl
theorem fnExactWorldOk_walk (z0:Wd) (y0:Wv) (w:World) (w0:RdWd w z0 y0/\FitWd z0) :
    Calls Tryz.prog 4 #[wdV z0 y0] w fun e w'=>e=.returned (.bool true)/\Below w.heap.size w w':=by
  obtain ⟨hr,hft⟩:=w0
  obtain ⟨w1,hw1⟩:∃ x,w.alloc (.cells (wdC z0 y0).toArray 51)=x:=⟨_,rfl⟩
  have b1:Below w.heap.size w w1:=by rw [<- hw1];exact (Below.refl _ w).alloc (Nat.le_refl _) _
  have K1:=hide (show Blk w1 w.heap.size 51 (wdC z0 y0) from by rw [<- hw1];exact Blk.new w _ _)
  have Hz:=hide (szWorld_any z0 y0 1048576 w1 (hr.below b1 (Nat.le_refl _)) (by omega) hft)
  have HT:=hide (fun (hf:FewWd z0) V (hV:Below w.heap.size w V)=>toWorld_any z0 y0 V (hr.below hV (Nat.le_refl _)) hf)
  have HS:=hide (fun (hf:FewWd z0) u V (h:RdWd V z0 u)=>specWorldOk_any z0 u V h hf hft)
  have HI:=hide (fun (hf:FewWd z0) u V (h:RdWd V z0 u)=>implWorldOk_any z0 u V h hf hft)
  have HE:=hide (fun (hf:FewWd z0) u t V (h1:RdWd V z0 u) (h2:RdWd V z0 t)=>eqWorld_same z0 u t V h1 h2 hf)
  have I1:=hide (show (Tryz.prog.info? 51).map (·.size)=some (wdC z0 y0).length from Tryz.infoAWd)
  have L1:=hide (show (wdC z0 y0).length=7 from rfl)
  have B1:=hide b1
  rw [show wdV z0 y0=.agg (wdC z0 y0).toArray from rfl] at Hz HT ⊢
  generalize wdB z0=X at HS HI
  clear hr hft b1
  generalize wdC z0 y0=cs at K1 Hz HT I1 L1 hw1 ⊢
  have R1:=hide (blk_range K1.out)
  go_enter Tryz.func4,Tryz.ntmps4
  go_upto_region 2 with fail
  (try rw [hw1])
  clear hw1
  go_wp2_with (first
    | (refine wpList_load_mid rfl 51 _ rfl w.heap.size 0 rfl cs _ R1.out Tryz.underlying51 rfl I1.out ?_)
    | fail)
  refine Hz.out.mono ?_
  rintro e w2 ⟨r,rfl,hfit,hb2⟩
  have B2:=hide (B1.out.trans (hb2.mono B1.out.size))
  have K2:=hide (K1.out.below hb2 K1.out.lt)
  have Hfit:=hide hfit
  clear hb2 hfit Hz R1
  by_cases hneg:r < 0
  · clear Hfit HT HS HI HE
    go_wp2
    go_ret
    exact ⟨rfl,B2.out⟩
  · obtain ⟨hfew,-⟩:=Hfit.out (by omega)
    have HT:=hide (HT.out hfew)
    have HS:=hide (HS.out hfew)
    have HI:=hide (HI.out hfew)
    have HE:=hide (HE.out hfew)
    have R2:=hide (blk_range K2.out)
    clear Hfit hfew
    go_wp2_with (first
      | (refine wpList_load_mid rfl 51 _ rfl w.heap.size 0 rfl cs _ R2.out Tryz.underlying51 rfl I1.out ?_)
      | fail)
    refine (HT.out w2 B2.out).mono ?_
    rintro e w3 ⟨u3,rfl,o3,hb3⟩
    have B3:=hide (B2.out.trans (hb3.mono B2.out.size))
    have K3:=hide (K2.out.below hb3 K2.out.lt)
    have C3:=hide (HS.out u3 w3 o3.rd)
    rw [show wdV z0 u3=.agg (wdC z0 u3).toArray from rfl] at C3 ⊢
    generalize wdC z0 u3=c3 at C3 ⊢
    clear hb3 o3 R2
    go_wp2_with fail
    refine C3.out.mono ?_
    rintro e w4 ⟨rfl,hb4⟩
    have B4:=hide (B3.out.trans (hb4.mono B3.out.size))
    have K4:=hide (K3.out.below hb4 K3.out.lt)
    have R4:=hide (blk_range K4.out)
    clear hb4 C3
    go_wp2_with (first
      | (refine wpList_load_mid rfl 51 _ rfl w.heap.size 0 rfl cs _ R4.out Tryz.underlying51 rfl I1.out ?_)
      | fail)
    refine (HT.out w4 B4.out).mono ?_
    rintro e w5 ⟨u5,rfl,o5,hb5⟩
    have B5:=B4.out.trans (hb5.mono B4.out.size)
    have K5:=K4.out.below hb5 K4.out.lt
    have z5:=K5.lt
    have bz:Blk (w5.alloc (.cells #[.int .i64 0,.slice none 0 0,.slice none 0 0,.slice none 0 0,.slice none 0 0,.slice none 0 0,.slice none 0 0] 36)) w5.heap.size 36 [.int .i64 0,.slice none 0 0,.slice none 0 0,.slice none 0 0,.slice none 0 0,.slice none 0 0,.slice none 0 0]:=Blk.new w5 _ _
    have H1:=hide (show (wdC z0 u5).toArray.all (·.oneCell')=true from by rw [List.all_toArray];exact wdC_one o5.rd)
    have I5:=hide (show (Tryz.prog.info? 36).map (·.size)=some (wdC z0 u5).length from Tryz.infoBWd)
    have Hth:=hide (show (w5.alloc (.cells #[.int .i64 0,.slice none 0 0,.slice none 0 0,.slice none 0 0,.slice none 0 0,.slice none 0 0,.slice none 0 0] 36)).there w5.heap.size 0 (wdC z0 u5).toArray.size from bz.there rfl)
    obtain ⟨w6,hw6⟩:∃ x,(w5.alloc (.cells #[.int .i64 0,.slice none 0 0,.slice none 0 0,.slice none 0 0,.slice none 0 0,.slice none 0 0,.slice none 0 0] 36)).setCells w5.heap.size 0 (wdC z0 u5)=x:=⟨_,rfl⟩
    have J6:=hide (show Blk w6 w5.heap.size 36 (wdC z0 u5) from by rw [<- hw6];exact blk_all bz rfl)
    have b6:Below w5.heap.size w5 w6:=by rw [<- hw6];exact ((Below.refl _ w5).alloc (Nat.le_refl _) _).trans (putC_below (Nat.le_refl _) _ _ _)
    have B6:=hide (B5.trans (b6.mono B5.size))
    have K6:=hide (K5.below b6 K5.lt)
    have N6:=hide (o5.rd.below b6 (Nat.le_refl _))
    have C6:=hide (HI.out u5 w6 N6.out)
    rw [show wdV z0 u5=.agg (wdC z0 u5).toArray from rfl] at C6 ⊢
    have HE5:=hide (fun t V (h1:RdWd V z0 u5) (h2:RdWd V z0 t)=>HE.out u5 t V h1 h2)
    rw [show wdV z0 u5=.agg (wdC z0 u5).toArray from rfl] at HE5
    generalize wdC z0 u5=c5 at C6 H1 I5 Hth hw6 J6 HE5 ⊢
    have R6:=hide (blk_range J6.out)
    have Hw6:=hide hw6
    clear o5 hb5 B5 K5 bz b6 hw6 R4 HE HS HI
    go_wp2_with (first
      | (refine wpList_load_mid rfl 36 _ rfl w5.heap.size 0 rfl c5 _ R6.out Tryz.underlying36 rfl I5.out ?_)
      | (refine wpList_store_mid rfl 36 _ _ rfl w5.heap.size 0 c5.toArray rfl rfl Hth.out (by simpa using I5.out) H1.out ?_;rw [Hw6.out])
      | fail)
    refine C6.out.mono ?_
    rintro e w7 ⟨rfl,hb7⟩
    have B7:=hide (B6.out.trans (hb7.mono B6.out.size))
    have N7:=hide (N6.out.below hb7 (Nat.le_refl _))
    have z7:=hb7.size
    have HSS:Hid (∀ V,Below w7.heap.size w7 V->(V.rangeAt w5.heap.size 0 c5/\V.rangeAt w.heap.size 0 cs)):=hide (fun V hV=>⟨range_below (range_below R6.out hb7 J6.out.lt) hV (by have:=J6.out.lt;omega),range_below (range_below (blk_range K6.out) hb7 K6.out.lt) hV (by have:=K6.out.lt;omega)⟩)
    have hxx:(X != X)=false:=by cases X <;> rfl
    have bD:Below w7.heap.size w7 w7.drew:=(Below.refl _ w7).drew
    have hS0:=HSS.out _ bD
    clear hb7 C6 z7 z5
    go_wp2
    refine wp_region_held_drew (S:=fun W=>W.rangeAt w5.heap.size 0 c5/\W.rangeAt w.heap.size 0 cs) (by kernel_rfl) hS0 (fun hHeld=>?_)
    refine wpAnyH_take (i:=0) (v:=.agg c5.toArray) rfl (by kernel_rfl) (by kernel_rfl) (by kernel_rfl) (fun _ _ _ h=>h) (yieldsIf_load_mid (by rfl) 36 _ rfl w5.heap.size 0 rfl c5 _ (fun W hW=>hW.1) Tryz.underlying36 rfl I5.out) (by assumption) ?_
    change wpAnyH Tryz.prog _ _ _ _ _ _ (Act.put _ (some 22) _) _
    simp only [Act.put,List.setIfInBounds_toArray,List.set_cons_zero,List.set_cons_succ]
    refine wpAnyH_take (i:=1) (v:=.agg cs.toArray) rfl (by kernel_rfl) (by kernel_rfl) (by kernel_rfl) (fun _ _ _ h=>h) (yieldsIf_load_mid (by rfl) 51 _ rfl w.heap.size 0 rfl cs _ (fun W hW=>hW.2) Tryz.underlying51 rfl I1.out) (by assumption) ?_
    change wpAnyH Tryz.prog _ _ _ _ _ _ (Act.put _ (some 23) _) _
    simp only [Act.put,List.setIfInBounds_toArray,List.set_cons_zero,List.set_cons_succ]
    refine wpAnyH_ready (rs:=[2]) (by kernel_rfl) (by simp) ?_
    refine AllReadyH.cons rfl (fun K hK=>?_) AllReadyH.nil
    go_simp
    go_wp2_with (go_at_call 20;(with_reducible refine (HT.out _ (B7.out.trans (bD.mono B7.out.size))).mono ?_);rintro e w8 ⟨u8,rfl,o8,hb8⟩;have c8:=bD.trans (hb8.mono bD.size);have hS8:=HSS.out _ c8;have r8:=o8.rd)
    refine hK.out _ _ hS8 (fun hHeld=>?_)
    try simp only [Act.put,List.setIfInBounds_toArray,List.set_cons_zero,List.set_cons_succ]
    refine wpAnyH_ready (rs:=[3]) (by kernel_rfl) (by simp) ?_
    refine AllReadyH.cons rfl (fun K hK=>?_) AllReadyH.nil
    go_simp
    go_wp2_with (go_at_call 11;(with_reducible refine (HE5.out _ _ (N7.out.below c8 (Nat.le_refl _)) r8).mono ?_);rintro e w9 ⟨rfl,hb9⟩;have c9:=c8.trans (hb9.mono c8.size);have hS9:=HSS.out _ c9)
    refine hK.out _ _ hS9 (fun hHeld=>?_)
    try simp only [Act.put,List.setIfInBounds_toArray,List.set_cons_zero,List.set_cons_succ]
    refine wpAnyH_take (i:=4) (v:=.bool false) rfl (by kernel_rfl) (by kernel_rfl) (by kernel_rfl) (fun _ _ _ h=>h) (Or.inl ⟨by rfl,fun W hW=>by go_simp⟩) (by assumption) ?_
    change wpAnyH Tryz.prog _ _ _ _ _ _ (Act.put _ (some 26) _) _
    simp only [Act.put,List.setIfInBounds_toArray,List.set_cons_zero,List.set_cons_succ]
    refine wpAnyH_done (by kernel_rfl) ?_ _
    have hB9:=B7.out.trans (c9.mono B7.out.size)
    clear hS0 hS8 hS9 o8 r8 hb8 hb9 c8 c9
    go_wp2
    go_ret
    exact ⟨rfl,hB9⟩
theorem fnExactWorldOk_lifted (os:Os) (started:os.Started) (H:Type) (enc:TypeId × Value->H) :
    ReturnsInHanded {} Tryz.checked os 4 .any (Rows.fnExactWorldOkSpec.pre6 enc Tryz.prog Tryz.f4 Rows.fnExactWorldOkRow.domain false) (Rows.fnExactWorldOkSpec.post enc Tryz.prog Tryz.f4 false true false false):=by
  refine returnsInHanded_of_change (C:=Tryz.checked) fnExactWorldOk_own started (by kernel_rfl) Tryz.func4
    (ChangeSpec.witness6 (enc:=enc) (C:=Tryz.checked) false ⟨#[],#[.agg #[.int .i64 0,.slice none 0 0,.slice none 0 0,.slice none 0 0,.slice none 0 0,.slice none 0 0,.slice none 0 0]],[]⟩ 8 (by kernel_rfl) (by kernel_rfl) (by kernel_rfl) (by kernel_rfl)) ?_
  intro W base args ds gs before hval0 hW hcnd _
  have hval:∀ (j:Nat) t v,Tryz.f4.params[j]?=some t->args[j]?=some v->Value.okWide Tryz.prog W .any base t v:=hval0
  have hW':=hW
  obtain ⟨p,q,hA0,hV,rfl,hfz,hnd⟩:=hW
  have hA:DataW.TrodAll enc Tryz.prog W 0 (fun _=>true) true Tryz.f4.params.toList args.toList ds p:=hA0
  rw [Tryz.params4] at hA hval
  obtain ⟨v0,vs0,d0,ds0,p0,q0,hargs,rfl,rfl,h0,r0⟩:=trodAll_cons hA
  obtain ⟨rfl,rfl,rfl⟩:=trodAll_nil r0
  obtain rfl:args=#[v0]:=by cases args;simp_all
  obtain ⟨rfl,rfl⟩:=trodVars_none hV
  have k0:=h0
  have lt0:∀ x ∈ p0,x.block < W.heap.size:=by obtain ⟨m,hm⟩:=k0;exact DataW.trod_lt m _ _ _ hm
  obtain ⟨z0,y0,rfl,w0⟩:∃ (m:Wd) (v:Wv),v0=wdV m v/\RdWd W m v/\FitWd m:=by
    obtain ⟨cs,rfl,hsz⟩:=okWide_struct Tryz.underlying51 (hval 0 51 _ rfl rfl)
    obtain ⟨fuel,hf⟩:=h0
    obtain ⟨m,v,q,rest⟩:=open_Wd (by simpa [Value.cells] using hf)
    exact ⟨m,v,by cases cs;simp at q;subst q;rfl,rest⟩
  clear hA0 hval0
  refine (fnExactWorldOk_walk z0 y0 W w0).mono fun e W' ⟨he,bel⟩=>?_
  subst he
  exact ⟨_,rfl,_,_,_,[],_,[],hW',trodAll_mk1 (shut_bool Tryz.underlying4 _),(trodAll_cons_mk (Below.trod fnExactWorldOk_laidOut (by kernel_rfl) (of_decide_eq_true (by kernel_rfl)) k0 bel lt0) trodAll_mk0),rfl,bel.frame _,fun h=>by cases h⟩
theorem fnExactWorldOk_holds:Rows.FnExactWorldOkSaid :=
  OpenClaim.holds_of_wide 4 Tryz.f4 rfl rfl rfl rfl rfl rfl rfl ⟨rfl,rfl,rfl,rfl,rfl⟩ rfl rfl rfl rfl rfl (by kernel_rfl) Tryz.func4 (by kernel_rfl)
    (of_decide_eq_true (by kernel_rfl)) (by unfold Func.isWrapper;first | (rw [if_pos (by decide +kernel)];kernel_rfl) | (rw [if_neg (by decide +kernel)];exact ⟨rfl,rfl⟩))
    (fun os started H enc _=>fnExactWorldOk_lifted os started H enc)
end Go.Proofs.YtckahjabljffjaaGreat
