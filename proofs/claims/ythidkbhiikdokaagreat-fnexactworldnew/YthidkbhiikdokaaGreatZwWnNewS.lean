/- WorldNew of the model. -/
import Derived.Test.YthidkbhiikdokaaGreatZwAppS
import Derived.Test.YthidkbhiikdokaaGreatZwLdMid
set_option maxRecDepth 20000
set_option maxHeartbeats 8000000
namespace Go.Proofs.YthidkbhiikdokaaGreat
open Go.RowKit
set_option linter.unusedVariables false
set_option linter.unusedSimpArgs false
theorem st7I {ops:Array Oper} {rest:List Oper} {op:Oper} {a:Act} {w:World} {Q:Exit->Act->World->Prop} (hgd:op.guard=none) (x y:Operand) (ho:op.op=.store 36 x y) (b:Nat) {u0 u1 u2 u3 u4 u5 u6:Value} (hx:a.eval x=.pointer (some ⟨b,0,none⟩)) (hy:a.eval y=.agg #[u0,u1,u2,u3,u4,u5,u6]) (ht:w.there b 0 7) (h1:([u0,u1,u2,u3,u4,u5,u6]:List Value).all (·.oneCell')=true) (h:wpList Tryz.prog ops Q rest (a.put op.dst undef) (w.setCells b 0 [u0,u1,u2,u3,u4,u5,u6])):wpList Tryz.prog ops Q (op :: rest) a w :=
  wpList_store_mid hgd 36 x y ho b 0 #[u0,u1,u2,u3,u4,u5,u6] hx hy ht (by kernel_rfl) (by rw [<- List.all_toArray] at h1;exact h1) h
theorem res_wnI {X:World} {a:Act} {R:Ending->World->Prop} {F:List Value} (g:Nat) (h:X.rangeAt g 0 F) (h4:a.tmps[4]?.getD undef=.pointer (some ⟨g,0,none⟩)) (hl:F.length=7) (hd:a.defers=[]) (hR:R (.returned (.agg F.toArray)) X):bodyPost Tryz.prog Tryz.f9 R .ret a X:=by
  have hl:=run_loadVar_mid (P:=Tryz.prog) X g 0 36 F _ h Tryz.underlying36 rfl (by rw [hl];exact Tryz.infoWn)
  refine bodyPost_ret (v:=.agg F.toArray) ?_ hd hR
  simp [results,Tryz.f9,h4,asAddr,hl]
theorem implWorldNew_any (e:Int) (v:Value) (l:List Ac) (fv:Value) (foul:List ByteArray) (w:World) (hr:RdA w v l) (hf:RdS w fv foul) (hl:l.length<=4000000) (hall:∀ a ∈ l,a.1.size<=maxLen/\a.2.2.2.2.length<=4000000) (hfl:foul.length<=4000000) (hfs:∀ s ∈ foul,s.size<=maxLen) :
    Calls Tryz.prog 9 #[lgV e v,fv] w fun en w'=>∃ u,en=.returned (wdV (wnW e l foul) u)/\OwnWd w.heap.size w'.heap.size w' (wnW e l foul) u/\Below w.heap.size w w':=by
  obtain ⟨av0,cv0,rfl⟩:=hr.shape
  obtain ⟨af0,cf0,rfl⟩:=hf.shape
  simp only [lgV]
  obtain ⟨w1,hw1⟩:∃ x,w.alloc (.cells #[.int .i64 e,.slice av0 l.length cv0] 30)=x:=⟨_,rfl⟩
  obtain ⟨w2,hw2⟩:∃ x,w1.alloc (.cells #[.int .i64 0,.slice none 0 0,.slice none 0 0,.slice none 0 0,.slice none 0 0,.slice none 0 0,.slice none 0 0] 36)=x:=⟨_,rfl⟩
  have b1:Below w.heap.size w w1:=by rw [<- hw1];exact (Below.refl _ w).alloc (Nat.le_refl _) _
  have b2:Below w1.heap.size w1 w2:=by rw [<- hw2];exact (Below.refl _ w1).alloc (Nat.le_refl _) _
  have s1:w1.heap.size=w.heap.size+1:=by rw [<- hw1];simp
  have s2:w2.heap.size=w.heap.size+2:=by rw [<- hw2];simp;omega
  have k1:Blk w1 w.heap.size 30 [.int .i64 e,.slice av0 l.length cv0]:=by rw [<- hw1];exact Blk.new w _ _
  have k2:Blk w2 (w.heap.size+1) 36 [.int .i64 0,.slice none 0 0,.slice none 0 0,.slice none 0 0,.slice none 0 0,.slice none 0 0,.slice none 0 0]:=by rw [<- hw2,<- s1];exact Blk.new w1 _ _
  have k1':=k1.below b2 k1.lt
  have b02:=b1.trans (b2.mono b1.size)
  have HKL:=hide (fun V (hV:Below w2.heap.size w2 V)=>k1'.below hV (by omega))
  have HKR:=hide (fun V (hV:Below w2.heap.size w2 V)=>k2.below hV k2.lt)
  have Ha:=hide hr
  have Hr:=hide (fun V (hV:Below w.heap.size w V)=>hr.below hV (Nat.le_refl _))
  have Hf:=hide (fun V (hV:Below w.heap.size w V)=>hf.below hV (Nat.le_refl _))
  have HB:=hide b02
  have HS2:=hide s2
  have HBl:Hid (∀ V,Below w2.heap.size w2 V->Below w.heap.size w V):=hide (fun V hV=>b02.trans (hV.mono b02.size))
  have HTh:=hide (fun V (hV:Below w2.heap.size w2 V)=>(k2.below hV k2.lt).there (n:=7) rfl)
  have c0:=k1'.cell 0
  have c1:=k1'.cell 1
  simp only [List.getElem?_cons_zero,List.getElem?_cons_succ] at c0 c1
  clear b1 b2 k1 k2 k1' b02 hr hf
  have HLO:=hide (fun V (hV:Below w.heap.size w V)=>implLedgerOk_any e _ l V (Hr.out V hV) hl hall)
  have HNm:=hide (fun V (hV:Below w.heap.size w V)=>implNamesOk_any _ foul V (Hf.out V hV) hfl hfs)
  have HCp:=hide (fun V (hV:Below w.heap.size w V)=>implCopiedLg_any e _ l V (Hr.out V hV) hl (fun a ha=>(hall a ha).2))
  have HHas:=hide (fun s V (hV:Below w.heap.size w V)=>contains_any _ foul s V (Hf.out V hV) hfl)
  have HNN:=hide (fun nm (hnm:nm.size<=maxLen) V (hV:Below w.heap.size w V)=>implNodeNew_any nm e _ l V (Hr.out V hV) hnm hl hall)
  have Hall:=hide hall
  simp only [lgV] at HLO HCp HNN
  clear hall hfs
  cases hlg:lgB e l
  · rw [wnW_no (show (lgB e l && nmsB foul)=false from by rw [hlg];rfl)]
    rw [hlg] at HLO
    clear hlg
    go_enter Tryz.func9,Tryz.ntmps9
    go_wp2_with fail
    (try rw [hw1,hw2])
    clear hw1 hw2 s1 s2
    refine (HLO.out w2 HB.out).mono ?_
    rintro en w3 ⟨rfl,hb3⟩
    have B3:=hide (show Below w2.heap.size w2 w3 from hb3)
    clear hb3 c0 c1
    have HT:=hide (HTh.out w3 B3.out)
    have HK:=hide (HKR.out w3 B3.out)
    have HB3:=hide (HBl.out w3 B3.out)
    have HB9:=hide (belS (B:=w.heap.size+1) (cs:=[.int .i64 0,.slice none 0 0,.slice none 0 0,.slice none 0 0,.slice none 0 0,.slice none 0 0,.slice none 0 0]) HB3.out (by omega) HB3.out.size (Nat.le_refl _))
    go_wp2_with (refine st7I rfl _ _ rfl (w.heap.size+1) rfl rfl HT.out rfl ?_)
    refine res_wnI (F:=[.int .i64 0,.slice none 0 0,.slice none 0 0,.slice none 0 0,.slice none 0 0,.slice none 0 0,.slice none 0 0]) (w.heap.size+1) (blk_range (blk_all HK.out (by rfl))) (by rfl) rfl rfl ?_
    exact ⟨⟨.slice none 0 0,.slice none 0 0,.slice none 0 0,.slice none 0 0,.slice none 0 0,.slice none 0 0⟩,rfl,(nil_ownWd _).wide HB9.out.size (Nat.le_refl _),HB9.out⟩
  · rw [hlg] at HLO
    cases hnm:nmsB foul
    · rw [wnW_no (show (lgB e l && nmsB foul)=false from by rw [hlg,hnm];rfl)]
      rw [hnm] at HNm
      clear hlg hnm
      go_enter Tryz.func9,Tryz.ntmps9
      go_wp2_with fail
      (try rw [hw1,hw2])
      clear hw1 hw2 s1 s2
      refine (HLO.out w2 HB.out).mono ?_
      rintro en w3 ⟨rfl,hb3⟩
      have B2:=hide (show Below w2.heap.size w2 w3 from hb3)
      clear hb3 c0 c1
      go_wp2_with fail
      refine (HNm.out w3 (HBl.out w3 B2.out)).mono ?_
      rintro en w4 ⟨rfl,hb4⟩
      have B3:=hide (show Below w2.heap.size w2 w4 from (by rw [hb4];exact B2.out))
      clear hb4
      have HT:=hide (HTh.out w4 B3.out)
      have HK:=hide (HKR.out w4 B3.out)
      have HB3:=hide (HBl.out w4 B3.out)
      have HB9:=hide (belS (B:=w.heap.size+1) (cs:=[.int .i64 0,.slice none 0 0,.slice none 0 0,.slice none 0 0,.slice none 0 0,.slice none 0 0,.slice none 0 0]) HB3.out (by omega) HB3.out.size (Nat.le_refl _))
      go_wp2_with (refine st7I rfl _ _ rfl (w.heap.size+1) rfl rfl HT.out rfl ?_)
      refine res_wnI (F:=[.int .i64 0,.slice none 0 0,.slice none 0 0,.slice none 0 0,.slice none 0 0,.slice none 0 0,.slice none 0 0]) (w.heap.size+1) (blk_range (blk_all HK.out (by rfl))) (by rfl) rfl rfl ?_
      exact ⟨⟨.slice none 0 0,.slice none 0 0,.slice none 0 0,.slice none 0 0,.slice none 0 0,.slice none 0 0⟩,rfl,(nil_ownWd _).wide HB9.out.size (Nat.le_refl _),HB9.out⟩
    · rw [wnW_yes (show (lgB e l && nmsB foul)=true from by rw [hlg,hnm];rfl)]
      rw [hnm] at HNm
      have HNames:=hide (names_of hlg)
      have HLen:=hide (acs_len' (lg_acs hlg))
      have HOk:=hide hlg
      clear hlg hnm
      go_enter Tryz.func9,Tryz.ntmps9
      go_wp2_with fail
      (try rw [hw1,hw2])
      clear hw1 hw2 s1 s2
      refine (HLO.out w2 HB.out).mono ?_
      rintro en w3 ⟨rfl,hb3⟩
      have B2:=hide (show Below w2.heap.size w2 w3 from hb3)
      clear hb3 c0 c1
      go_wp2_with fail
      refine (HNm.out w3 (HBl.out w3 B2.out)).mono ?_
      rintro en wn ⟨rfl,hb4⟩
      have B3:=hide (show Below w2.heap.size w2 wn from (by rw [hb4];exact B2.out))
      clear hb4
      have kk:=HKL.out wn B3.out
      have c0:=kk.cell 0
      have c1:=kk.cell 1
      simp only [List.getElem?_cons_zero,List.getElem?_cons_succ] at c0 c1
      clear kk
      go_wp2_with (first
        | (go_at_call 26;(with_reducible refine (HCp.out wn (HBl.out wn B3.out)).mono ?_);rintro en w4 ⟨v4,rfl,o4,hb4⟩;obtain ⟨a4,c4,hv4⟩:=o4.rd.shape;subst hv4;have B4:=hide (show Below w2.heap.size w2 w4 from B3.out.trans (hb4.mono B3.out.size));have X4:=hide o4.ox;have Z4:=hide hb4.size;clear hb4 o4)
        | (at_builtin;refine app_ownS _ rfl _ _ rfl w4.heap.size _ _ [] foul rfl rfl (own_nilS w4 _ (Nat.le_refl _)) (Hf.out _ ((HBl.out w4 B4.out).alloc (HBl.out w4 B4.out).size _)) (by first | (simp;done) | (simp;omega)) (by first | (simp;done) | (simp;omega)) ?_;intro v6 w6 o6 hb6;rw [List.nil_append] at o6;obtain ⟨a6,c6,hv6⟩:=o6.rd.shape;subst hv6;obtain ⟨w7,hw7⟩:∃ x,w6.alloc (.cells #[.int .i64 0,.slice none 0 0,.slice none 0 0,.slice none 0 0,.slice none 0 0,.slice none 0 0,.slice none 0 0] 36)=x:=⟨_,rfl⟩;obtain ⟨w8,hw8⟩:∃ x,w7.setCells w6.heap.size 0 [.int .i64 e,.slice a4 l.length c4,.slice a6 foul.length c6,.slice none 0 0,.slice none 0 0,.slice none 0 0,.slice none 0 0]=x:=⟨_,rfl⟩;have k7:Blk w7 w6.heap.size 36 [.int .i64 0,.slice none 0 0,.slice none 0 0,.slice none 0 0,.slice none 0 0,.slice none 0 0,.slice none 0 0]:=(by rw [<- hw7];exact Blk.new w6 _ _);have HT7:=hide (k7.there (n:=7) rfl);have K8:=hide (show Blk w8 w6.heap.size 36 [.int .i64 e,.slice a4 l.length c4,.slice a6 foul.length c6,.slice none 0 0,.slice none 0 0,.slice none 0 0,.slice none 0 0] from by (rw [<- hw8];exact blk_all k7 (by rfl)));have N8:=hide (show w8.heap.size=w6.heap.size+1 from by (rw [<- hw8,size_sets,<- hw7];try simp));have B68:Below w6.heap.size w6 w8:=(by rw [<- hw8];exact belS (by rw [<- hw7];exact (Below.refl _ w6).alloc (Nat.le_refl _) _) (Nat.le_refl _) (by rw [<- hw7];try simp) (Nat.le_refl _));have B46:Below w4.heap.size w4 w6:=(((Below.refl _ w4).alloc (Nat.le_refl _) _).trans hb6);have B48:Below w4.heap.size w4 w8:=B46.trans (B68.mono B46.size);have B8:=hide (show Below w2.heap.size w2 w8 from B4.out.trans (B48.mono B4.out.size));have X8:=hide (X4.out.below B48 (Nat.le_refl _));have F8:=hide (show InS w4.heap.size w6.heap.size w8 (.slice a6 foul.length c6) foul from ⟨row_below o6 B68 (Nat.le_refl _),top_row o6⟩);have Z6:=hide B46.size;have kk:=HKL.out w8 B8.out;have d0:=kk.cell 0;have d1:=kk.cell 1;simp only [List.getElem?_cons_zero,List.getElem?_cons_succ] at d0 d1;clear kk k7 o6 hb6 B68 B46 B48 X4)
        | (refine st7I rfl _ _ rfl w6.heap.size rfl rfl ?_ rfl ?_;(exact HT7.out);rw [hw8])
        | fail)
      (try rw [hw8])
      clear hw7 hw8 HT7 c0 c1 d0 d1
      go_loopw [26] (fun iv wr=>∃ k:Nat,k<=l.length/\iv=.int .i64 (k:Int)/\Below w6.heap.size w8 wr/\∃ nv,Blk wr w6.heap.size 36 [.int .i64 e,.slice a4 l.length c4,.slice a6 foul.length c6,nv,.slice none 0 0,.slice none 0 0,.slice none 0 0]/\OwnNx (w6.heap.size+1) wr.heap.size wr nv (wnN e l foul (l.take k))) (fun iv _=>l.length - (intOf iv).toNat)
      case atStart=>exact ⟨0,by omega,rfl,Below.refl _ _,_,K8.out,nil_ownNx _ _ _⟩
      case round =>
        obtain ⟨k,hk,rfl,hbr,nv,kr,or_⟩:=hrel
        have y1:=B4.out.size
        have y2:=Z6.out
        have y3:=N8.out
        have y4:=hbr.size
        have y5:=HS2.out
        have y6:=B3.out.size
        have y7:=Z4.out
        have Br:=hide (show Below w2.heap.size w2 wr from B8.out.trans (hbr.mono (by omega)))
        have Hbr:=hide hbr
        have Hkr:=hide kr
        have Hor:=hide or_
        have Htop:=hide or_.top
        have kL:=HKL.out wr Br.out
        have z0:=kL.cell 0
        have z1:=kL.cell 1
        simp only [List.getElem?_cons_zero,List.getElem?_cons_succ] at z0 z1
        clear hbr kr or_ kL
        by_cases hlt:k < l.length
        · obtain ⟨b,off,lv,rfl,hc1,hc2,hbw,hat,hrl⟩:=Ha.out.atV hlt
          have hli:(k:Int) < (l.length:Int):=by omega
          have hnmz:=(Hall.out l[k] (List.getElem_mem hlt)).1
          have hok:(nmB l[k].1 && lgB e l)=true:=by rw [HNames.out k hlt,HOk.out];rfl
          have Hyes:=hide (wnN_yes e l foul l k hlt)
          have Hno:=hide (wnN_no e l foul l k hlt)
          have hLn:(wnN e l foul (l.take k)).length<=4000000:=by
            have h1:=wnN_len e l foul (l.take k)
            have h2:(l.take k).length<=l.length:=by simp;omega
            omega
          obtain ⟨c0,c1,c2,c3,c4⟩:=hat.below (HBl.out wr Br.out) hbw
          obtain ⟨la,lc,rfl⟩:=hrl.shape
          clear hat hrl
          generalize l[k]=ak at c0 c1 c2 c3 c4 hnmz hok Hyes Hno
          obtain ⟨nm,fr,no,st,ls⟩:=ak
          simp only at c0 c1 c2 c3 c4 hnmz hok Hyes Hno
          generalize wnN e l foul (l.take k)=L at Hor hLn Hyes Hno
          obtain ⟨w9,hw9⟩:∃ x,wr.alloc (.cells #[.string nm,.int .i64 fr,.int .i64 no,.int .i64 st,.slice la ls.length lc] 53)=x:=⟨_,rfl⟩
          have hA:Below wr.heap.size wr w9:=by rw [<- hw9];exact (Below.refl _ wr).alloc (Nat.le_refl _) _
          have k9:Blk w9 wr.heap.size 53 [.string nm,.int .i64 fr,.int .i64 no,.int .i64 st,.slice la ls.length lc]:=by rw [<- hw9];exact Blk.new wr _ _
          have e0:=k9.cell 0
          simp only [List.getElem?_cons_zero,List.getElem?_cons_succ] at e0
          have HC:=hide (HHas.out nm w9 (HBl.out w9 (Br.out.trans (hA.mono Br.out.size))))
          have HA:=hide hA
          have HK9:=hide k9
          clear hA k9
          cases hh:hasN foul nm
          · rw [hh] at HC
            go_wp2_with fail
            (try rw [hw9])
            refine HC.out.mono ?_
            rintro en wc ⟨rfl,hbc⟩
            have hbx:Below wr.heap.size wr wc:=HA.out.trans (hbc.mono HA.out.size)
            have B9:=hide (show Below w2.heap.size w2 wc from Br.out.trans (hbx.mono Br.out.size))
            have hbE:=hide (show Below w6.heap.size w8 wc from Hbr.out.trans (hbx.mono (by omega)))
            have kB:=Hkr.out.below hbx (by omega)
            have kA:=HK9.out.below hbc HK9.out.lt
            have y8:=hbx.size
            have hTop:=Htop.out
            have bD:Below wc.heap.size wc wc.drew:=(Below.refl _ wc).drew
            have oD:OwnNx (w6.heap.size+1) wc.drew.heap.size wc.drew nv L:=(Hor.out.kept ((Kept.of_below hbx (Nat.le_refl _)).trans (Kept.of_below (lo:=w6.heap.size+1) (hi:=wr.heap.size) bD (Nat.le_refl _)))).wide (Nat.le_refl _) hbx.size
            have hbs:w6.heap.size+1<=wc.drew.heap.size:=by show w6.heap.size+1<=wc.heap.size;omega
            have HSS:=hide (fun V (hV:Below wc.heap.size wc V)=>(show V.cell? ⟨wr.heap.size,0,none⟩=some (.string nm)/\V.cell? ⟨w.heap.size,0,none⟩=some (.int .i64 e)/\V.cell? ⟨w.heap.size,1,none⟩=some (.slice (some ⟨b,off,none⟩) l.length cv0) from ⟨(kA.below hV kA.lt).cell 0,(HKL.out V (B9.out.trans (hV.mono B9.out.size))).cell 0,(HKL.out V (B9.out.trans (hV.mono B9.out.size))).cell 1⟩))
            have hS0:=HSS.out _ bD
            have kL:=HKL.out wc B9.out
            have u0:=kL.cell 0
            have u1:=kL.cell 1
            have u2:=kB.cell 3
            have u3:=kA.cell 0
            simp only [List.getElem?_cons_zero,List.getElem?_cons_succ] at u0 u1 u2 u3
            clear kL c0 c1 c2 c3 c4 e0 z0 z1 hw9 hbc
            go_wp2
            refine wp_region_held_drew (S:=fun W=>W.cell? ⟨wr.heap.size,0,none⟩=some (.string nm)/\W.cell? ⟨w.heap.size,0,none⟩=some (.int .i64 e)/\W.cell? ⟨w.heap.size,1,none⟩=some (.slice (some ⟨b,off,none⟩) l.length cv0)) (by kernel_rfl) hS0 (fun hHeld=>?_)
            refine wpAnyH_take (i:=0) (v:=.pointer (some ⟨w6.heap.size,3,none⟩)) rfl (by kernel_rfl) (by kernel_rfl) (by kernel_rfl) (fun _ _ _ h=>h) (Or.inl ⟨by rfl,fun W hW=>by (obtain ⟨q0,q1,q2⟩:=hW;go_simp)⟩) (by assumption) ?_
            change wpAnyH Tryz.prog _ _ _ _ _ _ (Act.put _ (some 35) _) _
            simp only [Act.put,List.setIfInBounds_toArray,List.set_cons_zero,List.set_cons_succ]
            refine wpAnyH_take (i:=2) (v:=.pointer (some ⟨wr.heap.size,0,none⟩)) rfl (by kernel_rfl) (by kernel_rfl) (by kernel_rfl) (fun _ _ _ h=>h) (Or.inl ⟨by rfl,fun W hW=>by (obtain ⟨q0,q1,q2⟩:=hW;go_simp)⟩) (by assumption) ?_
            change wpAnyH Tryz.prog _ _ _ _ _ _ (Act.put _ (some 37) _) _
            simp only [Act.put,List.setIfInBounds_toArray,List.set_cons_zero,List.set_cons_succ]
            refine wpAnyH_take (i:=3) (v:=.string nm) rfl (by kernel_rfl) (by kernel_rfl) (by kernel_rfl) (fun _ _ _ h=>h) (Or.inl ⟨by rfl,fun W hW=>by (obtain ⟨q0,q1,q2⟩:=hW;go_simp)⟩) (by assumption) ?_
            change wpAnyH Tryz.prog _ _ _ _ _ _ (Act.put _ (some 38) _) _
            simp only [Act.put,List.setIfInBounds_toArray,List.set_cons_zero,List.set_cons_succ]
            refine wpAnyH_take (i:=4) (v:=.agg #[.int .i64 e,.slice (some ⟨b,off,none⟩) l.length cv0]) rfl (by kernel_rfl) (by kernel_rfl) (by kernel_rfl) (fun _ _ _ h=>h) (Or.inl ⟨by rfl,fun W hW=>by (obtain ⟨q0,q1,q2⟩:=hW;go_simp)⟩) (by assumption) ?_
            change wpAnyH Tryz.prog _ _ _ _ _ _ (Act.put _ (some 39) _) _
            simp only [Act.put,List.setIfInBounds_toArray,List.set_cons_zero,List.set_cons_succ]
            refine wpAnyH_ready (rs:=[1,5]) (by kernel_rfl) (by simp) ?_
            refine AllReadyH.cons rfl (fun K hK=>?_) (AllReadyH.cons rfl (fun K hK=>?_) AllReadyH.nil)
            · skip
              have hy:=(kB.cell 3)
              simp only [List.getElem?_cons_zero,List.getElem?_cons_succ] at hy
              go_simp
              clear hy
              refine hK.out _ _ hS0 (fun hHeld=>?_)
              try simp only [Act.put,List.setIfInBounds_toArray,List.set_cons_zero,List.set_cons_succ]
              refine wpAnyH_ready (rs:=[5]) (by kernel_rfl) (by simp) ?_
              refine AllReadyH.cons rfl (fun K hK=>?_) AllReadyH.nil
              go_simp
              go_wp2_with (go_at_call 28;(with_reducible refine (HNN.out nm hnmz wc.drew (HBl.out _ (B9.out.trans (bD.mono B9.out.size)))).mono ?_);rintro en w10 hP;obtain ⟨aa,ca,av,cs,rfl,o10,hb10⟩:=ndP_own hP hok;simp only [ndV];have b10:=bD.trans (hb10.mono bD.size);have hS10:=HSS.out _ b10;have kB10:=kB.below b10 kB.lt)
              refine hK.out _ _ hS10 (fun hHeld=>?_)
              try simp only [Act.put,List.setIfInBounds_toArray,List.set_cons_zero,List.set_cons_succ]
              refine wpAnyH_ready (rs:=[6]) (by kernel_rfl) (by simp) ?_
              refine AllReadyH.cons rfl (fun K hK=>?_) AllReadyH.nil
              go_simp
              obtain ⟨w11,hw11⟩:∃ x,w10.alloc (.cells #[.string nm,.int .i64 e,.int .i64 e,.slice aa l.length ca,.slice av (setV l).length cs,.slice none 0 0,.int .i64 1,.int .i64 0,.int .i64 0,.int .i64 (-1),.slice none 0 0,.int .i64 0,.slice none 0 0,.slice none 0 0,.int .i64 0,.slice none 0 0,.slice none 0 0,.slice none 0 0,.slice none 0 0,.slice none 0 0] 65)=x:=⟨_,rfl⟩
              have ba:Below w10.heap.size w10 w11:=by rw [<- hw11];exact (Below.refl _ w10).alloc (Nat.le_refl _) _
              have k11:Blk w11 w10.heap.size 65 (noC (nwN nm e l) (nwU (.slice aa l.length ca) (.slice av (setV l).length cs))):=by rw [<- hw11];exact Blk.new w10 _ (noC (nwN nm e l) (nwU (.slice aa l.length ca) (.slice av (setV l).length cs)))
              have b11:=b10.trans (ba.mono b10.size)
              have hS11:=HSS.out _ b11
              have kB11:=kB.below b11 kB.lt
              (try rw [hw11])
              refine hK.out _ _ hS11 (fun hHeld=>?_)
              try simp only [Act.put,List.setIfInBounds_toArray,List.set_cons_zero,List.set_cons_succ]
              have ob:OwnNd wc.drew.heap.size w11.heap.size w11 (nwN nm e l) (nwU (.slice aa l.length ca) (.slice av (setV l).length cs)):=(o10.kept (Kept.of_below ba (Nat.le_refl _))).wide (Nat.le_refl _) ba.size
              have b1:Below wc.drew.heap.size wc.drew w11:=hb10.trans (ba.mono hb10.size)
              refine wpAnyH_ready (rs:=[7]) (by kernel_rfl) (by simp) ?_
              refine AllReadyH.cons rfl (fun K hK=>?_) AllReadyH.nil
              refine step_appNs wc.drew rfl _ _ rfl (w6.heap.size+1) nv w10.heap.size L (nwN nm e l) (nwU (.slice aa l.length ca) (.slice av (setV l).length cs)) rfl rfl oD b1 k11 ob hLn hbs ?_
              intro v12 w12 o12 hb12 hg12
              obtain ⟨a12,c12,hv12⟩:=o12.rd.shape
              simp only [List.length_append,List.length_cons,List.length_nil,Nat.zero_add] at hv12
              subst hv12
              have q12:Oth (fun g=>nv.ownBlock=some g) w11 w12:=Oth.of_grown hg12 (fun g h=>h)
              have kA11:=kA.below b11 kA.lt
              have kA12:=kA11.othM q12 (fun h=>by have:=hTop _ h;omega)
              have hS12:w12.cell? ⟨wr.heap.size,0,none⟩=some (.string nm)/\w12.cell? ⟨w.heap.size,0,none⟩=some (.int .i64 e)/\w12.cell? ⟨w.heap.size,1,none⟩=some (.slice (some ⟨b,off,none⟩) l.length cv0):=⟨kA12.cell 0,(hb12.cell (p:=⟨w.heap.size,0,none⟩) (show w.heap.size < w6.heap.size+1 by omega)).trans hS11.2.1,(hb12.cell (p:=⟨w.heap.size,1,none⟩) (show w.heap.size < w6.heap.size+1 by omega)).trans hS11.2.2⟩
              refine hK.out _ _ hS12 (fun hHeld=>?_)
              try simp only [Act.put,List.setIfInBounds_toArray,List.set_cons_zero,List.set_cons_succ]
              refine wpAnyH_take (i:=8) (v:=.pointer (some ⟨w6.heap.size,3,none⟩)) rfl (by kernel_rfl) (by kernel_rfl) (by kernel_rfl) (fun _ _ _ h=>h) (Or.inl ⟨by rfl,fun W hW=>by (obtain ⟨q0,q1,q2⟩:=hW;go_simp)⟩) (by assumption) ?_
              change wpAnyH Tryz.prog _ _ _ _ _ _ (Act.put _ (some 43) _) _
              simp only [Act.put,List.setIfInBounds_toArray,List.set_cons_zero,List.set_cons_succ]
              have kB12:=kB11.below hb12 (by omega)
              have hy:=kB12.cell 3
              simp only [List.getElem?_cons_zero,List.getElem?_cons_succ] at hy
              refine wpAnyH_ready (rs:=[9]) (by kernel_rfl) (by simp) ?_
              refine AllReadyH.cons rfl (fun K hK=>?_) AllReadyH.nil
              have hz:=kB12.frozen 3
              go_simp
              clear hy hz
              have hS13:(w12.setCell ⟨w6.heap.size,3,none⟩ (.slice a12 (L.length+1) c12)).cell? ⟨wr.heap.size,0,none⟩=some (.string nm)/\(w12.setCell ⟨w6.heap.size,3,none⟩ (.slice a12 (L.length+1) c12)).cell? ⟨w.heap.size,0,none⟩=some (.int .i64 e)/\(w12.setCell ⟨w6.heap.size,3,none⟩ (.slice a12 (L.length+1) c12)).cell? ⟨w.heap.size,1,none⟩=some (.slice (some ⟨b,off,none⟩) l.length cv0):=⟨(World.cell?_setCell_far _ _ _ _ (show w6.heap.size ≠ wr.heap.size by omega)).trans hS12.1,(World.cell?_setCell_far _ _ _ _ (show w6.heap.size ≠ w.heap.size by omega)).trans hS12.2.1,(World.cell?_setCell_far _ _ _ _ (show w6.heap.size ≠ w.heap.size by omega)).trans hS12.2.2⟩
              refine hK.out _ _ hS13 (fun hHeld=>?_)
              try simp only [Act.put,List.setIfInBounds_toArray,List.set_cons_zero,List.set_cons_succ]
              refine wpAnyH_done (by kernel_rfl) ?_ _
              have y9:=hb12.size
              have y10:=b11.size
              have R1:=hide (kB12.setC 3 (.slice a12 (L.length+1) c12))
              have R2:=hide (o12.kept (Kept.set w12 3 (.slice a12 (L.length+1) c12) (.inl (show w6.heap.size < w6.heap.size+1 from Nat.lt_succ_self _))))
              have R3:=hide (((hbE.out.trans (b11.mono (by omega))).trans (hb12.mono (Nat.le_succ _))).grown (grown_set w12 w6.heap.size 3 (.slice a12 (L.length+1) c12)) (by omega) (fun g h=>by cases h;exact Nat.le_refl _))
              clear hS0 hS10 hS11 hS12 hS13 hHeld b10 b11 ba b1 hb10 hb12 hg12 o10 ob k11 o12 q12 kB10 kB11 kB12 HSS kB oD bD kA kA11 kA12
              go_wp2
              go_roundw
              case rel=>exact ⟨k+1,by omega,by go_num,R3.out,_,R1.out,by (rw [Hno.out hh];first | exact R2.out | (rw [size_set9];exact R2.out))⟩
              case measure=>simp [intOf];omega
            · skip
              go_simp
              go_wp2_with (go_at_call 28;(with_reducible refine (HNN.out nm hnmz wc.drew (HBl.out _ (B9.out.trans (bD.mono B9.out.size)))).mono ?_);rintro en w10 hP;obtain ⟨aa,ca,av,cs,rfl,o10,hb10⟩:=ndP_own hP hok;simp only [ndV];have b10:=bD.trans (hb10.mono bD.size);have hS10:=HSS.out _ b10;have kB10:=kB.below b10 kB.lt)
              refine hK.out _ _ hS10 (fun hHeld=>?_)
              try simp only [Act.put,List.setIfInBounds_toArray,List.set_cons_zero,List.set_cons_succ]
              refine wpAnyH_ready (rs:=[1,6]) (by kernel_rfl) (by simp) ?_
              refine AllReadyH.cons rfl (fun K hK=>?_) (AllReadyH.cons rfl (fun K hK=>?_) AllReadyH.nil)
              · skip
                have hy:=(kB10.cell 3)
                simp only [List.getElem?_cons_zero,List.getElem?_cons_succ] at hy
                go_simp
                clear hy
                refine hK.out _ _ hS10 (fun hHeld=>?_)
                try simp only [Act.put,List.setIfInBounds_toArray,List.set_cons_zero,List.set_cons_succ]
                refine wpAnyH_ready (rs:=[6]) (by kernel_rfl) (by simp) ?_
                refine AllReadyH.cons rfl (fun K hK=>?_) AllReadyH.nil
                go_simp
                obtain ⟨w11,hw11⟩:∃ x,w10.alloc (.cells #[.string nm,.int .i64 e,.int .i64 e,.slice aa l.length ca,.slice av (setV l).length cs,.slice none 0 0,.int .i64 1,.int .i64 0,.int .i64 0,.int .i64 (-1),.slice none 0 0,.int .i64 0,.slice none 0 0,.slice none 0 0,.int .i64 0,.slice none 0 0,.slice none 0 0,.slice none 0 0,.slice none 0 0,.slice none 0 0] 65)=x:=⟨_,rfl⟩
                have ba:Below w10.heap.size w10 w11:=by rw [<- hw11];exact (Below.refl _ w10).alloc (Nat.le_refl _) _
                have k11:Blk w11 w10.heap.size 65 (noC (nwN nm e l) (nwU (.slice aa l.length ca) (.slice av (setV l).length cs))):=by rw [<- hw11];exact Blk.new w10 _ (noC (nwN nm e l) (nwU (.slice aa l.length ca) (.slice av (setV l).length cs)))
                have b11:=b10.trans (ba.mono b10.size)
                have hS11:=HSS.out _ b11
                have kB11:=kB.below b11 kB.lt
                (try rw [hw11])
                refine hK.out _ _ hS11 (fun hHeld=>?_)
                try simp only [Act.put,List.setIfInBounds_toArray,List.set_cons_zero,List.set_cons_succ]
                have ob:OwnNd wc.drew.heap.size w11.heap.size w11 (nwN nm e l) (nwU (.slice aa l.length ca) (.slice av (setV l).length cs)):=(o10.kept (Kept.of_below ba (Nat.le_refl _))).wide (Nat.le_refl _) ba.size
                have b1:Below wc.drew.heap.size wc.drew w11:=hb10.trans (ba.mono hb10.size)
                refine wpAnyH_ready (rs:=[7]) (by kernel_rfl) (by simp) ?_
                refine AllReadyH.cons rfl (fun K hK=>?_) AllReadyH.nil
                refine step_appNs wc.drew rfl _ _ rfl (w6.heap.size+1) nv w10.heap.size L (nwN nm e l) (nwU (.slice aa l.length ca) (.slice av (setV l).length cs)) rfl rfl oD b1 k11 ob hLn hbs ?_
                intro v12 w12 o12 hb12 hg12
                obtain ⟨a12,c12,hv12⟩:=o12.rd.shape
                simp only [List.length_append,List.length_cons,List.length_nil,Nat.zero_add] at hv12
                subst hv12
                have q12:Oth (fun g=>nv.ownBlock=some g) w11 w12:=Oth.of_grown hg12 (fun g h=>h)
                have kA11:=kA.below b11 kA.lt
                have kA12:=kA11.othM q12 (fun h=>by have:=hTop _ h;omega)
                have hS12:w12.cell? ⟨wr.heap.size,0,none⟩=some (.string nm)/\w12.cell? ⟨w.heap.size,0,none⟩=some (.int .i64 e)/\w12.cell? ⟨w.heap.size,1,none⟩=some (.slice (some ⟨b,off,none⟩) l.length cv0):=⟨kA12.cell 0,(hb12.cell (p:=⟨w.heap.size,0,none⟩) (show w.heap.size < w6.heap.size+1 by omega)).trans hS11.2.1,(hb12.cell (p:=⟨w.heap.size,1,none⟩) (show w.heap.size < w6.heap.size+1 by omega)).trans hS11.2.2⟩
                refine hK.out _ _ hS12 (fun hHeld=>?_)
                try simp only [Act.put,List.setIfInBounds_toArray,List.set_cons_zero,List.set_cons_succ]
                refine wpAnyH_take (i:=8) (v:=.pointer (some ⟨w6.heap.size,3,none⟩)) rfl (by kernel_rfl) (by kernel_rfl) (by kernel_rfl) (fun _ _ _ h=>h) (Or.inl ⟨by rfl,fun W hW=>by (obtain ⟨q0,q1,q2⟩:=hW;go_simp)⟩) (by assumption) ?_
                change wpAnyH Tryz.prog _ _ _ _ _ _ (Act.put _ (some 43) _) _
                simp only [Act.put,List.setIfInBounds_toArray,List.set_cons_zero,List.set_cons_succ]
                have kB12:=kB11.below hb12 (by omega)
                have hy:=kB12.cell 3
                simp only [List.getElem?_cons_zero,List.getElem?_cons_succ] at hy
                refine wpAnyH_ready (rs:=[9]) (by kernel_rfl) (by simp) ?_
                refine AllReadyH.cons rfl (fun K hK=>?_) AllReadyH.nil
                have hz:=kB12.frozen 3
                go_simp
                clear hy hz
                have hS13:(w12.setCell ⟨w6.heap.size,3,none⟩ (.slice a12 (L.length+1) c12)).cell? ⟨wr.heap.size,0,none⟩=some (.string nm)/\(w12.setCell ⟨w6.heap.size,3,none⟩ (.slice a12 (L.length+1) c12)).cell? ⟨w.heap.size,0,none⟩=some (.int .i64 e)/\(w12.setCell ⟨w6.heap.size,3,none⟩ (.slice a12 (L.length+1) c12)).cell? ⟨w.heap.size,1,none⟩=some (.slice (some ⟨b,off,none⟩) l.length cv0):=⟨(World.cell?_setCell_far _ _ _ _ (show w6.heap.size ≠ wr.heap.size by omega)).trans hS12.1,(World.cell?_setCell_far _ _ _ _ (show w6.heap.size ≠ w.heap.size by omega)).trans hS12.2.1,(World.cell?_setCell_far _ _ _ _ (show w6.heap.size ≠ w.heap.size by omega)).trans hS12.2.2⟩
                refine hK.out _ _ hS13 (fun hHeld=>?_)
                try simp only [Act.put,List.setIfInBounds_toArray,List.set_cons_zero,List.set_cons_succ]
                refine wpAnyH_done (by kernel_rfl) ?_ _
                have y9:=hb12.size
                have y10:=b11.size
                have R1:=hide (kB12.setC 3 (.slice a12 (L.length+1) c12))
                have R2:=hide (o12.kept (Kept.set w12 3 (.slice a12 (L.length+1) c12) (.inl (show w6.heap.size < w6.heap.size+1 from Nat.lt_succ_self _))))
                have R3:=hide (((hbE.out.trans (b11.mono (by omega))).trans (hb12.mono (Nat.le_succ _))).grown (grown_set w12 w6.heap.size 3 (.slice a12 (L.length+1) c12)) (by omega) (fun g h=>by cases h;exact Nat.le_refl _))
                clear hS0 hS10 hS11 hS12 hS13 hHeld b10 b11 ba b1 hb10 hb12 hg12 o10 ob k11 o12 q12 kB10 kB11 kB12 HSS kB oD bD kA kA11 kA12
                go_wp2
                go_roundw
                case rel=>exact ⟨k+1,by omega,by go_num,R3.out,_,R1.out,by (rw [Hno.out hh];first | exact R2.out | (rw [size_set9];exact R2.out))⟩
                case measure=>simp [intOf];omega
              · skip
                go_simp
                obtain ⟨w11,hw11⟩:∃ x,w10.alloc (.cells #[.string nm,.int .i64 e,.int .i64 e,.slice aa l.length ca,.slice av (setV l).length cs,.slice none 0 0,.int .i64 1,.int .i64 0,.int .i64 0,.int .i64 (-1),.slice none 0 0,.int .i64 0,.slice none 0 0,.slice none 0 0,.int .i64 0,.slice none 0 0,.slice none 0 0,.slice none 0 0,.slice none 0 0,.slice none 0 0] 65)=x:=⟨_,rfl⟩
                have ba:Below w10.heap.size w10 w11:=by rw [<- hw11];exact (Below.refl _ w10).alloc (Nat.le_refl _) _
                have k11:Blk w11 w10.heap.size 65 (noC (nwN nm e l) (nwU (.slice aa l.length ca) (.slice av (setV l).length cs))):=by rw [<- hw11];exact Blk.new w10 _ (noC (nwN nm e l) (nwU (.slice aa l.length ca) (.slice av (setV l).length cs)))
                have b11:=b10.trans (ba.mono b10.size)
                have hS11:=HSS.out _ b11
                have kB11:=kB.below b11 kB.lt
                (try rw [hw11])
                refine hK.out _ _ hS11 (fun hHeld=>?_)
                try simp only [Act.put,List.setIfInBounds_toArray,List.set_cons_zero,List.set_cons_succ]
                refine wpAnyH_ready (rs:=[1]) (by kernel_rfl) (by simp) ?_
                refine AllReadyH.cons rfl (fun K hK=>?_) AllReadyH.nil
                have hy:=(kB11.cell 3)
                simp only [List.getElem?_cons_zero,List.getElem?_cons_succ] at hy
                go_simp
                clear hy
                refine hK.out _ _ hS11 (fun hHeld=>?_)
                try simp only [Act.put,List.setIfInBounds_toArray,List.set_cons_zero,List.set_cons_succ]
                have ob:OwnNd wc.drew.heap.size w11.heap.size w11 (nwN nm e l) (nwU (.slice aa l.length ca) (.slice av (setV l).length cs)):=(o10.kept (Kept.of_below ba (Nat.le_refl _))).wide (Nat.le_refl _) ba.size
                have b1:Below wc.drew.heap.size wc.drew w11:=hb10.trans (ba.mono hb10.size)
                refine wpAnyH_ready (rs:=[7]) (by kernel_rfl) (by simp) ?_
                refine AllReadyH.cons rfl (fun K hK=>?_) AllReadyH.nil
                refine step_appNs wc.drew rfl _ _ rfl (w6.heap.size+1) nv w10.heap.size L (nwN nm e l) (nwU (.slice aa l.length ca) (.slice av (setV l).length cs)) rfl rfl oD b1 k11 ob hLn hbs ?_
                intro v12 w12 o12 hb12 hg12
                obtain ⟨a12,c12,hv12⟩:=o12.rd.shape
                simp only [List.length_append,List.length_cons,List.length_nil,Nat.zero_add] at hv12
                subst hv12
                have q12:Oth (fun g=>nv.ownBlock=some g) w11 w12:=Oth.of_grown hg12 (fun g h=>h)
                have kA11:=kA.below b11 kA.lt
                have kA12:=kA11.othM q12 (fun h=>by have:=hTop _ h;omega)
                have hS12:w12.cell? ⟨wr.heap.size,0,none⟩=some (.string nm)/\w12.cell? ⟨w.heap.size,0,none⟩=some (.int .i64 e)/\w12.cell? ⟨w.heap.size,1,none⟩=some (.slice (some ⟨b,off,none⟩) l.length cv0):=⟨kA12.cell 0,(hb12.cell (p:=⟨w.heap.size,0,none⟩) (show w.heap.size < w6.heap.size+1 by omega)).trans hS11.2.1,(hb12.cell (p:=⟨w.heap.size,1,none⟩) (show w.heap.size < w6.heap.size+1 by omega)).trans hS11.2.2⟩
                refine hK.out _ _ hS12 (fun hHeld=>?_)
                try simp only [Act.put,List.setIfInBounds_toArray,List.set_cons_zero,List.set_cons_succ]
                refine wpAnyH_take (i:=8) (v:=.pointer (some ⟨w6.heap.size,3,none⟩)) rfl (by kernel_rfl) (by kernel_rfl) (by kernel_rfl) (fun _ _ _ h=>h) (Or.inl ⟨by rfl,fun W hW=>by (obtain ⟨q0,q1,q2⟩:=hW;go_simp)⟩) (by assumption) ?_
                change wpAnyH Tryz.prog _ _ _ _ _ _ (Act.put _ (some 43) _) _
                simp only [Act.put,List.setIfInBounds_toArray,List.set_cons_zero,List.set_cons_succ]
                have kB12:=kB11.below hb12 (by omega)
                have hy:=kB12.cell 3
                simp only [List.getElem?_cons_zero,List.getElem?_cons_succ] at hy
                refine wpAnyH_ready (rs:=[9]) (by kernel_rfl) (by simp) ?_
                refine AllReadyH.cons rfl (fun K hK=>?_) AllReadyH.nil
                have hz:=kB12.frozen 3
                go_simp
                clear hy hz
                have hS13:(w12.setCell ⟨w6.heap.size,3,none⟩ (.slice a12 (L.length+1) c12)).cell? ⟨wr.heap.size,0,none⟩=some (.string nm)/\(w12.setCell ⟨w6.heap.size,3,none⟩ (.slice a12 (L.length+1) c12)).cell? ⟨w.heap.size,0,none⟩=some (.int .i64 e)/\(w12.setCell ⟨w6.heap.size,3,none⟩ (.slice a12 (L.length+1) c12)).cell? ⟨w.heap.size,1,none⟩=some (.slice (some ⟨b,off,none⟩) l.length cv0):=⟨(World.cell?_setCell_far _ _ _ _ (show w6.heap.size ≠ wr.heap.size by omega)).trans hS12.1,(World.cell?_setCell_far _ _ _ _ (show w6.heap.size ≠ w.heap.size by omega)).trans hS12.2.1,(World.cell?_setCell_far _ _ _ _ (show w6.heap.size ≠ w.heap.size by omega)).trans hS12.2.2⟩
                refine hK.out _ _ hS13 (fun hHeld=>?_)
                try simp only [Act.put,List.setIfInBounds_toArray,List.set_cons_zero,List.set_cons_succ]
                refine wpAnyH_done (by kernel_rfl) ?_ _
                have y9:=hb12.size
                have y10:=b11.size
                have R1:=hide (kB12.setC 3 (.slice a12 (L.length+1) c12))
                have R2:=hide (o12.kept (Kept.set w12 3 (.slice a12 (L.length+1) c12) (.inl (show w6.heap.size < w6.heap.size+1 from Nat.lt_succ_self _))))
                have R3:=hide (((hbE.out.trans (b11.mono (by omega))).trans (hb12.mono (Nat.le_succ _))).grown (grown_set w12 w6.heap.size 3 (.slice a12 (L.length+1) c12)) (by omega) (fun g h=>by cases h;exact Nat.le_refl _))
                clear hS0 hS10 hS11 hS12 hS13 hHeld b10 b11 ba b1 hb10 hb12 hg12 o10 ob k11 o12 q12 kB10 kB11 kB12 HSS kB oD bD kA kA11 kA12
                go_wp2
                go_roundw
                case rel=>exact ⟨k+1,by omega,by go_num,R3.out,_,R1.out,by (rw [Hno.out hh];first | exact R2.out | (rw [size_set9];exact R2.out))⟩
                case measure=>simp [intOf];omega
          · rw [hh] at HC
            go_wp2_with fail
            (try rw [hw9])
            refine HC.out.mono ?_
            rintro en wc ⟨rfl,hbc⟩
            have hbx:Below wr.heap.size wr wc:=HA.out.trans (hbc.mono HA.out.size)
            have R1:=hide (Hkr.out.below hbx (by omega))
            have R2:=hide ((Hor.out.kept (Kept.of_below hbx (Nat.le_refl _))).wide (Nat.le_refl _) hbx.size)
            have R3:=hide (Hbr.out.trans (hbx.mono (by omega)))
            clear hbx hbc
            go_wp2
            go_roundw
            case rel=>exact ⟨k+1,by omega,by go_num,R3.out,_,R1.out,by rw [Hyes.out hh];exact R2.out⟩
            case measure=>simp [intOf];omega
        · have ek:k=l.length:=by omega
          subst ek
          rw [List.take_length] at Hor
          obtain ⟨an,cn,hnv⟩:=Hor.out.rd.shape
          subst hnv
          obtain ⟨F,hF⟩:∃ x,([.int .i64 e,.slice a4 l.length c4,.slice a6 foul.length c6,.slice an (wnN e l foul l).length cn,.slice none 0 0,.slice none 0 0,.slice none 0 0]:List Value)=x:=⟨_,rfl⟩
          have hFl:F.length=7:=by rw [<- hF];rfl
          have hF1:F.toArray.all (·.oneCell')=true:=by rw [List.all_toArray,<- hF];rfl
          have IF:=hide (show (Tryz.prog.info? 36).map (·.size)=some F.length from by rw [hFl];exact Tryz.infoWn)
          have RF:=hide (show wr.rangeAt w6.heap.size 0 F from by rw [<- hF];exact blk_range Hkr.out)
          have HR:=hide (HKR.out wr Br.out)
          have Hth:=hide (show wr.there (w.heap.size+1) 0 F.toArray.size from by rw [show F.toArray.size=7 from by simpa using hFl];exact HR.out.there rfl)
          have HX:=hide (show Blk (wr.setCells (w.heap.size+1) 0 F) (w.heap.size+1) 36 F from blk_all HR.out (by rw [hFl];rfl))
          have HB9:=hide (belS (B:=w.heap.size+1) (cs:=F) (HBl.out wr Br.out) (by omega) (HBl.out wr Br.out).size (Nat.le_refl _))
          have HZ9:=hide (show (wr.setCells (w.heap.size+1) 0 F).heap.size=wr.heap.size from size_sets _ F _ 0)
          have F1:=hide ((X8.out.kept (Kept.of_belowT Hbr.out (by omega))).kept (Kept.setCs (g:=w.heap.size+1) _ 0 F (.inl (by omega))))
          have F2:=hide ((F8.out.kept (Kept.of_belowT Hbr.out (by omega))).kept (Kept.setCs (g:=w.heap.size+1) _ 0 F (.inl (by omega))))
          have F3:=hide (Hor.out.kept (Kept.setCs (g:=w.heap.size+1) _ 0 F (.inl (by omega))))
          have HFl:=hide hFl
          clear hFl
          go_wp2_with (first
            | (refine wpList_load_mid rfl 36 _ rfl w6.heap.size 0 rfl F _ RF.out Tryz.underlying36 rfl IF.out ?_)
            | (refine wpList_store_mid rfl 36 _ _ rfl (w.heap.size+1) 0 F.toArray rfl rfl Hth.out (by simpa using IF.out) hF1 ?_)
            | fail)
          (try simp only [List.toList_toArray])
          refine res_wnI (F:=F) (w.heap.size+1) (blk_range HX.out) (by rfl) HFl.out rfl ?_
          have hz9:=HZ9.out
          refine ⟨⟨.slice a4 l.length c4,.slice a6 foul.length c6,.slice an (wnN e l foul l).length cn,.slice none 0 0,.slice none 0 0,.slice none 0 0⟩,by rw [<- hF];rfl,⟨⟨wn.heap.size,w4.heap.size,w6.heap.size+1,wr.heap.size,wr.heap.size,wr.heap.size,wr.heap.size,by omega,by omega,by omega,by omega,by omega,by omega,by omega,by omega,.inr F1.out,F2.out.wide (Nat.le_refl _) (Nat.le_succ _),F3.out,nil_ownKx _ _ _,nil_ownSx _ _ _,nil_ownMx _ _ _⟩⟩,HB9.out⟩
set_option linter.unusedSimpArgs false
theorem st7S {ops:Array Oper} {rest:List Oper} {op:Oper} {a:Act} {w:World} {Q:Exit->Act->World->Prop} (hgd:op.guard=none) (x y:Operand) (ho:op.op=.store 36 x y) (b:Nat) {u0 u1 u2 u3 u4 u5 u6:Value} (hx:a.eval x=.pointer (some ⟨b,0,none⟩)) (hy:a.eval y=.agg #[u0,u1,u2,u3,u4,u5,u6]) (ht:w.there b 0 7) (h1:([u0,u1,u2,u3,u4,u5,u6]:List Value).all (·.oneCell')=true) (h:wpList Tryz.prog ops Q rest (a.put op.dst undef) (w.setCells b 0 [u0,u1,u2,u3,u4,u5,u6])):wpList Tryz.prog ops Q (op :: rest) a w :=
  wpList_store_mid hgd 36 x y ho b 0 #[u0,u1,u2,u3,u4,u5,u6] hx hy ht (by kernel_rfl) (by rw [<- List.all_toArray] at h1;exact h1) h
theorem res_wnS {X:World} {a:Act} {R:Ending->World->Prop} {F:List Value} (g:Nat) (h:X.rangeAt g 0 F) (h4:a.tmps[4]?.getD undef=.pointer (some ⟨g,0,none⟩)) (hl:F.length=7) (hd:a.defers=[]) (hR:R (.returned (.agg F.toArray)) X):bodyPost Tryz.prog Tryz.f6 R .ret a X:=by
  have hl:=run_loadVar_mid (P:=Tryz.prog) X g 0 36 F _ h Tryz.underlying36 rfl (by rw [hl];exact Tryz.infoWn)
  refine bodyPost_ret (v:=.agg F.toArray) ?_ hd hR
  simp [results,Tryz.f6,h4,asAddr,hl]
theorem specWorldNew_any (e:Int) (v:Value) (l:List Ac) (fv:Value) (foul:List ByteArray) (w:World) (hr:RdA w v l) (hf:RdS w fv foul) (hl:l.length<=4000000) (hall:∀ a ∈ l,a.1.size<=maxLen/\a.2.2.2.2.length<=4000000) (hfl:foul.length<=4000000) (hfs:∀ s ∈ foul,s.size<=maxLen) :
    Calls Tryz.prog 6 #[lgV e v,fv] w fun en w'=>∃ u,en=.returned (wdV (wnW e l foul) u)/\OwnWd w.heap.size w'.heap.size w' (wnW e l foul) u/\Below w.heap.size w w':=by
  obtain ⟨av0,cv0,rfl⟩:=hr.shape
  obtain ⟨af0,cf0,rfl⟩:=hf.shape
  simp only [lgV]
  obtain ⟨w1,hw1⟩:∃ x,w.alloc (.cells #[.int .i64 e,.slice av0 l.length cv0] 30)=x:=⟨_,rfl⟩
  obtain ⟨w2,hw2⟩:∃ x,w1.alloc (.cells #[.int .i64 0,.slice none 0 0,.slice none 0 0,.slice none 0 0,.slice none 0 0,.slice none 0 0,.slice none 0 0] 36)=x:=⟨_,rfl⟩
  have b1:Below w.heap.size w w1:=by rw [<- hw1];exact (Below.refl _ w).alloc (Nat.le_refl _) _
  have b2:Below w1.heap.size w1 w2:=by rw [<- hw2];exact (Below.refl _ w1).alloc (Nat.le_refl _) _
  have s1:w1.heap.size=w.heap.size+1:=by rw [<- hw1];simp
  have s2:w2.heap.size=w.heap.size+2:=by rw [<- hw2];simp;omega
  have k1:Blk w1 w.heap.size 30 [.int .i64 e,.slice av0 l.length cv0]:=by rw [<- hw1];exact Blk.new w _ _
  have k2:Blk w2 (w.heap.size+1) 36 [.int .i64 0,.slice none 0 0,.slice none 0 0,.slice none 0 0,.slice none 0 0,.slice none 0 0,.slice none 0 0]:=by rw [<- hw2,<- s1];exact Blk.new w1 _ _
  have k1':=k1.below b2 k1.lt
  have b02:=b1.trans (b2.mono b1.size)
  have HKL:=hide (fun V (hV:Below w2.heap.size w2 V)=>k1'.below hV (by omega))
  have HKR:=hide (fun V (hV:Below w2.heap.size w2 V)=>k2.below hV k2.lt)
  have Ha:=hide hr
  have Hr:=hide (fun V (hV:Below w.heap.size w V)=>hr.below hV (Nat.le_refl _))
  have Hf:=hide (fun V (hV:Below w.heap.size w V)=>hf.below hV (Nat.le_refl _))
  have HB:=hide b02
  have HS2:=hide s2
  have HBl:Hid (∀ V,Below w2.heap.size w2 V->Below w.heap.size w V):=hide (fun V hV=>b02.trans (hV.mono b02.size))
  have HTh:=hide (fun V (hV:Below w2.heap.size w2 V)=>(k2.below hV k2.lt).there (n:=7) rfl)
  have c0:=k1'.cell 0
  have c1:=k1'.cell 1
  simp only [List.getElem?_cons_zero,List.getElem?_cons_succ] at c0 c1
  clear b1 b2 k1 k2 k1' b02 hr hf
  have HLO:=hide (fun V (hV:Below w.heap.size w V)=>specLedgerOk_any e _ l V (Hr.out V hV) hl hall)
  have HNm:=hide (fun V (hV:Below w.heap.size w V)=>specNamesOk_any _ foul V (Hf.out V hV) hfl hfs)
  have HCp:=hide (fun V (hV:Below w.heap.size w V)=>specL6Copy_any e _ l V (Hr.out V hV) hl (fun a ha=>(hall a ha).2))
  have HHas:=hide (fun s V (hV:Below w.heap.size w V)=>specHas_any _ foul s V (Hf.out V hV) hfl)
  have HNN:=hide (fun nm (hnm:nm.size<=maxLen) V (hV:Below w.heap.size w V)=>specNodeNew_any nm e _ l V (Hr.out V hV) hnm hl hall)
  have Hall:=hide hall
  simp only [lgV] at HLO HCp HNN
  clear hall hfs
  cases hlg:lgB e l
  · rw [wnW_no (show (lgB e l && nmsB foul)=false from by rw [hlg];rfl)]
    rw [hlg] at HLO
    clear hlg
    go_enter Tryz.func6,Tryz.ntmps6
    go_wp2_with fail
    (try rw [hw1,hw2])
    clear hw1 hw2 s1 s2
    refine (HLO.out w2 HB.out).mono ?_
    rintro en w3 ⟨rfl,hb3⟩
    have B3:=hide (show Below w2.heap.size w2 w3 from hb3)
    clear hb3 c0 c1
    have HT:=hide (HTh.out w3 B3.out)
    have HK:=hide (HKR.out w3 B3.out)
    have HB3:=hide (HBl.out w3 B3.out)
    have HB9:=hide (belS (B:=w.heap.size+1) (cs:=[.int .i64 0,.slice none 0 0,.slice none 0 0,.slice none 0 0,.slice none 0 0,.slice none 0 0,.slice none 0 0]) HB3.out (by omega) HB3.out.size (Nat.le_refl _))
    go_wp2_with (refine st7S rfl _ _ rfl (w.heap.size+1) rfl rfl HT.out rfl ?_)
    refine res_wnS (F:=[.int .i64 0,.slice none 0 0,.slice none 0 0,.slice none 0 0,.slice none 0 0,.slice none 0 0,.slice none 0 0]) (w.heap.size+1) (blk_range (blk_all HK.out (by rfl))) (by rfl) rfl rfl ?_
    exact ⟨⟨.slice none 0 0,.slice none 0 0,.slice none 0 0,.slice none 0 0,.slice none 0 0,.slice none 0 0⟩,rfl,(nil_ownWd _).wide HB9.out.size (Nat.le_refl _),HB9.out⟩
  · rw [hlg] at HLO
    cases hnm:nmsB foul
    · rw [wnW_no (show (lgB e l && nmsB foul)=false from by rw [hlg,hnm];rfl)]
      rw [hnm] at HNm
      clear hlg hnm
      go_enter Tryz.func6,Tryz.ntmps6
      go_wp2_with fail
      (try rw [hw1,hw2])
      clear hw1 hw2 s1 s2
      refine (HLO.out w2 HB.out).mono ?_
      rintro en w3 ⟨rfl,hb3⟩
      have B2:=hide (show Below w2.heap.size w2 w3 from hb3)
      clear hb3 c0 c1
      go_wp2_with fail
      refine (HNm.out w3 (HBl.out w3 B2.out)).mono ?_
      rintro en w4 ⟨rfl,hb4⟩
      have B3:=hide (show Below w2.heap.size w2 w4 from B2.out.trans (hb4 _))
      clear hb4
      have HT:=hide (HTh.out w4 B3.out)
      have HK:=hide (HKR.out w4 B3.out)
      have HB3:=hide (HBl.out w4 B3.out)
      have HB9:=hide (belS (B:=w.heap.size+1) (cs:=[.int .i64 0,.slice none 0 0,.slice none 0 0,.slice none 0 0,.slice none 0 0,.slice none 0 0,.slice none 0 0]) HB3.out (by omega) HB3.out.size (Nat.le_refl _))
      go_wp2_with (refine st7S rfl _ _ rfl (w.heap.size+1) rfl rfl HT.out rfl ?_)
      refine res_wnS (F:=[.int .i64 0,.slice none 0 0,.slice none 0 0,.slice none 0 0,.slice none 0 0,.slice none 0 0,.slice none 0 0]) (w.heap.size+1) (blk_range (blk_all HK.out (by rfl))) (by rfl) rfl rfl ?_
      exact ⟨⟨.slice none 0 0,.slice none 0 0,.slice none 0 0,.slice none 0 0,.slice none 0 0,.slice none 0 0⟩,rfl,(nil_ownWd _).wide HB9.out.size (Nat.le_refl _),HB9.out⟩
    · rw [wnW_yes (show (lgB e l && nmsB foul)=true from by rw [hlg,hnm];rfl)]
      rw [hnm] at HNm
      have HNames:=hide (names_of hlg)
      have HLen:=hide (acs_len' (lg_acs hlg))
      have HOk:=hide hlg
      clear hlg hnm
      go_enter Tryz.func6,Tryz.ntmps6
      go_wp2_with fail
      (try rw [hw1,hw2])
      clear hw1 hw2 s1 s2
      refine (HLO.out w2 HB.out).mono ?_
      rintro en w3 ⟨rfl,hb3⟩
      have B2:=hide (show Below w2.heap.size w2 w3 from hb3)
      clear hb3 c0 c1
      go_wp2_with fail
      refine (HNm.out w3 (HBl.out w3 B2.out)).mono ?_
      rintro en wn ⟨rfl,hb4⟩
      have B3:=hide (show Below w2.heap.size w2 wn from B2.out.trans (hb4 _))
      clear hb4
      have kk:=HKL.out wn B3.out
      have c0:=kk.cell 0
      have c1:=kk.cell 1
      simp only [List.getElem?_cons_zero,List.getElem?_cons_succ] at c0 c1
      clear kk
      go_wp2_with (first
        | (go_at_call 20;(with_reducible refine (HCp.out wn (HBl.out wn B3.out)).mono ?_);rintro en w4 ⟨v4,rfl,o4,hb4⟩;obtain ⟨a4,c4,hv4⟩:=o4.rd.shape;subst hv4;have B4:=hide (show Below w2.heap.size w2 w4 from B3.out.trans (hb4.mono B3.out.size));have X4:=hide o4.ox;have Z4:=hide hb4.size;clear hb4 o4)
        | (at_builtin;refine app_ownS _ rfl _ _ rfl w4.heap.size _ _ [] foul rfl rfl (own_nilS w4 _ (Nat.le_refl _)) (Hf.out _ ((HBl.out w4 B4.out).alloc (HBl.out w4 B4.out).size _)) (by first | (simp;done) | (simp;omega)) (by first | (simp;done) | (simp;omega)) ?_;intro v6 w6 o6 hb6;rw [List.nil_append] at o6;obtain ⟨a6,c6,hv6⟩:=o6.rd.shape;subst hv6;obtain ⟨w7,hw7⟩:∃ x,w6.alloc (.cells #[.int .i64 0,.slice none 0 0,.slice none 0 0,.slice none 0 0,.slice none 0 0,.slice none 0 0,.slice none 0 0] 36)=x:=⟨_,rfl⟩;obtain ⟨w8,hw8⟩:∃ x,w7.setCells w6.heap.size 0 [.int .i64 e,.slice a4 l.length c4,.slice a6 foul.length c6,.slice none 0 0,.slice none 0 0,.slice none 0 0,.slice none 0 0]=x:=⟨_,rfl⟩;have k7:Blk w7 w6.heap.size 36 [.int .i64 0,.slice none 0 0,.slice none 0 0,.slice none 0 0,.slice none 0 0,.slice none 0 0,.slice none 0 0]:=(by rw [<- hw7];exact Blk.new w6 _ _);have HT7:=hide (k7.there (n:=7) rfl);have K8:=hide (show Blk w8 w6.heap.size 36 [.int .i64 e,.slice a4 l.length c4,.slice a6 foul.length c6,.slice none 0 0,.slice none 0 0,.slice none 0 0,.slice none 0 0] from by (rw [<- hw8];exact blk_all k7 (by rfl)));have N8:=hide (show w8.heap.size=w6.heap.size+1 from by (rw [<- hw8,size_sets,<- hw7];try simp));have B68:Below w6.heap.size w6 w8:=(by rw [<- hw8];exact belS (by rw [<- hw7];exact (Below.refl _ w6).alloc (Nat.le_refl _) _) (Nat.le_refl _) (by rw [<- hw7];try simp) (Nat.le_refl _));have B46:Below w4.heap.size w4 w6:=(((Below.refl _ w4).alloc (Nat.le_refl _) _).trans hb6);have B48:Below w4.heap.size w4 w8:=B46.trans (B68.mono B46.size);have B8:=hide (show Below w2.heap.size w2 w8 from B4.out.trans (B48.mono B4.out.size));have X8:=hide (X4.out.below B48 (Nat.le_refl _));have F8:=hide (show InS w4.heap.size w6.heap.size w8 (.slice a6 foul.length c6) foul from ⟨row_below o6 B68 (Nat.le_refl _),top_row o6⟩);have Z6:=hide B46.size;have kk:=HKL.out w8 B8.out;have d0:=kk.cell 0;have d1:=kk.cell 1;simp only [List.getElem?_cons_zero,List.getElem?_cons_succ] at d0 d1;clear kk k7 o6 hb6 B68 B46 B48 X4)
        | (refine st7S rfl _ _ rfl w6.heap.size rfl rfl ?_ rfl ?_;(exact HT7.out);rw [hw8])
        | fail)
      (try rw [hw8])
      clear hw7 hw8 HT7 c0 c1 d0 d1
      go_loopw [6] (fun iv wr=>∃ k:Nat,k<=l.length/\iv=.int .i64 (k:Int)/\Below w6.heap.size w8 wr/\∃ nv,Blk wr w6.heap.size 36 [.int .i64 e,.slice a4 l.length c4,.slice a6 foul.length c6,nv,.slice none 0 0,.slice none 0 0,.slice none 0 0]/\OwnNx (w6.heap.size+1) wr.heap.size wr nv (wnN e l foul (l.take k))) (fun iv _=>l.length - (intOf iv).toNat)
      case atStart=>exact ⟨0,by omega,rfl,Below.refl _ _,_,K8.out,nil_ownNx _ _ _⟩
      case round =>
        obtain ⟨k,hk,rfl,hbr,nv,kr,or_⟩:=hrel
        have y1:=B4.out.size
        have y2:=Z6.out
        have y3:=N8.out
        have y4:=hbr.size
        have y5:=HS2.out
        have y6:=B3.out.size
        have y7:=Z4.out
        have Br:=hide (show Below w2.heap.size w2 wr from B8.out.trans (hbr.mono (by omega)))
        have Hbr:=hide hbr
        have Hkr:=hide kr
        have Hor:=hide or_
        have Htop:=hide or_.top
        have kL:=HKL.out wr Br.out
        have z0:=kL.cell 0
        have z1:=kL.cell 1
        simp only [List.getElem?_cons_zero,List.getElem?_cons_succ] at z0 z1
        clear hbr kr or_ kL
        by_cases hlt:k < l.length
        · obtain ⟨b,off,lv,rfl,hc1,hc2,hbw,hat,hrl⟩:=Ha.out.atV hlt
          have hli:(k:Int) < (l.length:Int):=by omega
          have hnmz:=(Hall.out l[k] (List.getElem_mem hlt)).1
          have hok:(nmB l[k].1 && lgB e l)=true:=by rw [HNames.out k hlt,HOk.out];rfl
          have Hyes:=hide (wnN_yes e l foul l k hlt)
          have Hno:=hide (wnN_no e l foul l k hlt)
          have hLn:(wnN e l foul (l.take k)).length<=4000000:=by
            have h1:=wnN_len e l foul (l.take k)
            have h2:(l.take k).length<=l.length:=by simp;omega
            omega
          have HC0:=hide hat.c0
          have c0:=((HBl.out wr Br.out).cell (p:=⟨b,off+k * 5,none⟩) hbw).trans hat.c0
          clear hat hrl
          generalize l[k]=ak at c0 HC0 hnmz hok Hyes Hno
          obtain ⟨nm,fr,no,st,ls⟩:=ak
          simp only at c0 HC0 hnmz hok Hyes Hno
          generalize wnN e l foul (l.take k)=L at Hor hLn Hyes Hno
          have HC:=hide (HHas.out nm wr (HBl.out wr Br.out))
          cases hh:hasN foul nm
          · rw [hh] at HC
            go_wp2_with fail
            refine HC.out.mono ?_
            rintro en wc ⟨rfl,hbc⟩
            have hbx:Below wr.heap.size wr wc:=hbc
            have B9:=hide (show Below w2.heap.size w2 wc from Br.out.trans (hbx.mono Br.out.size))
            have hbE:=hide (show Below w6.heap.size w8 wc from Hbr.out.trans (hbx.mono (by omega)))
            have kB:=Hkr.out.below hbx (by omega)
            have y8:=hbx.size
            have hTop:=Htop.out
            have bD:Below wc.heap.size wc wc.drew:=(Below.refl _ wc).drew
            have oD:OwnNx (w6.heap.size+1) wc.drew.heap.size wc.drew nv L:=(Hor.out.kept ((Kept.of_below hbx (Nat.le_refl _)).trans (Kept.of_below (lo:=w6.heap.size+1) (hi:=wr.heap.size) bD (Nat.le_refl _)))).wide (Nat.le_refl _) hbx.size
            have hbs:w6.heap.size+1<=wc.drew.heap.size:=by show w6.heap.size+1<=wc.heap.size;omega
            have HSS:=hide (fun V (hV:Below wc.heap.size wc V)=>(show V.cell? ⟨b,off+k * 5,none⟩=some (.string nm)/\V.cell? ⟨w.heap.size,0,none⟩=some (.int .i64 e)/\V.cell? ⟨w.heap.size,1,none⟩=some (.slice (some ⟨b,off,none⟩) l.length cv0) from ⟨((HBl.out V (B9.out.trans (hV.mono B9.out.size))).cell (p:=⟨b,off+k * 5,none⟩) hbw).trans HC0.out,(HKL.out V (B9.out.trans (hV.mono B9.out.size))).cell 0,(HKL.out V (B9.out.trans (hV.mono B9.out.size))).cell 1⟩))
            have hS0:=HSS.out _ bD
            have kL:=HKL.out wc B9.out
            have u0:=kL.cell 0
            have u1:=kL.cell 1
            have u2:=kB.cell 3
            simp only [List.getElem?_cons_zero,List.getElem?_cons_succ] at u0 u1 u2
            clear kL c0 z0 z1 hbc
            go_wp2
            refine wp_region_held_drew (S:=fun W=>W.cell? ⟨b,off+k * 5,none⟩=some (.string nm)/\W.cell? ⟨w.heap.size,0,none⟩=some (.int .i64 e)/\W.cell? ⟨w.heap.size,1,none⟩=some (.slice (some ⟨b,off,none⟩) l.length cv0)) (by kernel_rfl) hS0 (fun hHeld=>?_)
            refine wpAnyH_take (i:=0) (v:=.pointer (some ⟨w6.heap.size,3,none⟩)) rfl (by kernel_rfl) (by kernel_rfl) (by kernel_rfl) (fun _ _ _ h=>h) (Or.inl ⟨by rfl,fun W hW=>by (obtain ⟨q0,q1,q2⟩:=hW;go_simp)⟩) (by assumption) ?_
            change wpAnyH Tryz.prog _ _ _ _ _ _ (Act.put _ (some 38) _) _
            simp only [Act.put,List.setIfInBounds_toArray,List.set_cons_zero,List.set_cons_succ]
            refine wpAnyH_take (i:=2) (v:=.pointer (some ⟨w.heap.size,1,none⟩)) rfl (by kernel_rfl) (by kernel_rfl) (by kernel_rfl) (fun _ _ _ h=>h) (Or.inl ⟨by rfl,fun W hW=>by (obtain ⟨q0,q1,q2⟩:=hW;go_simp)⟩) (by assumption) ?_
            change wpAnyH Tryz.prog _ _ _ _ _ _ (Act.put _ (some 40) _) _
            simp only [Act.put,List.setIfInBounds_toArray,List.set_cons_zero,List.set_cons_succ]
            refine wpAnyH_take (i:=3) (v:=.slice (some ⟨b,off,none⟩) l.length cv0) rfl (by kernel_rfl) (by kernel_rfl) (by kernel_rfl) (fun _ _ _ h=>h) (Or.inl ⟨by rfl,fun W hW=>by (obtain ⟨q0,q1,q2⟩:=hW;go_simp)⟩) (by assumption) ?_
            change wpAnyH Tryz.prog _ _ _ _ _ _ (Act.put _ (some 41) _) _
            simp only [Act.put,List.setIfInBounds_toArray,List.set_cons_zero,List.set_cons_succ]
            refine wpAnyH_take (i:=4) (v:=.int .i64 (k:Int)) rfl (by kernel_rfl) (by kernel_rfl) (by kernel_rfl) (fun _ _ _ h=>h) (Or.inl ⟨by rfl,fun W hW=>by (obtain ⟨q0,q1,q2⟩:=hW;go_simp)⟩) (by assumption) ?_
            change wpAnyH Tryz.prog _ _ _ _ _ _ (Act.put _ (some 42) _) _
            simp only [Act.put,List.setIfInBounds_toArray,List.set_cons_zero,List.set_cons_succ]
            refine wpAnyH_take (i:=5) (v:=.pointer (some ⟨b,off+k * 5,none⟩)) rfl (by kernel_rfl) (by kernel_rfl) (by kernel_rfl) (fun _ _ _ h=>h) (Or.inl ⟨by rfl,fun W hW=>by (obtain ⟨q0,q1,q2⟩:=hW;go_simp)⟩) (by assumption) ?_
            change wpAnyH Tryz.prog _ _ _ _ _ _ (Act.put _ (some 43) _) _
            simp only [Act.put,List.setIfInBounds_toArray,List.set_cons_zero,List.set_cons_succ]
            refine wpAnyH_take (i:=6) (v:=.pointer (some ⟨b,off+k * 5,none⟩)) rfl (by kernel_rfl) (by kernel_rfl) (by kernel_rfl) (fun _ _ _ h=>h) (Or.inl ⟨by rfl,fun W hW=>by (obtain ⟨q0,q1,q2⟩:=hW;go_simp)⟩) (by assumption) ?_
            change wpAnyH Tryz.prog _ _ _ _ _ _ (Act.put _ (some 44) _) _
            simp only [Act.put,List.setIfInBounds_toArray,List.set_cons_zero,List.set_cons_succ]
            refine wpAnyH_take (i:=7) (v:=.string nm) rfl (by kernel_rfl) (by kernel_rfl) (by kernel_rfl) (fun _ _ _ h=>h) (Or.inl ⟨by rfl,fun W hW=>by (obtain ⟨q0,q1,q2⟩:=hW;go_simp)⟩) (by assumption) ?_
            change wpAnyH Tryz.prog _ _ _ _ _ _ (Act.put _ (some 45) _) _
            simp only [Act.put,List.setIfInBounds_toArray,List.set_cons_zero,List.set_cons_succ]
            refine wpAnyH_take (i:=8) (v:=.agg #[.int .i64 e,.slice (some ⟨b,off,none⟩) l.length cv0]) rfl (by kernel_rfl) (by kernel_rfl) (by kernel_rfl) (fun _ _ _ h=>h) (Or.inl ⟨by rfl,fun W hW=>by (obtain ⟨q0,q1,q2⟩:=hW;go_simp)⟩) (by assumption) ?_
            change wpAnyH Tryz.prog _ _ _ _ _ _ (Act.put _ (some 46) _) _
            simp only [Act.put,List.setIfInBounds_toArray,List.set_cons_zero,List.set_cons_succ]
            refine wpAnyH_ready (rs:=[1,9]) (by kernel_rfl) (by simp) ?_
            refine AllReadyH.cons rfl (fun K hK=>?_) (AllReadyH.cons rfl (fun K hK=>?_) AllReadyH.nil)
            · skip
              have hy:=(kB.cell 3)
              simp only [List.getElem?_cons_zero,List.getElem?_cons_succ] at hy
              go_simp
              clear hy
              refine hK.out _ _ hS0 (fun hHeld=>?_)
              try simp only [Act.put,List.setIfInBounds_toArray,List.set_cons_zero,List.set_cons_succ]
              refine wpAnyH_ready (rs:=[9]) (by kernel_rfl) (by simp) ?_
              refine AllReadyH.cons rfl (fun K hK=>?_) AllReadyH.nil
              go_simp
              go_wp2_with (go_at_call 22;(with_reducible refine (HNN.out nm hnmz wc.drew (HBl.out _ (B9.out.trans (bD.mono B9.out.size)))).mono ?_);rintro en w10 hP;obtain ⟨aa,ca,av,cs,rfl,o10,hb10⟩:=ndP_own hP hok;simp only [ndV];have b10:=bD.trans (hb10.mono bD.size);have hS10:=HSS.out _ b10;have kB10:=kB.below b10 kB.lt)
              refine hK.out _ _ hS10 (fun hHeld=>?_)
              try simp only [Act.put,List.setIfInBounds_toArray,List.set_cons_zero,List.set_cons_succ]
              refine wpAnyH_ready (rs:=[10]) (by kernel_rfl) (by simp) ?_
              refine AllReadyH.cons rfl (fun K hK=>?_) AllReadyH.nil
              go_simp
              obtain ⟨w11,hw11⟩:∃ x,w10.alloc (.cells #[.string nm,.int .i64 e,.int .i64 e,.slice aa l.length ca,.slice av (setV l).length cs,.slice none 0 0,.int .i64 1,.int .i64 0,.int .i64 0,.int .i64 (-1),.slice none 0 0,.int .i64 0,.slice none 0 0,.slice none 0 0,.int .i64 0,.slice none 0 0,.slice none 0 0,.slice none 0 0,.slice none 0 0,.slice none 0 0] 65)=x:=⟨_,rfl⟩
              have ba:Below w10.heap.size w10 w11:=by rw [<- hw11];exact (Below.refl _ w10).alloc (Nat.le_refl _) _
              have k11:Blk w11 w10.heap.size 65 (noC (nwN nm e l) (nwU (.slice aa l.length ca) (.slice av (setV l).length cs))):=by rw [<- hw11];exact Blk.new w10 _ (noC (nwN nm e l) (nwU (.slice aa l.length ca) (.slice av (setV l).length cs)))
              have b11:=b10.trans (ba.mono b10.size)
              have hS11:=HSS.out _ b11
              have kB11:=kB.below b11 kB.lt
              (try rw [hw11])
              refine hK.out _ _ hS11 (fun hHeld=>?_)
              try simp only [Act.put,List.setIfInBounds_toArray,List.set_cons_zero,List.set_cons_succ]
              have ob:OwnNd wc.drew.heap.size w11.heap.size w11 (nwN nm e l) (nwU (.slice aa l.length ca) (.slice av (setV l).length cs)):=(o10.kept (Kept.of_below ba (Nat.le_refl _))).wide (Nat.le_refl _) ba.size
              have b1:Below wc.drew.heap.size wc.drew w11:=hb10.trans (ba.mono hb10.size)
              refine wpAnyH_ready (rs:=[11]) (by kernel_rfl) (by simp) ?_
              refine AllReadyH.cons rfl (fun K hK=>?_) AllReadyH.nil
              refine step_appNs wc.drew rfl _ _ rfl (w6.heap.size+1) nv w10.heap.size L (nwN nm e l) (nwU (.slice aa l.length ca) (.slice av (setV l).length cs)) rfl rfl oD b1 k11 ob hLn hbs ?_
              intro v12 w12 o12 hb12 hg12
              obtain ⟨a12,c12,hv12⟩:=o12.rd.shape
              simp only [List.length_append,List.length_cons,List.length_nil,Nat.zero_add] at hv12
              subst hv12
              have q12:Oth (fun g=>nv.ownBlock=some g) w11 w12:=Oth.of_grown hg12 (fun g h=>h)
              have hS12:w12.cell? ⟨b,off+k * 5,none⟩=some (.string nm)/\w12.cell? ⟨w.heap.size,0,none⟩=some (.int .i64 e)/\w12.cell? ⟨w.heap.size,1,none⟩=some (.slice (some ⟨b,off,none⟩) l.length cv0):=⟨(hb12.cell (p:=⟨b,off+k * 5,none⟩) (show b < w6.heap.size+1 by omega)).trans hS11.1,(hb12.cell (p:=⟨w.heap.size,0,none⟩) (show w.heap.size < w6.heap.size+1 by omega)).trans hS11.2.1,(hb12.cell (p:=⟨w.heap.size,1,none⟩) (show w.heap.size < w6.heap.size+1 by omega)).trans hS11.2.2⟩
              refine hK.out _ _ hS12 (fun hHeld=>?_)
              try simp only [Act.put,List.setIfInBounds_toArray,List.set_cons_zero,List.set_cons_succ]
              refine wpAnyH_take (i:=12) (v:=.pointer (some ⟨w6.heap.size,3,none⟩)) rfl (by kernel_rfl) (by kernel_rfl) (by kernel_rfl) (fun _ _ _ h=>h) (Or.inl ⟨by rfl,fun W hW=>by (obtain ⟨q0,q1,q2⟩:=hW;go_simp)⟩) (by assumption) ?_
              change wpAnyH Tryz.prog _ _ _ _ _ _ (Act.put _ (some 50) _) _
              simp only [Act.put,List.setIfInBounds_toArray,List.set_cons_zero,List.set_cons_succ]
              have kB12:=kB11.below hb12 (by omega)
              have hy:=kB12.cell 3
              simp only [List.getElem?_cons_zero,List.getElem?_cons_succ] at hy
              refine wpAnyH_ready (rs:=[13]) (by kernel_rfl) (by simp) ?_
              refine AllReadyH.cons rfl (fun K hK=>?_) AllReadyH.nil
              have hz:=kB12.frozen 3
              go_simp
              clear hy hz
              have hS13:(w12.setCell ⟨w6.heap.size,3,none⟩ (.slice a12 (L.length+1) c12)).cell? ⟨b,off+k * 5,none⟩=some (.string nm)/\(w12.setCell ⟨w6.heap.size,3,none⟩ (.slice a12 (L.length+1) c12)).cell? ⟨w.heap.size,0,none⟩=some (.int .i64 e)/\(w12.setCell ⟨w6.heap.size,3,none⟩ (.slice a12 (L.length+1) c12)).cell? ⟨w.heap.size,1,none⟩=some (.slice (some ⟨b,off,none⟩) l.length cv0):=⟨(World.cell?_setCell_far _ _ _ _ (show w6.heap.size ≠ b by omega)).trans hS12.1,(World.cell?_setCell_far _ _ _ _ (show w6.heap.size ≠ w.heap.size by omega)).trans hS12.2.1,(World.cell?_setCell_far _ _ _ _ (show w6.heap.size ≠ w.heap.size by omega)).trans hS12.2.2⟩
              refine hK.out _ _ hS13 (fun hHeld=>?_)
              try simp only [Act.put,List.setIfInBounds_toArray,List.set_cons_zero,List.set_cons_succ]
              refine wpAnyH_done (by kernel_rfl) ?_ _
              have y9:=hb12.size
              have y10:=b11.size
              have R1:=hide (kB12.setC 3 (.slice a12 (L.length+1) c12))
              have R2:=hide (o12.kept (Kept.set w12 3 (.slice a12 (L.length+1) c12) (.inl (show w6.heap.size < w6.heap.size+1 from Nat.lt_succ_self _))))
              have R3:=hide (((hbE.out.trans (b11.mono (by omega))).trans (hb12.mono (Nat.le_succ _))).grown (grown_set w12 w6.heap.size 3 (.slice a12 (L.length+1) c12)) (by omega) (fun g h=>by cases h;exact Nat.le_refl _))
              clear hS0 hS10 hS11 hS12 hS13 hHeld b10 b11 ba b1 hb10 hb12 hg12 o10 ob k11 o12 q12 kB10 kB11 kB12 HSS kB oD bD
              go_wp2
              go_roundw
              case rel=>exact ⟨k+1,by omega,by go_num,R3.out,_,R1.out,by (rw [Hno.out hh];first | exact R2.out | (rw [size_set9];exact R2.out))⟩
              case measure=>simp [intOf];omega
            · skip
              go_simp
              go_wp2_with (go_at_call 22;(with_reducible refine (HNN.out nm hnmz wc.drew (HBl.out _ (B9.out.trans (bD.mono B9.out.size)))).mono ?_);rintro en w10 hP;obtain ⟨aa,ca,av,cs,rfl,o10,hb10⟩:=ndP_own hP hok;simp only [ndV];have b10:=bD.trans (hb10.mono bD.size);have hS10:=HSS.out _ b10;have kB10:=kB.below b10 kB.lt)
              refine hK.out _ _ hS10 (fun hHeld=>?_)
              try simp only [Act.put,List.setIfInBounds_toArray,List.set_cons_zero,List.set_cons_succ]
              refine wpAnyH_ready (rs:=[1,10]) (by kernel_rfl) (by simp) ?_
              refine AllReadyH.cons rfl (fun K hK=>?_) (AllReadyH.cons rfl (fun K hK=>?_) AllReadyH.nil)
              · skip
                have hy:=(kB10.cell 3)
                simp only [List.getElem?_cons_zero,List.getElem?_cons_succ] at hy
                go_simp
                clear hy
                refine hK.out _ _ hS10 (fun hHeld=>?_)
                try simp only [Act.put,List.setIfInBounds_toArray,List.set_cons_zero,List.set_cons_succ]
                refine wpAnyH_ready (rs:=[10]) (by kernel_rfl) (by simp) ?_
                refine AllReadyH.cons rfl (fun K hK=>?_) AllReadyH.nil
                go_simp
                obtain ⟨w11,hw11⟩:∃ x,w10.alloc (.cells #[.string nm,.int .i64 e,.int .i64 e,.slice aa l.length ca,.slice av (setV l).length cs,.slice none 0 0,.int .i64 1,.int .i64 0,.int .i64 0,.int .i64 (-1),.slice none 0 0,.int .i64 0,.slice none 0 0,.slice none 0 0,.int .i64 0,.slice none 0 0,.slice none 0 0,.slice none 0 0,.slice none 0 0,.slice none 0 0] 65)=x:=⟨_,rfl⟩
                have ba:Below w10.heap.size w10 w11:=by rw [<- hw11];exact (Below.refl _ w10).alloc (Nat.le_refl _) _
                have k11:Blk w11 w10.heap.size 65 (noC (nwN nm e l) (nwU (.slice aa l.length ca) (.slice av (setV l).length cs))):=by rw [<- hw11];exact Blk.new w10 _ (noC (nwN nm e l) (nwU (.slice aa l.length ca) (.slice av (setV l).length cs)))
                have b11:=b10.trans (ba.mono b10.size)
                have hS11:=HSS.out _ b11
                have kB11:=kB.below b11 kB.lt
                (try rw [hw11])
                refine hK.out _ _ hS11 (fun hHeld=>?_)
                try simp only [Act.put,List.setIfInBounds_toArray,List.set_cons_zero,List.set_cons_succ]
                have ob:OwnNd wc.drew.heap.size w11.heap.size w11 (nwN nm e l) (nwU (.slice aa l.length ca) (.slice av (setV l).length cs)):=(o10.kept (Kept.of_below ba (Nat.le_refl _))).wide (Nat.le_refl _) ba.size
                have b1:Below wc.drew.heap.size wc.drew w11:=hb10.trans (ba.mono hb10.size)
                refine wpAnyH_ready (rs:=[11]) (by kernel_rfl) (by simp) ?_
                refine AllReadyH.cons rfl (fun K hK=>?_) AllReadyH.nil
                refine step_appNs wc.drew rfl _ _ rfl (w6.heap.size+1) nv w10.heap.size L (nwN nm e l) (nwU (.slice aa l.length ca) (.slice av (setV l).length cs)) rfl rfl oD b1 k11 ob hLn hbs ?_
                intro v12 w12 o12 hb12 hg12
                obtain ⟨a12,c12,hv12⟩:=o12.rd.shape
                simp only [List.length_append,List.length_cons,List.length_nil,Nat.zero_add] at hv12
                subst hv12
                have q12:Oth (fun g=>nv.ownBlock=some g) w11 w12:=Oth.of_grown hg12 (fun g h=>h)
                have hS12:w12.cell? ⟨b,off+k * 5,none⟩=some (.string nm)/\w12.cell? ⟨w.heap.size,0,none⟩=some (.int .i64 e)/\w12.cell? ⟨w.heap.size,1,none⟩=some (.slice (some ⟨b,off,none⟩) l.length cv0):=⟨(hb12.cell (p:=⟨b,off+k * 5,none⟩) (show b < w6.heap.size+1 by omega)).trans hS11.1,(hb12.cell (p:=⟨w.heap.size,0,none⟩) (show w.heap.size < w6.heap.size+1 by omega)).trans hS11.2.1,(hb12.cell (p:=⟨w.heap.size,1,none⟩) (show w.heap.size < w6.heap.size+1 by omega)).trans hS11.2.2⟩
                refine hK.out _ _ hS12 (fun hHeld=>?_)
                try simp only [Act.put,List.setIfInBounds_toArray,List.set_cons_zero,List.set_cons_succ]
                refine wpAnyH_take (i:=12) (v:=.pointer (some ⟨w6.heap.size,3,none⟩)) rfl (by kernel_rfl) (by kernel_rfl) (by kernel_rfl) (fun _ _ _ h=>h) (Or.inl ⟨by rfl,fun W hW=>by (obtain ⟨q0,q1,q2⟩:=hW;go_simp)⟩) (by assumption) ?_
                change wpAnyH Tryz.prog _ _ _ _ _ _ (Act.put _ (some 50) _) _
                simp only [Act.put,List.setIfInBounds_toArray,List.set_cons_zero,List.set_cons_succ]
                have kB12:=kB11.below hb12 (by omega)
                have hy:=kB12.cell 3
                simp only [List.getElem?_cons_zero,List.getElem?_cons_succ] at hy
                refine wpAnyH_ready (rs:=[13]) (by kernel_rfl) (by simp) ?_
                refine AllReadyH.cons rfl (fun K hK=>?_) AllReadyH.nil
                have hz:=kB12.frozen 3
                go_simp
                clear hy hz
                have hS13:(w12.setCell ⟨w6.heap.size,3,none⟩ (.slice a12 (L.length+1) c12)).cell? ⟨b,off+k * 5,none⟩=some (.string nm)/\(w12.setCell ⟨w6.heap.size,3,none⟩ (.slice a12 (L.length+1) c12)).cell? ⟨w.heap.size,0,none⟩=some (.int .i64 e)/\(w12.setCell ⟨w6.heap.size,3,none⟩ (.slice a12 (L.length+1) c12)).cell? ⟨w.heap.size,1,none⟩=some (.slice (some ⟨b,off,none⟩) l.length cv0):=⟨(World.cell?_setCell_far _ _ _ _ (show w6.heap.size ≠ b by omega)).trans hS12.1,(World.cell?_setCell_far _ _ _ _ (show w6.heap.size ≠ w.heap.size by omega)).trans hS12.2.1,(World.cell?_setCell_far _ _ _ _ (show w6.heap.size ≠ w.heap.size by omega)).trans hS12.2.2⟩
                refine hK.out _ _ hS13 (fun hHeld=>?_)
                try simp only [Act.put,List.setIfInBounds_toArray,List.set_cons_zero,List.set_cons_succ]
                refine wpAnyH_done (by kernel_rfl) ?_ _
                have y9:=hb12.size
                have y10:=b11.size
                have R1:=hide (kB12.setC 3 (.slice a12 (L.length+1) c12))
                have R2:=hide (o12.kept (Kept.set w12 3 (.slice a12 (L.length+1) c12) (.inl (show w6.heap.size < w6.heap.size+1 from Nat.lt_succ_self _))))
                have R3:=hide (((hbE.out.trans (b11.mono (by omega))).trans (hb12.mono (Nat.le_succ _))).grown (grown_set w12 w6.heap.size 3 (.slice a12 (L.length+1) c12)) (by omega) (fun g h=>by cases h;exact Nat.le_refl _))
                clear hS0 hS10 hS11 hS12 hS13 hHeld b10 b11 ba b1 hb10 hb12 hg12 o10 ob k11 o12 q12 kB10 kB11 kB12 HSS kB oD bD
                go_wp2
                go_roundw
                case rel=>exact ⟨k+1,by omega,by go_num,R3.out,_,R1.out,by (rw [Hno.out hh];first | exact R2.out | (rw [size_set9];exact R2.out))⟩
                case measure=>simp [intOf];omega
              · skip
                go_simp
                obtain ⟨w11,hw11⟩:∃ x,w10.alloc (.cells #[.string nm,.int .i64 e,.int .i64 e,.slice aa l.length ca,.slice av (setV l).length cs,.slice none 0 0,.int .i64 1,.int .i64 0,.int .i64 0,.int .i64 (-1),.slice none 0 0,.int .i64 0,.slice none 0 0,.slice none 0 0,.int .i64 0,.slice none 0 0,.slice none 0 0,.slice none 0 0,.slice none 0 0,.slice none 0 0] 65)=x:=⟨_,rfl⟩
                have ba:Below w10.heap.size w10 w11:=by rw [<- hw11];exact (Below.refl _ w10).alloc (Nat.le_refl _) _
                have k11:Blk w11 w10.heap.size 65 (noC (nwN nm e l) (nwU (.slice aa l.length ca) (.slice av (setV l).length cs))):=by rw [<- hw11];exact Blk.new w10 _ (noC (nwN nm e l) (nwU (.slice aa l.length ca) (.slice av (setV l).length cs)))
                have b11:=b10.trans (ba.mono b10.size)
                have hS11:=HSS.out _ b11
                have kB11:=kB.below b11 kB.lt
                (try rw [hw11])
                refine hK.out _ _ hS11 (fun hHeld=>?_)
                try simp only [Act.put,List.setIfInBounds_toArray,List.set_cons_zero,List.set_cons_succ]
                refine wpAnyH_ready (rs:=[1]) (by kernel_rfl) (by simp) ?_
                refine AllReadyH.cons rfl (fun K hK=>?_) AllReadyH.nil
                have hy:=(kB11.cell 3)
                simp only [List.getElem?_cons_zero,List.getElem?_cons_succ] at hy
                go_simp
                clear hy
                refine hK.out _ _ hS11 (fun hHeld=>?_)
                try simp only [Act.put,List.setIfInBounds_toArray,List.set_cons_zero,List.set_cons_succ]
                have ob:OwnNd wc.drew.heap.size w11.heap.size w11 (nwN nm e l) (nwU (.slice aa l.length ca) (.slice av (setV l).length cs)):=(o10.kept (Kept.of_below ba (Nat.le_refl _))).wide (Nat.le_refl _) ba.size
                have b1:Below wc.drew.heap.size wc.drew w11:=hb10.trans (ba.mono hb10.size)
                refine wpAnyH_ready (rs:=[11]) (by kernel_rfl) (by simp) ?_
                refine AllReadyH.cons rfl (fun K hK=>?_) AllReadyH.nil
                refine step_appNs wc.drew rfl _ _ rfl (w6.heap.size+1) nv w10.heap.size L (nwN nm e l) (nwU (.slice aa l.length ca) (.slice av (setV l).length cs)) rfl rfl oD b1 k11 ob hLn hbs ?_
                intro v12 w12 o12 hb12 hg12
                obtain ⟨a12,c12,hv12⟩:=o12.rd.shape
                simp only [List.length_append,List.length_cons,List.length_nil,Nat.zero_add] at hv12
                subst hv12
                have q12:Oth (fun g=>nv.ownBlock=some g) w11 w12:=Oth.of_grown hg12 (fun g h=>h)
                have hS12:w12.cell? ⟨b,off+k * 5,none⟩=some (.string nm)/\w12.cell? ⟨w.heap.size,0,none⟩=some (.int .i64 e)/\w12.cell? ⟨w.heap.size,1,none⟩=some (.slice (some ⟨b,off,none⟩) l.length cv0):=⟨(hb12.cell (p:=⟨b,off+k * 5,none⟩) (show b < w6.heap.size+1 by omega)).trans hS11.1,(hb12.cell (p:=⟨w.heap.size,0,none⟩) (show w.heap.size < w6.heap.size+1 by omega)).trans hS11.2.1,(hb12.cell (p:=⟨w.heap.size,1,none⟩) (show w.heap.size < w6.heap.size+1 by omega)).trans hS11.2.2⟩
                refine hK.out _ _ hS12 (fun hHeld=>?_)
                try simp only [Act.put,List.setIfInBounds_toArray,List.set_cons_zero,List.set_cons_succ]
                refine wpAnyH_take (i:=12) (v:=.pointer (some ⟨w6.heap.size,3,none⟩)) rfl (by kernel_rfl) (by kernel_rfl) (by kernel_rfl) (fun _ _ _ h=>h) (Or.inl ⟨by rfl,fun W hW=>by (obtain ⟨q0,q1,q2⟩:=hW;go_simp)⟩) (by assumption) ?_
                change wpAnyH Tryz.prog _ _ _ _ _ _ (Act.put _ (some 50) _) _
                simp only [Act.put,List.setIfInBounds_toArray,List.set_cons_zero,List.set_cons_succ]
                have kB12:=kB11.below hb12 (by omega)
                have hy:=kB12.cell 3
                simp only [List.getElem?_cons_zero,List.getElem?_cons_succ] at hy
                refine wpAnyH_ready (rs:=[13]) (by kernel_rfl) (by simp) ?_
                refine AllReadyH.cons rfl (fun K hK=>?_) AllReadyH.nil
                have hz:=kB12.frozen 3
                go_simp
                clear hy hz
                have hS13:(w12.setCell ⟨w6.heap.size,3,none⟩ (.slice a12 (L.length+1) c12)).cell? ⟨b,off+k * 5,none⟩=some (.string nm)/\(w12.setCell ⟨w6.heap.size,3,none⟩ (.slice a12 (L.length+1) c12)).cell? ⟨w.heap.size,0,none⟩=some (.int .i64 e)/\(w12.setCell ⟨w6.heap.size,3,none⟩ (.slice a12 (L.length+1) c12)).cell? ⟨w.heap.size,1,none⟩=some (.slice (some ⟨b,off,none⟩) l.length cv0):=⟨(World.cell?_setCell_far _ _ _ _ (show w6.heap.size ≠ b by omega)).trans hS12.1,(World.cell?_setCell_far _ _ _ _ (show w6.heap.size ≠ w.heap.size by omega)).trans hS12.2.1,(World.cell?_setCell_far _ _ _ _ (show w6.heap.size ≠ w.heap.size by omega)).trans hS12.2.2⟩
                refine hK.out _ _ hS13 (fun hHeld=>?_)
                try simp only [Act.put,List.setIfInBounds_toArray,List.set_cons_zero,List.set_cons_succ]
                refine wpAnyH_done (by kernel_rfl) ?_ _
                have y9:=hb12.size
                have y10:=b11.size
                have R1:=hide (kB12.setC 3 (.slice a12 (L.length+1) c12))
                have R2:=hide (o12.kept (Kept.set w12 3 (.slice a12 (L.length+1) c12) (.inl (show w6.heap.size < w6.heap.size+1 from Nat.lt_succ_self _))))
                have R3:=hide (((hbE.out.trans (b11.mono (by omega))).trans (hb12.mono (Nat.le_succ _))).grown (grown_set w12 w6.heap.size 3 (.slice a12 (L.length+1) c12)) (by omega) (fun g h=>by cases h;exact Nat.le_refl _))
                clear hS0 hS10 hS11 hS12 hS13 hHeld b10 b11 ba b1 hb10 hb12 hg12 o10 ob k11 o12 q12 kB10 kB11 kB12 HSS kB oD bD
                go_wp2
                go_roundw
                case rel=>exact ⟨k+1,by omega,by go_num,R3.out,_,R1.out,by (rw [Hno.out hh];first | exact R2.out | (rw [size_set9];exact R2.out))⟩
                case measure=>simp [intOf];omega
          · rw [hh] at HC
            go_wp2_with fail
            refine HC.out.mono ?_
            rintro en wc ⟨rfl,hbc⟩
            have hbx:Below wr.heap.size wr wc:=hbc
            have R1:=hide (Hkr.out.below hbx (by omega))
            have R2:=hide ((Hor.out.kept (Kept.of_below hbx (Nat.le_refl _))).wide (Nat.le_refl _) hbx.size)
            have R3:=hide (Hbr.out.trans (hbx.mono (by omega)))
            clear hbx hbc
            go_wp2
            go_roundw
            case rel=>exact ⟨k+1,by omega,by go_num,R3.out,_,R1.out,by rw [Hyes.out hh];exact R2.out⟩
            case measure=>simp [intOf];omega
        · have ek:k=l.length:=by omega
          subst ek
          rw [List.take_length] at Hor
          obtain ⟨an,cn,hnv⟩:=Hor.out.rd.shape
          subst hnv
          obtain ⟨F,hF⟩:∃ x,([.int .i64 e,.slice a4 l.length c4,.slice a6 foul.length c6,.slice an (wnN e l foul l).length cn,.slice none 0 0,.slice none 0 0,.slice none 0 0]:List Value)=x:=⟨_,rfl⟩
          have hFl:F.length=7:=by rw [<- hF];rfl
          have hF1:F.toArray.all (·.oneCell')=true:=by rw [List.all_toArray,<- hF];rfl
          have IF:=hide (show (Tryz.prog.info? 36).map (·.size)=some F.length from by rw [hFl];exact Tryz.infoWn)
          have RF:=hide (show wr.rangeAt w6.heap.size 0 F from by rw [<- hF];exact blk_range Hkr.out)
          have HR:=hide (HKR.out wr Br.out)
          have Hth:=hide (show wr.there (w.heap.size+1) 0 F.toArray.size from by rw [show F.toArray.size=7 from by simpa using hFl];exact HR.out.there rfl)
          have HX:=hide (show Blk (wr.setCells (w.heap.size+1) 0 F) (w.heap.size+1) 36 F from blk_all HR.out (by rw [hFl];rfl))
          have HB9:=hide (belS (B:=w.heap.size+1) (cs:=F) (HBl.out wr Br.out) (by omega) (HBl.out wr Br.out).size (Nat.le_refl _))
          have HZ9:=hide (show (wr.setCells (w.heap.size+1) 0 F).heap.size=wr.heap.size from size_sets _ F _ 0)
          have F1:=hide ((X8.out.kept (Kept.of_belowT Hbr.out (by omega))).kept (Kept.setCs (g:=w.heap.size+1) _ 0 F (.inl (by omega))))
          have F2:=hide ((F8.out.kept (Kept.of_belowT Hbr.out (by omega))).kept (Kept.setCs (g:=w.heap.size+1) _ 0 F (.inl (by omega))))
          have F3:=hide (Hor.out.kept (Kept.setCs (g:=w.heap.size+1) _ 0 F (.inl (by omega))))
          have HFl:=hide hFl
          clear hFl
          go_wp2_with (first
            | (refine wpList_load_mid rfl 36 _ rfl w6.heap.size 0 rfl F _ RF.out Tryz.underlying36 rfl IF.out ?_)
            | (refine wpList_store_mid rfl 36 _ _ rfl (w.heap.size+1) 0 F.toArray rfl rfl Hth.out (by simpa using IF.out) hF1 ?_)
            | fail)
          (try simp only [List.toList_toArray])
          refine res_wnS (F:=F) (w.heap.size+1) (blk_range HX.out) (by rfl) HFl.out rfl ?_
          have hz9:=HZ9.out
          refine ⟨⟨.slice a4 l.length c4,.slice a6 foul.length c6,.slice an (wnN e l foul l).length cn,.slice none 0 0,.slice none 0 0,.slice none 0 0⟩,by rw [<- hF];rfl,⟨⟨wn.heap.size,w4.heap.size,w6.heap.size+1,wr.heap.size,wr.heap.size,wr.heap.size,wr.heap.size,by omega,by omega,by omega,by omega,by omega,by omega,by omega,by omega,.inr F1.out,F2.out.wide (Nat.le_refl _) (Nat.le_succ _),F3.out,nil_ownKx _ _ _,nil_ownSx _ _ _,nil_ownMx _ _ _⟩⟩,HB9.out⟩
end Go.Proofs.YthidkbhiikdokaaGreat
