/- errors.As at the program's own error. -/
import Derived.Test.YthehfkafcdociaaGreatDoorZyLgImpl
import Derived.Test.YthehfkafcdociaaGreatDoorZyTxOkI
set_option maxRecDepth 20000
set_option maxHeartbeats 4000000
namespace Go.Proofs.YthehfkafcdociaaGreatDoor
open Go.RowKit
set_option linter.unusedVariables false
def AoPost (e:Int) (l:List Ac) (t:Tx5) (w:World) (en:Ending) (w':World):Prop :=
  ((apA e l t).2 ≠ 0->en=.returned (.tuple #[lgV 0 (.slice none 0 0),lkV (apA e l t).2])) /\
  ((apA e l t).2=0->∃ v',en=.returned (.tuple #[lgV e v',.nilIface])/\OwnA w.heap.size w' v' (apA e l t).1)/\Below w.heap.size w w'
theorem AoPost.bad {e:Int} {l:List Ac} {t:Tx5} {w w':World} {c:Int} (h:(apA e l t).2=c) (hc:c ≠ 0) (hb:Below w.heap.size w w'):AoPost e l t w (.returned (.tuple #[lgV 0 (.slice none 0 0),lkV c])) w' :=
  ⟨fun _=>by rw [h],fun h0=>absurd (h.symm.trans h0) hc,hb⟩
theorem AoPost.good {e:Int} {l m:List Ac} {t:Tx5} {w w':World} {v':Value} (h:apA e l t=(m,0)) (ho:OwnA w.heap.size w' v' m) (hb:Below w.heap.size w w'):AoPost e l t w (.returned (.tuple #[lgV e v',.nilIface])) w' :=
  ⟨fun h0=>absurd (by rw [h]) h0,fun _=>⟨v',rfl,by rw [h];exact ho⟩,hb⟩
theorem crA_len (l:List Ac) (s:ByteArray) (n:Int):(crA l s n).1.length<=l.length+1:=by
  unfold crA
  split
  · split
    · exact insA_len _ _
    · simp
  · simp
theorem aftA_lv (l:List Ac) (s:ByteArray) (n:Int) (h:∀ a ∈ l,a.2.2.2.2.length<=4000000):(aftA l s n).2.2.2.2.length<=4000000:=by
  unfold aftA
  cases hg:getA s l with
  | none=>simp
  | some a=>exact h a (getA_some hg).2
theorem crA_mem' {l:List Ac} {s:ByteArray} {n:Int} (hs:s.size<=maxLen) (h:∀ a ∈ l,a.1.size<=maxLen/\a.2.2.2.2.length<=4000000):∀ a ∈ (crA l s n).1,a.1.size<=maxLen/\a.2.2.2.2.length<=4000000:=by
  unfold crA
  split
  · split
    · intro a ha
      rcases insA_mem _ _ _ ha with rfl | ha
      · exact ⟨by rw [aftA_name];exact hs,aftA_lv l s n (fun a ha=>(h a ha).2)⟩
      · exact h a ha
    · exact h
  · exact h
theorem dn_says {e:Int} {l:List Ac} {t:Tx5} {k:Nat} (hl:lgB e l=true) (ht:txB t=true) (hk:k < l.length) (hs:¬ hasA t l[k] < t.2.2.2.1) :
    ((dnA e t l k).2=false->lgB e (doA e t l k)=false)/\((dnA e t l k).2=true->(dnA e t l k).1=doA e t l k):=by
  have hgd:=getD_at l k hk
  by_cases h1:t.1=1
  · unfold hasA at hs
    rw [if_neg (by omega)] at hs
    obtain ⟨p1,p2⟩:=pay_full (e:=e) hl ht h1 hk (by omega)
    have e1:dnA e t l k=crA (l.set k (gvA e t l[k])) t.2.2.1 t.2.2.2.1:=by unfold dnA;rw [if_pos h1,hgd]
    rw [e1]
    exact ⟨fun h=>by rw [<- p1];exact h,p2⟩
  · have e1:dnA e t l k=(l.set k (gvA e t l[k]),true):=by unfold dnA;rw [if_neg h1,hgd]
    have e2:doA e t l k=l.set k (gvA e t l[k]):=by unfold doA;rw [if_neg h1,hgd]
    rw [e1,e2]
    exact ⟨fun h=>by simp at h,fun _=>rfl⟩
theorem dn_few {e:Int} {l:List Ac} {t:Tx5} {k:Nat} (hk:k < l.length) (hl:l.length<=3999999) (hall:∀ a ∈ l,a.1.size<=maxLen/\a.2.2.2.2.length<=3999999) (ht:t.2.2.1.size<=maxLen) :
    (dnA e t l k).1.length<=4000000/\∀ a ∈ (dnA e t l k).1,a.1.size<=maxLen/\a.2.2.2.2.length<=4000000:=by
  have hgd:=getD_at l k hk
  have hal:=gv_all (e:=e) (t:=t) hk hall
  unfold dnA
  rw [hgd]
  split
  · have:=crA_len (l.set k (gvA e t l[k])) t.2.2.1 t.2.2.2.1
    rw [List.length_set] at this
    exact ⟨by omega,crA_mem' ht hal⟩
  · exact ⟨by simp;omega,hal⟩
theorem RdA.atQ {w:World} {a:Option Addr} {cap i:Nat} {l:List Ac} (h:RdA w (.slice a l.length cap) l) (hi:i < l.length) :
    ∃ b off lv,a=some ⟨b,off,none⟩/\b < w.heap.size/\AcAt w b (off+i * 5) l[i] lv/\RdL w lv l[i].2.2.2.2:=by
  rcases h with ⟨a',cap',e,rfl,-⟩ | ⟨b,off,cap',h0,e,h1,h2,h3,h4⟩
  · simp at hi
  · simp only [Value.slice.injEq,true_and] at e
    obtain ⟨rfl,rfl⟩:=e
    obtain ⟨lv,q1,q2⟩:=h4 i hi
    exact ⟨b,off,lv,rfl,h3,q1,q2⟩
theorem implAfter_any (e:Int) (v:Value) (l:List Ac) (t:Tx5) (w:World) (hr:RdA w v l) (hl:l.length<=3999999) (hall:∀ a ∈ l,a.1.size<=maxLen/\a.2.2.2.2.length<=3999999) (hf:t.2.1.size<=maxLen) (ht:t.2.2.1.size<=maxLen) :
    Calls Tryz.prog 130 #[lgV e v,txV t] w fun en w'=>AoPost e l t w en w':=by
  obtain ⟨av,cv,rfl⟩:=hr.shape
  have hall1:∀ a ∈ l,a.1.size<=maxLen/\a.2.2.2.2.length<=4000000:=fun a ha=>by have:=hall a ha;omega
  have hall2:∀ a ∈ l,a.2.2.2.2.length<=4000000:=fun a ha=>(hall1 a ha).2
  obtain ⟨kd,fm,tO,am,nc⟩:=t
  obtain ⟨w1,hw1⟩:∃ w1,w.alloc (.cells #[.int .i64 e,.slice av l.length cv] 36)=w1:=⟨_,rfl⟩
  obtain ⟨w2,hw2⟩:∃ w2,w1.alloc (.cells #[.int .i64 kd,.string fm,.string tO,.int .i64 am,.int .i64 nc] 117)=w2:=⟨_,rfl⟩
  obtain ⟨w3,hw3⟩:∃ w3,w2.alloc (.cells #[.int .i64 0,.slice none 0 0] 36)=w3:=⟨_,rfl⟩
  have s1:w1.heap.size=w.heap.size+1:=by rw [<- hw1];simp
  have s2:w2.heap.size=w.heap.size+1+1:=by rw [<- hw2];simp;omega
  have s3:w3.heap.size=w.heap.size+1+1+1:=by rw [<- hw3];simp;omega
  have hB3:Below w.heap.size w w3:=by rw [<- hw3,<- hw2,<- hw1];exact (((Below.refl _ w).alloc (Nat.le_refl _) _).alloc (by simp) _).alloc (by simp;omega) _
  have kL:Blk w3 w.heap.size 36 [.int .i64 e,.slice av l.length cv]:=by rw [<- hw3,<- hw2,<- hw1];exact ((Blk.new w _ _).alloc _).alloc _
  have kT:Blk w3 (w.heap.size+1) 117 [.int .i64 kd,.string fm,.string tO,.int .i64 am,.int .i64 nc]:=by
    rw [<- hw3,<- hw2,<- s1]
    exact (Blk.new w1 _ _).alloc _
  have kR:Blk w3 (w.heap.size+1+1) 36 [.int .i64 0,.slice none 0 0]:=by rw [<- hw3,<- s2];exact Blk.new w2 _ _
  have HO:=hide (fun W h=>implLedgerOk_any e (.slice av l.length cv) l W h (by omega) hall1)
  have HX:=hide (fun W=>implTxOk_any (kd,fm,tO,am,nc) W hf ht)
  have HD:=hide (fun W h=>implCopiedLg_any e (.slice av l.length cv) l W h (by omega) hall2)
  have HA:=hide (fun V W h=>implAcctAt_any V l fm W h (by omega))
  have HOr:=hide (fun W=>orderOf_any (kd,fm,tO,am,nc) W)
  have Hr:=hide hr
  have Hall:=hide hall
  obtain ⟨T,hT⟩:∃ T:Tx5,(kd,fm,tO,am,nc)=T:=⟨_,rfl⟩
  have HT:=hide hT
  have HP:Hid (∀ en w',AoPost e l (kd,fm,tO,am,nc) w en w'->AoPost e l T w en w'):=hide (fun en w' h=>by rw [<- hT];exact h)
  simp only [lgV,txV] at HO HX HD HOr ⊢
  rw [hT]
  have l0:=kL.cell 0
  have l1:=kL.cell 1
  simp only [List.getElem?_cons_zero,List.getElem?_cons_succ] at l0 l1
  clear hr hall hall1 hall2 hT
  go_enter Tryz.func130,Tryz.ntmps130
  go_wp2_with fail
  refine (HO.out _ (Hr.out.below hB3 (Nat.le_refl _))).mono ?_
  rintro en w4 ⟨rfl,hb4⟩
  have hB4:Below w.heap.size w w4:=hB3.trans (hb4.mono hB3.size)
  replace kL:=kL.below hb4 kL.lt
  replace kT:=kT.below hb4 kT.lt
  replace kR:=kR.below hb4 kR.lt
  clear l0 l1
  cases h1:lgB e l
  · have Hap:=hide (apA_form (e:=e) (l:=l) (t:=(kd,fm,tO,am,nc)) (by rw [h1];rfl))
    have r0:=kR.cell 0
    have r1:=kR.cell 1
    have g0:=kR.frozen 0
    have g1:=kR.frozen 1
    simp only [List.getElem?_cons_zero,List.getElem?_cons_succ] at r0 r1
    go_wp2
    refine bodyPost_ret (v:=.tuple #[lgV 0 (.slice none 0 0),lkV 1]) (by simp [results,Tryz.f130,go_sem,r0,r1,lgV,lkV]) rfl ?_
    exact HP.out _ _ (AoPost.bad (by rw [Hap.out]) (by decide) ((hB4.setCell (p:=⟨w.heap.size+1+1,0,none⟩) (show w.heap.size<=w.heap.size+1+1 by omega) _).setCell (p:=⟨w.heap.size+1+1,1,none⟩) (show w.heap.size<=w.heap.size+1+1 by omega) _))
  · have t0 := kT.cell 0
    have t1:=kT.cell 1
    have t2:=kT.cell 2
    have t3:=kT.cell 3
    have t4:=kT.cell 4
    simp only [List.getElem?_cons_zero,List.getElem?_cons_succ] at t0 t1 t2 t3 t4
    have H1:=hide h1
    clear h1
    go_wp2_with fail
    refine (HX.out _).mono ?_
    rintro en w5 ⟨rfl,hb5⟩
    have hB5:Below w.heap.size w w5:=hB4.trans (hb5.mono hB4.size)
    replace kL:=kL.below hb5 kL.lt
    replace kT:=kT.below hb5 kT.lt
    replace kR:=kR.below hb5 kR.lt
    clear t0 t1 t2 t3 t4
    cases h2:txB (kd,fm,tO,am,nc)
    · have Hap:=hide (apA_form (e:=e) (l:=l) (t:=(kd,fm,tO,am,nc)) (by rw [H1.out,h2];rfl))
      have r0:=kR.cell 0
      have r1:=kR.cell 1
      have g0:=kR.frozen 0
      have g1:=kR.frozen 1
      simp only [List.getElem?_cons_zero,List.getElem?_cons_succ] at r0 r1
      go_wp2
      refine bodyPost_ret (v:=.tuple #[lgV 0 (.slice none 0 0),lkV 1]) (by simp [results,Tryz.f130,go_sem,r0,r1,lgV,lkV]) rfl ?_
      exact HP.out _ _ (AoPost.bad (by rw [Hap.out]) (by decide) ((hB5.setCell (p:=⟨w.heap.size+1+1,0,none⟩) (show w.heap.size<=w.heap.size+1+1 by omega) _).setCell (p:=⟨w.heap.size+1+1,1,none⟩) (show w.heap.size<=w.heap.size+1+1 by omega) _))
    · have H2 : Hid ((lgB e l && txB (kd,fm,tO,am,nc))=true):=hide (by rw [H1.out,h2];rfl)
      have Hx:=hide h2
      have l0:=kL.cell 0
      have l1:=kL.cell 1
      simp only [List.getElem?_cons_zero,List.getElem?_cons_succ] at l0 l1
      have t1:=kT.cell 1
      simp only [List.getElem?_cons_zero,List.getElem?_cons_succ] at t1
      clear h2 HX
      go_wp2_with fail
      refine (HA.out _ _ (Hr.out.below hB5 (Nat.le_refl _))).mono ?_
      rintro en w6 ⟨rfl,hb6⟩
      have hB6:Below w.heap.size w w6:=hB5.trans (hb6.mono hB5.size)
      replace kL:=kL.below hb6 kL.lt
      replace kT:=kT.below hb6 kT.lt
      replace kR:=kR.below hb6 kR.lt
      clear l0 l1 t1 HA
      rcases at_cases l fm with hat | ⟨k,hk,hat,hkn,hkb⟩
      · have Hap:=hide (apA_none (t:=(kd,fm,tO,am,nc)) H2.out (by show atA l fm < 0;rw [hat];decide))
        rw [hat]
        have r0:=kR.cell 0
        have r1:=kR.cell 1
        have g0:=kR.frozen 0
        have g1:=kR.frozen 1
        simp only [List.getElem?_cons_zero,List.getElem?_cons_succ] at r0 r1
        go_wp2
        refine bodyPost_ret (v:=.tuple #[lgV 0 (.slice none 0 0),lkV 2]) (by simp [results,Tryz.f130,go_sem,r0,r1,lgV,lkV]) rfl ?_
        exact HP.out _ _ (AoPost.bad (by rw [Hap.out]) (by decide) ((hB6.setCell (p:=⟨w.heap.size+1+1,0,none⟩) (show w.heap.size<=w.heap.size+1+1 by omega) _).setCell (p:=⟨w.heap.size+1+1,1,none⟩) (show w.heap.size<=w.heap.size+1+1 by omega) _))
      · rw [hat]
        have Hat:=hide hat
        have hgd:l.getD k ac0=l[k]:=getD_at l k hk
        have htp:=tx_parts Hx.out
        have hlg:lgB e l=true:=H1.out
        have hasc:=asc_lv (ac_parts (acs_at (lg_acs hlg) k hk)).2.2.2.2.2
        have Hwl:=hide (wl_lv am (wrap64 (e+2)) l[k].2.2.2.2 hasc)
        have Hfew:=hide (dn_few (e:=e) (t:=(kd,fm,tO,am,nc)) hk hl Hall.out ht)
        have Hsay:=hide (dn_says (e:=e) (t:=(kd,fm,tO,am,nc)) H1.out Hx.out hk)
        obtain ⟨b,off,lv,rfl,hbw,hatk,hrl⟩:=Hr.out.atQ hk
        have HDn:Hid (∀ (base g cap:Nat) (Z:List (Ac × Value)) (W:World),RowG base W g l.length cap Z->Z.map (·.1)=l->Calls Tryz.prog 143 #[.agg #[.int .i64 e,.slice (some ⟨g,0,none⟩) l.length cap],.int .i64 (k:Int),orV (kd,fm,tO,am,nc)] W fun en w'=>∃ v',en=.returned (.tuple #[.agg #[.int .i64 e,v'],.bool (dnA e (kd,fm,tO,am,nc) l k).2])/\OwnA base w' v' (dnA e (kd,fm,tO,am,nc) l k).1/\Below base W w'):=hide (fun base g cap Z W h1 h2=>done_any e (kd,fm,tO,am,nc) g cap Z l k base W h1 h2 hk htp.2.2.2 hl Hall.out ht Hwl.out)
        have Htp:=hide htp
        have hatw:=hatk.below hB6 hbw
        have hki:(k:Int) < (l.length:Int):=by omega
        have hk0:(0:Int)<=(k:Int):=by omega
        obtain ⟨av9,cv9,hlv⟩:=hrl.shape
        subst hlv
        have HAt:Hid (∀ W,Below w.heap.size w W->AcAt W b (off+k * 5) l[k] (.slice av9 l[k].2.2.2.2.length cv9)):=hide (fun W hW=>hatk.below hW hbw)
        have Hnon:=hide (fun h=>apA_nonce (t:=(kd,fm,tO,am,nc)) H2.out Hat.out (by rw [hgd];exact h))
        have Hsho:=hide (fun h h3=>apA_short (t:=(kd,fm,tO,am,nc)) H2.out Hat.out (by rw [hgd];exact h) (by rw [hgd];exact h3))
        have Hful:=hide (fun h h3 h4=>apA_full (t:=(kd,fm,tO,am,nc)) H2.out Hat.out (by rw [hgd];exact h) (by rw [hgd];exact h3) h4)
        have Hgoo:=hide (fun h h3 h4=>apA_good (t:=(kd,fm,tO,am,nc)) H2.out Hat.out (by rw [hgd];exact h) (by rw [hgd];exact h3) h4)
        have Hcap:Hid (∀ W,Below w.heap.size w W->RdA W (.slice (some ⟨b,off,none⟩) l.length cv) l):=hide (fun W hW=>Hr.out.below hW (Nat.le_refl _))
        clear htp hasc hlg hatk hrl hgd H1 H2 Hx Hat hkn hkb hat Hwl Hall Hr
        generalize hak:l[k]=ak at hatw HAt Hnon Hsho Hful Hgoo Hsay
        clear hak
        obtain ⟨nm,fr,no,st,ls⟩:=ak
        have c2:=hatw.c2
        have l1:=kL.cell 1
        have t4:=kT.cell 4
        simp only [List.getElem?_cons_zero,List.getElem?_cons_succ] at c2 l1 t4
        simp only at Hnon Hsho Hful Hgoo Hsay HAt
        clear hatw
        have KL:=hide kL
        have KT:=hide kT
        have KR:=hide kR
        have HB6:=hide hB6
        go_upto_region 6 with fail
        go_region
        have bD:Below w6.heap.size w6 w6.drew:=(Below.refl _ w6).drew
        replace kL:=KL.out.below bD KL.out.lt
        replace kT:=KT.out.below bD KT.out.lt
        replace kR:=KR.out.below bD KR.out.lt
        have hBD:Below w.heap.size w w6.drew:=HB6.out.drew
        clear c2 l1 t4 KL KT KR
        generalize w6.drew=wD at kL kT kR hBD bD ⊢
        by_cases hn:no=nc
        · subst hn
          have t0:=kT.cell 0
          have t1:=kT.cell 1
          have t2:=kT.cell 2
          have t3:=kT.cell 3
          have t4:=kT.cell 4
          simp only [List.getElem?_cons_zero,List.getElem?_cons_succ] at t0 t1 t2 t3 t4
          go_wp2_with fail
          refine (HOr.out _).mono ?_
          rintro en w7 ⟨rfl,hb7⟩
          have hB7:Below w.heap.size w w7:=hBD.trans (hb7.mono hBD.size)
          replace kL:=kL.below hb7 kL.lt
          replace kT:=kT.below hb7 kT.lt
          replace kR:=kR.below hb7 kR.lt
          clear t0 t1 t2 t3 t4 HOr
          have hat7:=HAt.out _ hB7.drew
          obtain ⟨c0,c1,c2,c3,c4⟩:=hat7
          simp only at c0 c1 c2 c3 c4
          have HSb:Hid (∀ W,Below w7.heap.size w7 W->(W.cell? ⟨w.heap.size,1,none⟩=some (.slice (some ⟨b,off,none⟩) l.length cv)/\W.cell? ⟨w.heap.size+1,3,none⟩=some (.int .i64 am)/\W.cell? ⟨b,off+k * 5,none⟩=some (.string nm)/\W.cell? ⟨b,off+k * 5+1,none⟩=some (.int .i64 fr)/\W.cell? ⟨b,off+k * 5+2,none⟩=some (.int .i64 no)/\W.cell? ⟨b,off+k * 5+3,none⟩=some (.int .i64 st)/\W.cell? ⟨b,off+k * 5+4,none⟩=some (.slice av9 ls.length cv9))):=hide (fun W hW=>by
            have y1:=kL.below hW kL.lt
            have y2:=kT.below hW kT.lt
            obtain ⟨z0,z1,z2,z3,z4⟩:=HAt.out W (hB7.trans (hW.mono hB7.size))
            exact ⟨y1.cell 1,y2.cell 3,z0,z1,z2,z3,z4⟩)
          have KL:=hide kL
          have KT:=hide kT
          have KR:=hide kR
          have HB7:=hide hB7
          have hmf:∀ (fn:Fn) (first cap:Array Value) (w:World),(Instr.makeFunc fn first cap).run Tryz.prog w=.ok (.func fn first cap) w:=fun _ _ _ _=>rfl
          clear kL kT kR c0 c1 c2 c3 c4
          have bE:Below w7.heap.size w7 w7.drew:=(Below.refl _ w7).drew
          have hS7:=HSb.out _ bE
          rcases Htp.out.2.2.2 with rfl | rfl | rfl
          · have HV:Hid (orV (1,fm,tO,am,no)=.iface 248 (.agg #[.string tO,.int .i64 am])):=hide rfl
            rw [HV.out] at HDn ⊢
            have mth:=Tryz.purseP
            have ahd:=Tryz.aheadP
            have HC:=hide (purseP_any tO am (nm,fr,no,st,ls) (.slice av9 ls.length cv9) w7.drew ⟨_,_,_,rfl⟩)
            simp only [acV] at HC
            go_upto_region 9 with fail
            go_region_held_law (fun w'=>w'.cell? ⟨w.heap.size,1,none⟩=some (.slice (some ⟨b,off,none⟩) l.length cv)/\w'.cell? ⟨w.heap.size+1,3,none⟩=some (.int .i64 am)/\w'.cell? ⟨b,off+k * 5,none⟩=some (.string nm)/\w'.cell? ⟨b,off+k * 5+1,none⟩=some (.int .i64 fr)/\w'.cell? ⟨b,off+k * 5+2,none⟩=some (.int .i64 no)/\w'.cell? ⟨b,off+k * 5+3,none⟩=some (.int .i64 st)/\w'.cell? ⟨b,off+k * 5+4,none⟩=some (.slice av9 ls.length cv9)) (first | with_reducible exact hS7 | with_reducible exact hS8) ((go_at_call 210;refine HC.out.mono ?_;rintro en w8 ⟨rfl,hb8⟩;have b8:=bE.trans (hb8.mono bE.size);have hS8:=HSb.out _ b8))
            have kL:=KL.out.below b8 KL.out.lt
            have kT:=KT.out.below b8 KT.out.lt
            have kR:=KR.out.below b8 KR.out.lt
            have hB8:=HB7.out.trans (b8.mono HB7.out.size)
            clear hS7 hS8 HSb HC KL KT KR hmf mth ahd
            by_cases hs:fr < am
            · have Hap:=hide (Hsho.out (by first | exact rfl | trivial) (show hasA (1,fm,tO,am,no) (nm,fr,no,st,ls) < am from hs))
              have r0:=kR.cell 0
              have r1:=kR.cell 1
              have g0:=kR.frozen 0
              have g1:=kR.frozen 1
              simp only [List.getElem?_cons_zero,List.getElem?_cons_succ] at r0 r1
              go_wp2
              refine bodyPost_ret (v:=.tuple #[lgV 0 (.slice none 0 0),lkV 4]) (by simp [results,Tryz.f130,go_sem,r0,r1,lgV,lkV]) rfl ?_
              exact HP.out _ _ (AoPost.bad (by rw [Hap.out]) (by decide) ((hB8.setCell (p:=⟨w.heap.size+1+1,0,none⟩) (show w.heap.size<=w.heap.size+1+1 by omega) _).setCell (p:=⟨w.heap.size+1+1,1,none⟩) (show w.heap.size<=w.heap.size+1+1 by omega) _))
            · have hs9:¬ hasA (1,fm,tO,am,no) (nm,fr,no,st,ls) < am:=hs
              have Hful2:=hide (Hful.out (by first | exact rfl | trivial) (by first | exact hs9 | exact Int.not_lt.1 hs9))
              have Hgoo2:=hide (Hgoo.out (by first | exact rfl | trivial) (by first | exact hs9 | exact Int.not_lt.1 hs9))
              have Hsay2:=hide (Hsay.out (by first | exact hs9 | exact Int.not_lt.1 hs9))
              clear hs9
              have l0:=kL.cell 0
              have l1:=kL.cell 1
              simp only [List.getElem?_cons_zero,List.getElem?_cons_succ] at l0 l1
              generalize dnA e (1,fm,tO,am,no) l k=P at HDn Hsay2 Hfew
              obtain ⟨P,pb⟩:=P
              simp only at HDn Hsay2 Hfew
              clear Hsho Hful Hgoo Hsay Hnon kT
              go_wp2_with fail
              refine (HD.out _ (Hcap.out _ hB8)).mono ?_
              rintro en w9 ⟨v9,rfl,o9,hb9⟩
              have hB9:=hB8.trans (hb9.mono hB8.size)
              have kR9:=kR.below hb9 kR.lt
              have hlt9:=kR.lt
              obtain ⟨g,cap,Z,rfl,hZ,hG⟩:=o9.rowG
              have HDo:=hide (HDn.out w8.heap.size g cap Z w9 hG hZ)
              have z9:=hb9.size
              have s8:=hB8.size
              clear l0 l1 hG o9 kL HDn
              go_wp2_with fail
              refine HDo.out.mono ?_
              rintro en w10 ⟨v10,rfl,o10,hb10⟩
              have hB10:=hB9.trans (hb10.mono s8)
              have kR10:=kR9.below hb10 hlt9
              have z10:=hb10.size
              obtain ⟨a10,c10,rfl⟩:=o10.rd.shape
              obtain ⟨w11,hw11⟩:∃ x,w10.alloc (.cells #[.int .i64 0,.slice none 0 0] 36)=x:=⟨_,rfl⟩
              have b11:Below w10.heap.size w10 w11:=by rw [<- hw11];exact (Below.refl _ w10).alloc (Nat.le_refl _) _
              have kF11:Blk w11 w10.heap.size 36 [.int .i64 0,.slice none 0 0]:=by rw [<- hw11];exact Blk.new w10 _ _
              have kR11:=kR10.below b11 kR10.lt
              have hB11:=hB10.trans (b11.mono hB10.size)
              have s10:=hB10.size
              have kF12:=(kF11.set 0 (.int .i64 e)).set 1 (.slice a10 P.length c10)
              have kR12:=(kR11.other w10.heap.size 0 (.int .i64 e) (by have:=kR10.lt;omega)).other w10.heap.size 1 (.slice a10 P.length c10) (by have:=kR10.lt;omega)
              have hB12:=(hB11.setCell (p:=⟨w10.heap.size,0,none⟩) s10 (.int .i64 e)).setCell (p:=⟨w10.heap.size,1,none⟩) s10 (.slice a10 P.length c10)
              have o11:=o10.below b11 (Nat.le_refl _)
              have o12:OwnA w8.heap.size ((w11.setCell ⟨w10.heap.size,0,none⟩ (.int .i64 e)).setCell ⟨w10.heap.size,1,none⟩ (.slice a10 P.length c10)) (.slice a10 P.length c10) P:=by
                obtain ⟨g2,cap2,Z2,hv2,hZ2,hG2⟩:=o10.rowG
                have hlo:∀ i (hi:i < Z2.length) r,Z2[i].2.ownBlock=some r->w10.heap.size ≠ r:=fun i hi r hr e=>by have:=(hG2.lvs.own i hi).lt r hr;omega
                have hg2:=hG2.lt
                have h3:=(((hG2.below b11 (Nat.le_refl _)).other w10.heap.size 0 (.int .i64 e) (by omega) hlo).other w10.heap.size 1 (.slice a10 P.length c10) (by omega) hlo).own
                rw [hZ2,<- hv2] at h3
                exact h3
              obtain ⟨w12,hw12⟩:∃ x,(w11.setCell ⟨w10.heap.size,0,none⟩ (.int .i64 e)).setCell ⟨w10.heap.size,1,none⟩ (.slice a10 P.length c10)=x:=⟨_,rfl⟩
              rw [hw12] at kF12 kR12 hB12 o12
              simp only [List.set_cons_zero,List.set_cons_succ] at kF12
              have p0:=kF11.cell 0
              have p1:=kF11.cell 1
              have p2:=kF11.frozen 0
              have p3:=kF11.frozen 1
              have i0:=kF12.cell 0
              have i1:=kF12.cell 1
              simp only [List.getElem?_cons_zero,List.getElem?_cons_succ] at p0 p1 i0 i1
              have HOk:=hide (implLedgerOk_any e (.slice a10 P.length c10) P w12 o12.rd Hfew.out.1 Hfew.out.2)
              have KR12:=hide kR12
              have KF12:=hide kF12
              have HB12:=hide hB12
              have HO12:=hide o12
              clear kR9 kR10 kF11 kR11 hB11 kF12 kR12 hB12 o11 o12 o10 hb10 b11 hZ HDo kR
              cases pb
              · have Hap:=hide (Hful2.out (Hsay2.out.1 rfl))
                have hB12:=HB12.out
                have r0:=KR12.out.cell 0
                have r1:=KR12.out.cell 1
                have g0:=KR12.out.frozen 0
                have g1:=KR12.out.frozen 1
                simp only [List.getElem?_cons_zero,List.getElem?_cons_succ] at r0 r1
                clear Hsay2 Hful2 Hgoo2
                go_wp2
                refine bodyPost_ret (v:=.tuple #[lgV 0 (.slice none 0 0),lkV 5]) (by simp [results,Tryz.f130,go_sem,r0,r1,lgV,lkV]) rfl ?_
                exact HP.out _ _ (AoPost.bad (by rw [Hap.out]) (by decide) ((hB12.setCell (p:=⟨w.heap.size+1+1,0,none⟩) (show w.heap.size<=w.heap.size+1+1 by omega) _).setCell (p:=⟨w.heap.size+1+1,1,none⟩) (show w.heap.size<=w.heap.size+1+1 by omega) _))
              · have hP:=Hsay2.out.2 rfl
                rw [<- hP] at Hful2 Hgoo2
                clear Hsay2 hP
                simp only [lgV] at HOk
                go_wp2_with fail
                refine HOk.out.mono ?_
                rintro en w13 ⟨rfl,hb13⟩
                have hB13:=HB12.out.trans (hb13.mono HB12.out.size)
                have kR13:=KR12.out.below hb13 KR12.out.lt
                have kF13:=KF12.out.below hb13 KF12.out.lt
                have o13:=HO12.out.below hb13 (Nat.le_refl _)
                have hRlt:=KR12.out.lt
                clear p0 p1 p2 p3 i0 i1 HOk
                cases hp:lgB e P
                · have Hap:=hide (Hful2.out hp)
                  clear hp Hful2 Hgoo2
                  have r0:=kR13.cell 0
                  have r1:=kR13.cell 1
                  have g0:=kR13.frozen 0
                  have g1:=kR13.frozen 1
                  simp only [List.getElem?_cons_zero,List.getElem?_cons_succ] at r0 r1
                  go_wp2
                  refine bodyPost_ret (v:=.tuple #[lgV 0 (.slice none 0 0),lkV 5]) (by simp [results,Tryz.f130,go_sem,r0,r1,lgV,lkV]) rfl ?_
                  exact HP.out _ _ (AoPost.bad (by rw [Hap.out]) (by decide) ((hB13.setCell (p:=⟨w.heap.size+1+1,0,none⟩) (show w.heap.size<=w.heap.size+1+1 by omega) _).setCell (p:=⟨w.heap.size+1+1,1,none⟩) (show w.heap.size<=w.heap.size+1+1 by omega) _))
                · have Hap:=hide (Hgoo2.out hp)
                  clear hp Hful2 Hgoo2
                  have i0:=kF13.cell 0
                  have i1:=kF13.cell 1
                  simp only [List.getElem?_cons_zero,List.getElem?_cons_succ] at i0 i1
                  have r0:=kR13.cell 0
                  have r1:=kR13.cell 1
                  have g0:=kR13.frozen 0
                  have g1:=kR13.frozen 1
                  simp only [List.getElem?_cons_zero,List.getElem?_cons_succ] at r0 r1
                  have HBx:=hide ((hB13.setCell (p:=⟨w.heap.size+1+1,0,none⟩) (show w.heap.size<=w.heap.size+1+1 by omega) (.int .i64 e)).setCell (p:=⟨w.heap.size+1+1,1,none⟩) (show w.heap.size<=w.heap.size+1+1 by omega) (.slice a10 P.length c10))
                  have HOx:=hide (((o13.older (g:=w.heap.size+1+1) (by omega) 0 (.int .i64 e)).older (g:=w.heap.size+1+1) (by omega) 1 (.slice a10 P.length c10)).mono (show w.heap.size<=_ by omega))
                  clear o13 kF13 kR13
                  go_wp2
                  refine bodyPost_ret (v:=.tuple #[lgV e (.slice a10 P.length c10),.nilIface]) (by simp [results,Tryz.f130,go_sem,r0,r1,lgV]) rfl ?_
                  exact HP.out _ _ (AoPost.good Hap.out HOx.out HBx.out)
          · have HV:Hid (orV (2,fm,tO,am,no)=.iface 250 (.agg #[.int .i64 am])):=hide rfl
            rw [HV.out] at HDn ⊢
            have mth:=Tryz.purseB
            have ahd:=Tryz.aheadB
            have HC:=hide (purseB_any am (nm,fr,no,st,ls) (.slice av9 ls.length cv9) w7.drew ⟨_,_,_,rfl⟩)
            simp only [acV] at HC
            go_upto_region 9 with fail
            go_region_held_law (fun w'=>w'.cell? ⟨w.heap.size,1,none⟩=some (.slice (some ⟨b,off,none⟩) l.length cv)/\w'.cell? ⟨w.heap.size+1,3,none⟩=some (.int .i64 am)/\w'.cell? ⟨b,off+k * 5,none⟩=some (.string nm)/\w'.cell? ⟨b,off+k * 5+1,none⟩=some (.int .i64 fr)/\w'.cell? ⟨b,off+k * 5+2,none⟩=some (.int .i64 no)/\w'.cell? ⟨b,off+k * 5+3,none⟩=some (.int .i64 st)/\w'.cell? ⟨b,off+k * 5+4,none⟩=some (.slice av9 ls.length cv9)) (first | with_reducible exact hS7 | with_reducible exact hS8) ((go_at_call 211;refine HC.out.mono ?_;rintro en w8 ⟨rfl,hb8⟩;have b8:=bE.trans (hb8.mono bE.size);have hS8:=HSb.out _ b8))
            have kL:=KL.out.below b8 KL.out.lt
            have kT:=KT.out.below b8 KT.out.lt
            have kR:=KR.out.below b8 KR.out.lt
            have hB8:=HB7.out.trans (b8.mono HB7.out.size)
            clear hS7 hS8 HSb HC KL KT KR hmf mth ahd
            by_cases hs:fr < am
            · have Hap:=hide (Hsho.out (by first | exact rfl | trivial) (show hasA (2,fm,tO,am,no) (nm,fr,no,st,ls) < am from hs))
              have r0:=kR.cell 0
              have r1:=kR.cell 1
              have g0:=kR.frozen 0
              have g1:=kR.frozen 1
              simp only [List.getElem?_cons_zero,List.getElem?_cons_succ] at r0 r1
              go_wp2
              refine bodyPost_ret (v:=.tuple #[lgV 0 (.slice none 0 0),lkV 4]) (by simp [results,Tryz.f130,go_sem,r0,r1,lgV,lkV]) rfl ?_
              exact HP.out _ _ (AoPost.bad (by rw [Hap.out]) (by decide) ((hB8.setCell (p:=⟨w.heap.size+1+1,0,none⟩) (show w.heap.size<=w.heap.size+1+1 by omega) _).setCell (p:=⟨w.heap.size+1+1,1,none⟩) (show w.heap.size<=w.heap.size+1+1 by omega) _))
            · have hs9:¬ hasA (2,fm,tO,am,no) (nm,fr,no,st,ls) < am:=hs
              have Hful2:=hide (Hful.out (by first | exact rfl | trivial) (by first | exact hs9 | exact Int.not_lt.1 hs9))
              have Hgoo2:=hide (Hgoo.out (by first | exact rfl | trivial) (by first | exact hs9 | exact Int.not_lt.1 hs9))
              have Hsay2:=hide (Hsay.out (by first | exact hs9 | exact Int.not_lt.1 hs9))
              clear hs9
              have l0:=kL.cell 0
              have l1:=kL.cell 1
              simp only [List.getElem?_cons_zero,List.getElem?_cons_succ] at l0 l1
              generalize dnA e (2,fm,tO,am,no) l k=P at HDn Hsay2 Hfew
              obtain ⟨P,pb⟩:=P
              simp only at HDn Hsay2 Hfew
              clear Hsho Hful Hgoo Hsay Hnon kT
              go_wp2_with fail
              refine (HD.out _ (Hcap.out _ hB8)).mono ?_
              rintro en w9 ⟨v9,rfl,o9,hb9⟩
              have hB9:=hB8.trans (hb9.mono hB8.size)
              have kR9:=kR.below hb9 kR.lt
              have hlt9:=kR.lt
              obtain ⟨g,cap,Z,rfl,hZ,hG⟩:=o9.rowG
              have HDo:=hide (HDn.out w8.heap.size g cap Z w9 hG hZ)
              have z9:=hb9.size
              have s8:=hB8.size
              clear l0 l1 hG o9 kL HDn
              go_wp2_with fail
              refine HDo.out.mono ?_
              rintro en w10 ⟨v10,rfl,o10,hb10⟩
              have hB10:=hB9.trans (hb10.mono s8)
              have kR10:=kR9.below hb10 hlt9
              have z10:=hb10.size
              obtain ⟨a10,c10,rfl⟩:=o10.rd.shape
              obtain ⟨w11,hw11⟩:∃ x,w10.alloc (.cells #[.int .i64 0,.slice none 0 0] 36)=x:=⟨_,rfl⟩
              have b11:Below w10.heap.size w10 w11:=by rw [<- hw11];exact (Below.refl _ w10).alloc (Nat.le_refl _) _
              have kF11:Blk w11 w10.heap.size 36 [.int .i64 0,.slice none 0 0]:=by rw [<- hw11];exact Blk.new w10 _ _
              have kR11:=kR10.below b11 kR10.lt
              have hB11:=hB10.trans (b11.mono hB10.size)
              have s10:=hB10.size
              have kF12:=(kF11.set 0 (.int .i64 e)).set 1 (.slice a10 P.length c10)
              have kR12:=(kR11.other w10.heap.size 0 (.int .i64 e) (by have:=kR10.lt;omega)).other w10.heap.size 1 (.slice a10 P.length c10) (by have:=kR10.lt;omega)
              have hB12:=(hB11.setCell (p:=⟨w10.heap.size,0,none⟩) s10 (.int .i64 e)).setCell (p:=⟨w10.heap.size,1,none⟩) s10 (.slice a10 P.length c10)
              have o11:=o10.below b11 (Nat.le_refl _)
              have o12:OwnA w8.heap.size ((w11.setCell ⟨w10.heap.size,0,none⟩ (.int .i64 e)).setCell ⟨w10.heap.size,1,none⟩ (.slice a10 P.length c10)) (.slice a10 P.length c10) P:=by
                obtain ⟨g2,cap2,Z2,hv2,hZ2,hG2⟩:=o10.rowG
                have hlo:∀ i (hi:i < Z2.length) r,Z2[i].2.ownBlock=some r->w10.heap.size ≠ r:=fun i hi r hr e=>by have:=(hG2.lvs.own i hi).lt r hr;omega
                have hg2:=hG2.lt
                have h3:=(((hG2.below b11 (Nat.le_refl _)).other w10.heap.size 0 (.int .i64 e) (by omega) hlo).other w10.heap.size 1 (.slice a10 P.length c10) (by omega) hlo).own
                rw [hZ2,<- hv2] at h3
                exact h3
              obtain ⟨w12,hw12⟩:∃ x,(w11.setCell ⟨w10.heap.size,0,none⟩ (.int .i64 e)).setCell ⟨w10.heap.size,1,none⟩ (.slice a10 P.length c10)=x:=⟨_,rfl⟩
              rw [hw12] at kF12 kR12 hB12 o12
              simp only [List.set_cons_zero,List.set_cons_succ] at kF12
              have p0:=kF11.cell 0
              have p1:=kF11.cell 1
              have p2:=kF11.frozen 0
              have p3:=kF11.frozen 1
              have i0:=kF12.cell 0
              have i1:=kF12.cell 1
              simp only [List.getElem?_cons_zero,List.getElem?_cons_succ] at p0 p1 i0 i1
              have HOk:=hide (implLedgerOk_any e (.slice a10 P.length c10) P w12 o12.rd Hfew.out.1 Hfew.out.2)
              have KR12:=hide kR12
              have KF12:=hide kF12
              have HB12:=hide hB12
              have HO12:=hide o12
              clear kR9 kR10 kF11 kR11 hB11 kF12 kR12 hB12 o11 o12 o10 hb10 b11 hZ HDo kR
              cases pb
              · have Hap:=hide (Hful2.out (Hsay2.out.1 rfl))
                have hB12:=HB12.out
                have r0:=KR12.out.cell 0
                have r1:=KR12.out.cell 1
                have g0:=KR12.out.frozen 0
                have g1:=KR12.out.frozen 1
                simp only [List.getElem?_cons_zero,List.getElem?_cons_succ] at r0 r1
                clear Hsay2 Hful2 Hgoo2
                go_wp2
                refine bodyPost_ret (v:=.tuple #[lgV 0 (.slice none 0 0),lkV 5]) (by simp [results,Tryz.f130,go_sem,r0,r1,lgV,lkV]) rfl ?_
                exact HP.out _ _ (AoPost.bad (by rw [Hap.out]) (by decide) ((hB12.setCell (p:=⟨w.heap.size+1+1,0,none⟩) (show w.heap.size<=w.heap.size+1+1 by omega) _).setCell (p:=⟨w.heap.size+1+1,1,none⟩) (show w.heap.size<=w.heap.size+1+1 by omega) _))
              · have hP:=Hsay2.out.2 rfl
                rw [<- hP] at Hful2 Hgoo2
                clear Hsay2 hP
                simp only [lgV] at HOk
                go_wp2_with fail
                refine HOk.out.mono ?_
                rintro en w13 ⟨rfl,hb13⟩
                have hB13:=HB12.out.trans (hb13.mono HB12.out.size)
                have kR13:=KR12.out.below hb13 KR12.out.lt
                have kF13:=KF12.out.below hb13 KF12.out.lt
                have o13:=HO12.out.below hb13 (Nat.le_refl _)
                have hRlt:=KR12.out.lt
                clear p0 p1 p2 p3 i0 i1 HOk
                cases hp:lgB e P
                · have Hap:=hide (Hful2.out hp)
                  clear hp Hful2 Hgoo2
                  have r0:=kR13.cell 0
                  have r1:=kR13.cell 1
                  have g0:=kR13.frozen 0
                  have g1:=kR13.frozen 1
                  simp only [List.getElem?_cons_zero,List.getElem?_cons_succ] at r0 r1
                  go_wp2
                  refine bodyPost_ret (v:=.tuple #[lgV 0 (.slice none 0 0),lkV 5]) (by simp [results,Tryz.f130,go_sem,r0,r1,lgV,lkV]) rfl ?_
                  exact HP.out _ _ (AoPost.bad (by rw [Hap.out]) (by decide) ((hB13.setCell (p:=⟨w.heap.size+1+1,0,none⟩) (show w.heap.size<=w.heap.size+1+1 by omega) _).setCell (p:=⟨w.heap.size+1+1,1,none⟩) (show w.heap.size<=w.heap.size+1+1 by omega) _))
                · have Hap:=hide (Hgoo2.out hp)
                  clear hp Hful2 Hgoo2
                  have i0:=kF13.cell 0
                  have i1:=kF13.cell 1
                  simp only [List.getElem?_cons_zero,List.getElem?_cons_succ] at i0 i1
                  have r0:=kR13.cell 0
                  have r1:=kR13.cell 1
                  have g0:=kR13.frozen 0
                  have g1:=kR13.frozen 1
                  simp only [List.getElem?_cons_zero,List.getElem?_cons_succ] at r0 r1
                  have HBx:=hide ((hB13.setCell (p:=⟨w.heap.size+1+1,0,none⟩) (show w.heap.size<=w.heap.size+1+1 by omega) (.int .i64 e)).setCell (p:=⟨w.heap.size+1+1,1,none⟩) (show w.heap.size<=w.heap.size+1+1 by omega) (.slice a10 P.length c10))
                  have HOx:=hide (((o13.older (g:=w.heap.size+1+1) (by omega) 0 (.int .i64 e)).older (g:=w.heap.size+1+1) (by omega) 1 (.slice a10 P.length c10)).mono (show w.heap.size<=_ by omega))
                  clear o13 kF13 kR13
                  go_wp2
                  refine bodyPost_ret (v:=.tuple #[lgV e (.slice a10 P.length c10),.nilIface]) (by simp [results,Tryz.f130,go_sem,r0,r1,lgV]) rfl ?_
                  exact HP.out _ _ (AoPost.good Hap.out HOx.out HBx.out)
          · have HV:Hid (orV (3,fm,tO,am,no)=.iface 251 (.agg #[.int .i64 am])):=hide rfl
            rw [HV.out] at HDn ⊢
            have mth:=Tryz.purseU
            have ahd:=Tryz.aheadU
            have HC:=hide (purseU_any am (nm,fr,no,st,ls) (.slice av9 ls.length cv9) w7.drew ⟨_,_,_,rfl⟩)
            simp only [acV] at HC
            go_upto_region 9 with fail
            go_region_held_law (fun w'=>w'.cell? ⟨w.heap.size,1,none⟩=some (.slice (some ⟨b,off,none⟩) l.length cv)/\w'.cell? ⟨w.heap.size+1,3,none⟩=some (.int .i64 am)/\w'.cell? ⟨b,off+k * 5,none⟩=some (.string nm)/\w'.cell? ⟨b,off+k * 5+1,none⟩=some (.int .i64 fr)/\w'.cell? ⟨b,off+k * 5+2,none⟩=some (.int .i64 no)/\w'.cell? ⟨b,off+k * 5+3,none⟩=some (.int .i64 st)/\w'.cell? ⟨b,off+k * 5+4,none⟩=some (.slice av9 ls.length cv9)) (first | with_reducible exact hS7 | with_reducible exact hS8) ((go_at_call 212;refine HC.out.mono ?_;rintro en w8 ⟨rfl,hb8⟩;have b8:=bE.trans (hb8.mono bE.size);have hS8:=HSb.out _ b8))
            have kL:=KL.out.below b8 KL.out.lt
            have kT:=KT.out.below b8 KT.out.lt
            have kR:=KR.out.below b8 KR.out.lt
            have hB8:=HB7.out.trans (b8.mono HB7.out.size)
            clear hS7 hS8 HSb HC KL KT KR hmf mth ahd
            by_cases hs:st < am
            · have Hap:=hide (Hsho.out (by first | exact rfl | trivial) (show hasA (3,fm,tO,am,no) (nm,fr,no,st,ls) < am from hs))
              have r0:=kR.cell 0
              have r1:=kR.cell 1
              have g0:=kR.frozen 0
              have g1:=kR.frozen 1
              simp only [List.getElem?_cons_zero,List.getElem?_cons_succ] at r0 r1
              go_wp2
              refine bodyPost_ret (v:=.tuple #[lgV 0 (.slice none 0 0),lkV 4]) (by simp [results,Tryz.f130,go_sem,r0,r1,lgV,lkV]) rfl ?_
              exact HP.out _ _ (AoPost.bad (by rw [Hap.out]) (by decide) ((hB8.setCell (p:=⟨w.heap.size+1+1,0,none⟩) (show w.heap.size<=w.heap.size+1+1 by omega) _).setCell (p:=⟨w.heap.size+1+1,1,none⟩) (show w.heap.size<=w.heap.size+1+1 by omega) _))
            · have hs9:¬ hasA (3,fm,tO,am,no) (nm,fr,no,st,ls) < am:=hs
              have Hful2:=hide (Hful.out (by first | exact rfl | trivial) (by first | exact hs9 | exact Int.not_lt.1 hs9))
              have Hgoo2:=hide (Hgoo.out (by first | exact rfl | trivial) (by first | exact hs9 | exact Int.not_lt.1 hs9))
              have Hsay2:=hide (Hsay.out (by first | exact hs9 | exact Int.not_lt.1 hs9))
              clear hs9
              have l0:=kL.cell 0
              have l1:=kL.cell 1
              simp only [List.getElem?_cons_zero,List.getElem?_cons_succ] at l0 l1
              generalize dnA e (3,fm,tO,am,no) l k=P at HDn Hsay2 Hfew
              obtain ⟨P,pb⟩:=P
              simp only at HDn Hsay2 Hfew
              clear Hsho Hful Hgoo Hsay Hnon kT
              go_wp2_with fail
              refine (HD.out _ (Hcap.out _ hB8)).mono ?_
              rintro en w9 ⟨v9,rfl,o9,hb9⟩
              have hB9:=hB8.trans (hb9.mono hB8.size)
              have kR9:=kR.below hb9 kR.lt
              have hlt9:=kR.lt
              obtain ⟨g,cap,Z,rfl,hZ,hG⟩:=o9.rowG
              have HDo:=hide (HDn.out w8.heap.size g cap Z w9 hG hZ)
              have z9:=hb9.size
              have s8:=hB8.size
              clear l0 l1 hG o9 kL HDn
              go_wp2_with fail
              refine HDo.out.mono ?_
              rintro en w10 ⟨v10,rfl,o10,hb10⟩
              have hB10:=hB9.trans (hb10.mono s8)
              have kR10:=kR9.below hb10 hlt9
              have z10:=hb10.size
              obtain ⟨a10,c10,rfl⟩:=o10.rd.shape
              obtain ⟨w11,hw11⟩:∃ x,w10.alloc (.cells #[.int .i64 0,.slice none 0 0] 36)=x:=⟨_,rfl⟩
              have b11:Below w10.heap.size w10 w11:=by rw [<- hw11];exact (Below.refl _ w10).alloc (Nat.le_refl _) _
              have kF11:Blk w11 w10.heap.size 36 [.int .i64 0,.slice none 0 0]:=by rw [<- hw11];exact Blk.new w10 _ _
              have kR11:=kR10.below b11 kR10.lt
              have hB11:=hB10.trans (b11.mono hB10.size)
              have s10:=hB10.size
              have kF12:=(kF11.set 0 (.int .i64 e)).set 1 (.slice a10 P.length c10)
              have kR12:=(kR11.other w10.heap.size 0 (.int .i64 e) (by have:=kR10.lt;omega)).other w10.heap.size 1 (.slice a10 P.length c10) (by have:=kR10.lt;omega)
              have hB12:=(hB11.setCell (p:=⟨w10.heap.size,0,none⟩) s10 (.int .i64 e)).setCell (p:=⟨w10.heap.size,1,none⟩) s10 (.slice a10 P.length c10)
              have o11:=o10.below b11 (Nat.le_refl _)
              have o12:OwnA w8.heap.size ((w11.setCell ⟨w10.heap.size,0,none⟩ (.int .i64 e)).setCell ⟨w10.heap.size,1,none⟩ (.slice a10 P.length c10)) (.slice a10 P.length c10) P:=by
                obtain ⟨g2,cap2,Z2,hv2,hZ2,hG2⟩:=o10.rowG
                have hlo:∀ i (hi:i < Z2.length) r,Z2[i].2.ownBlock=some r->w10.heap.size ≠ r:=fun i hi r hr e=>by have:=(hG2.lvs.own i hi).lt r hr;omega
                have hg2:=hG2.lt
                have h3:=(((hG2.below b11 (Nat.le_refl _)).other w10.heap.size 0 (.int .i64 e) (by omega) hlo).other w10.heap.size 1 (.slice a10 P.length c10) (by omega) hlo).own
                rw [hZ2,<- hv2] at h3
                exact h3
              obtain ⟨w12,hw12⟩:∃ x,(w11.setCell ⟨w10.heap.size,0,none⟩ (.int .i64 e)).setCell ⟨w10.heap.size,1,none⟩ (.slice a10 P.length c10)=x:=⟨_,rfl⟩
              rw [hw12] at kF12 kR12 hB12 o12
              simp only [List.set_cons_zero,List.set_cons_succ] at kF12
              have p0:=kF11.cell 0
              have p1:=kF11.cell 1
              have p2:=kF11.frozen 0
              have p3:=kF11.frozen 1
              have i0:=kF12.cell 0
              have i1:=kF12.cell 1
              simp only [List.getElem?_cons_zero,List.getElem?_cons_succ] at p0 p1 i0 i1
              have HOk:=hide (implLedgerOk_any e (.slice a10 P.length c10) P w12 o12.rd Hfew.out.1 Hfew.out.2)
              have KR12:=hide kR12
              have KF12:=hide kF12
              have HB12:=hide hB12
              have HO12:=hide o12
              clear kR9 kR10 kF11 kR11 hB11 kF12 kR12 hB12 o11 o12 o10 hb10 b11 hZ HDo kR
              cases pb
              · have Hap:=hide (Hful2.out (Hsay2.out.1 rfl))
                have hB12:=HB12.out
                have r0:=KR12.out.cell 0
                have r1:=KR12.out.cell 1
                have g0:=KR12.out.frozen 0
                have g1:=KR12.out.frozen 1
                simp only [List.getElem?_cons_zero,List.getElem?_cons_succ] at r0 r1
                clear Hsay2 Hful2 Hgoo2
                go_wp2
                refine bodyPost_ret (v:=.tuple #[lgV 0 (.slice none 0 0),lkV 5]) (by simp [results,Tryz.f130,go_sem,r0,r1,lgV,lkV]) rfl ?_
                exact HP.out _ _ (AoPost.bad (by rw [Hap.out]) (by decide) ((hB12.setCell (p:=⟨w.heap.size+1+1,0,none⟩) (show w.heap.size<=w.heap.size+1+1 by omega) _).setCell (p:=⟨w.heap.size+1+1,1,none⟩) (show w.heap.size<=w.heap.size+1+1 by omega) _))
              · have hP:=Hsay2.out.2 rfl
                rw [<- hP] at Hful2 Hgoo2
                clear Hsay2 hP
                simp only [lgV] at HOk
                go_wp2_with fail
                refine HOk.out.mono ?_
                rintro en w13 ⟨rfl,hb13⟩
                have hB13:=HB12.out.trans (hb13.mono HB12.out.size)
                have kR13:=KR12.out.below hb13 KR12.out.lt
                have kF13:=KF12.out.below hb13 KF12.out.lt
                have o13:=HO12.out.below hb13 (Nat.le_refl _)
                have hRlt:=KR12.out.lt
                clear p0 p1 p2 p3 i0 i1 HOk
                cases hp:lgB e P
                · have Hap:=hide (Hful2.out hp)
                  clear hp Hful2 Hgoo2
                  have r0:=kR13.cell 0
                  have r1:=kR13.cell 1
                  have g0:=kR13.frozen 0
                  have g1:=kR13.frozen 1
                  simp only [List.getElem?_cons_zero,List.getElem?_cons_succ] at r0 r1
                  go_wp2
                  refine bodyPost_ret (v:=.tuple #[lgV 0 (.slice none 0 0),lkV 5]) (by simp [results,Tryz.f130,go_sem,r0,r1,lgV,lkV]) rfl ?_
                  exact HP.out _ _ (AoPost.bad (by rw [Hap.out]) (by decide) ((hB13.setCell (p:=⟨w.heap.size+1+1,0,none⟩) (show w.heap.size<=w.heap.size+1+1 by omega) _).setCell (p:=⟨w.heap.size+1+1,1,none⟩) (show w.heap.size<=w.heap.size+1+1 by omega) _))
                · have Hap:=hide (Hgoo2.out hp)
                  clear hp Hful2 Hgoo2
                  have i0:=kF13.cell 0
                  have i1:=kF13.cell 1
                  simp only [List.getElem?_cons_zero,List.getElem?_cons_succ] at i0 i1
                  have r0:=kR13.cell 0
                  have r1:=kR13.cell 1
                  have g0:=kR13.frozen 0
                  have g1:=kR13.frozen 1
                  simp only [List.getElem?_cons_zero,List.getElem?_cons_succ] at r0 r1
                  have HBx:=hide ((hB13.setCell (p:=⟨w.heap.size+1+1,0,none⟩) (show w.heap.size<=w.heap.size+1+1 by omega) (.int .i64 e)).setCell (p:=⟨w.heap.size+1+1,1,none⟩) (show w.heap.size<=w.heap.size+1+1 by omega) (.slice a10 P.length c10))
                  have HOx:=hide (((o13.older (g:=w.heap.size+1+1) (by omega) 0 (.int .i64 e)).older (g:=w.heap.size+1+1) (by omega) 1 (.slice a10 P.length c10)).mono (show w.heap.size<=_ by omega))
                  clear o13 kF13 kR13
                  go_wp2
                  refine bodyPost_ret (v:=.tuple #[lgV e (.slice a10 P.length c10),.nilIface]) (by simp [results,Tryz.f130,go_sem,r0,r1,lgV]) rfl ?_
                  exact HP.out _ _ (AoPost.good Hap.out HOx.out HBx.out)
        · have Hap:=hide (Hnon.out hn)
          have hq:(nc != no)=true:=by rw [bne_iff_ne];exact fun h=>hn h.symm
          clear hn HDn HOr
          have r0:=kR.cell 0
          have r1:=kR.cell 1
          have g0:=kR.frozen 0
          have g1:=kR.frozen 1
          simp only [List.getElem?_cons_zero,List.getElem?_cons_succ] at r0 r1
          go_wp2
          refine bodyPost_ret (v:=.tuple #[lgV 0 (.slice none 0 0),lkV 3]) (by simp [results,Tryz.f130,go_sem,r0,r1,lgV,lkV]) rfl ?_
          exact HP.out _ _ (AoPost.bad (by rw [Hap.out]) (by decide) ((hBD.setCell (p:=⟨w.heap.size+1+1,0,none⟩) (show w.heap.size<=w.heap.size+1+1 by omega) _).setCell (p:=⟨w.heap.size+1+1,1,none⟩) (show w.heap.size<=w.heap.size+1+1 by omega) _))
end Go.Proofs.YthehfkafcdociaaGreatDoor
namespace Go.Proofs.YthehfkafcdociaaGreatDoor
open Go.RowKit Go.Extern.Stop Go.Stop Go.Extern
set_option linter.unusedVariables false
theorem rl_set (v x:Value):∃ k:Option (TypeId × Addr × Nat)->Option (TypeId × Addr × Nat)->Sem Value,ReflectliteValue.set #[v,x]=(ReflectliteValue.parts v >>= fun p=>ReflectliteValue.parts x >>= fun q=>k p q) /\
    ∀ (dst:TypeId) (a:Addr) (src:TypeId) (b:Addr) (fl:Nat),∃ k2:Value->Bool->Sem Value,k (some (dst,a,409)) (some (src,b,fl))=(loadVar src b >>= fun val=>Rtype.directlyAssignable dst src >>= fun c=>k2 val c)/\∀ val,k2 val true=(storeVar dst a val >>= fun _=>pure (Value.tuple #[])) :=
  ⟨_,rfl,fun _ _ _ _ _=>⟨_,rfl,fun _=>rfl⟩⟩
theorem Tryz.setL (B b:Nat) (c:Int) (old:Value) (W:World) (hb:W.cell? ⟨b,0,none⟩=some (.int .i64 c)) (ht:W.cell? ⟨B,0,none⟩=some old) (hf:W.frozen? ⟨B,0,none⟩=false) :
    (ReflectliteValue.set #[.agg #[.pointer (some ⟨1,218,none⟩),.pointer (some ⟨B,0,none⟩),.int .u64 409],.agg #[.pointer (some ⟨1,218,none⟩),.pointer (some ⟨b,0,none⟩),.int .u64 153]]).run Tryz.prog W
      = .ok (.tuple #[]) (W.setCell ⟨B,0,none⟩ (.int .i64 c)):=by
  obtain ⟨k,e1,e2⟩:=rl_set (.agg #[.pointer (some ⟨1,218,none⟩),.pointer (some ⟨B,0,none⟩),.int .u64 409]) (.agg #[.pointer (some ⟨1,218,none⟩),.pointer (some ⟨b,0,none⟩),.int .u64 153])
  obtain ⟨k2,e3,e4⟩:=e2 218 ⟨B,0,none⟩ 218 ⟨b,0,none⟩ 153
  rw [e1]
  simp only [Sem.run_bind,Tryz.partsLa,Tryz.partsL,Result.andThen,e3]
  simp [loadVar,isAgg,underlying,Tryz.underlying218,loadCells,loadCellsFrom,hb,Result.andThen,Tryz.directL,e4,storeVar,Value.cells,storeCells,Addr.add]
  rw [run_store Tryz.prog W ⟨B,0,none⟩ _ _ (by rfl)]
  simp [ht,hf]
theorem as_hit (c old:Int) (B:Nat) (w:World) (hg:Gh w) (hB:Blk w B 218 [.int .i64 old]) :
    Calls Tryz.prog 131 #[lkV c,.iface 220 (.pointer (some ⟨B,0,none⟩))] w fun ev w'=>ev=.returned (.bool true)/\w.grownBy w' (some B)/\Blk w' B 218 [.int .i64 c]:=by
  have h6:=@run_callFunc_extern Tryz.prog 144 _ (fun args=>ReflectliteValue.unpack (args.getD 0 (.tuple #[]))) Tryz.func144 (by kernel_rfl) (by kernel_rfl) (by kernel_rfl) (by kernel_rfl)
  have h7 := @run_callFunc_extern Tryz.prog 145 _ (ReflectliteValue.methodAny (ReflectliteValue.valueError "reflectlite.Value.Type" 0) (fun t _ _ _ => ReflectliteType.toType t)) Tryz.func145 (by kernel_rfl) (by kernel_rfl) (by kernel_rfl) (by kernel_rfl)
  have h8 := @run_callFunc_extern Tryz.prog 146 _ (ReflectliteValue.method (ReflectliteValue.valueError "reflectlite.Value.IsNil" 0) ReflectliteValue.isNil) Tryz.func146 (by kernel_rfl) (by kernel_rfl) (by kernel_rfl) (by kernel_rfl)
  have h27:=@run_callFunc_extern Tryz.prog 202 _ (ReflectliteType.abiMethod fun t=>do pure (.int .u8 (<- Rtype.kind t))) Tryz.func202 (by kernel_rfl) (by kernel_rfl) (by kernel_rfl) (by kernel_rfl)
  have h37:=@run_callFunc_extern Tryz.prog 216 _ (ReflectliteType.method ReflectliteType.elem) Tryz.func216 (by kernel_rfl) (by kernel_rfl) (by kernel_rfl) (by kernel_rfl)
  have h38 := @run_callFunc_extern Tryz.prog 217 _ (ReflectliteType.relation "Implements" ReflectliteType.implements_) Tryz.func217 (by kernel_rfl) (by kernel_rfl) (by kernel_rfl) (by kernel_rfl)
  have h10:=@run_callFunc_extern Tryz.prog 154 _ ReflectliteType.typeOf Tryz.func154 (by kernel_rfl) (by kernel_rfl) (by kernel_rfl) (by kernel_rfl)
  have h35 := @run_callFunc_extern Tryz.prog 214 _ (ReflectliteType.relation "AssignableTo" ReflectliteType.assignableTo) Tryz.func214 (by kernel_rfl) (by kernel_rfl) (by kernel_rfl) (by kernel_rfl)
  have h11 := @run_callFunc_extern Tryz.prog 155 _ (ReflectliteValue.method (ReflectliteValue.valueError "reflectlite.Value.Elem" 0) ReflectliteValue.elem) Tryz.func155 (by kernel_rfl) (by kernel_rfl) (by kernel_rfl) (by kernel_rfl)
  have h12:=@run_callFunc_extern Tryz.prog 156 _ ReflectliteValue.set Tryz.func156 (by kernel_rfl) (by kernel_rfl) (by kernel_rfl) (by kernel_rfl)
  have tO:=Tryz.typeOfL
  have mA:=Tryz.methodAssignableTo
  have a25:=Tryz.assignableL
  have v25:=Tryz.valueOfL
  have f6:=Tryz.valueOfP
  have f7:=Tryz.typeP
  have mK:=Tryz.methodKind
  have mE:=Tryz.methodElem
  have mI:=Tryz.methodImplements
  have k27:=Tryz.kindP
  have k25:=Tryz.kindL
  have e27:=Tryz.elemP
  have i25:=Tryz.implementsL
  have hBl:=hB.lt
  obtain ⟨w1,hw1⟩:∃ w1,w.alloc (.cells #[.pointer (some ⟨B,0,none⟩)] 220)=w1:=⟨_,rfl⟩
  obtain ⟨w2,hw2⟩:∃ w2,w1.alloc (.cells #[.pointer (some ⟨1,220,none⟩),.pointer (some ⟨w.heap.size,0,none⟩),.int .u64 150] 236)=w2:=⟨_,rfl⟩
  obtain ⟨w3,hw3⟩:∃ w3,w2.alloc (.cells #[.pointer (some ⟨1,220,none⟩),.pointer (some ⟨w.heap.size,0,none⟩),.int .u64 150] 236)=w3:=⟨_,rfl⟩
  obtain ⟨w4,hw4⟩:∃ w4,w3.alloc (.cells #[.int .i64 c] 218)=w4:=⟨_,rfl⟩
  have s1:w1.heap.size=w.heap.size+1:=by rw [<- hw1];simp
  have s2:w2.heap.size=w.heap.size+1+1:=by rw [<- hw2];simp;omega
  have s3:w3.heap.size=w.heap.size+1+1+1:=by rw [<- hw3];simp;omega
  have p1:Blk w1 w.heap.size 220 [.pointer (some ⟨B,0,none⟩)]:=by rw [<- hw1];exact Blk.new w _ _
  have p2:Blk w2 w.heap.size 220 [.pointer (some ⟨B,0,none⟩)]:=by rw [<- hw2];exact p1.alloc _
  have p3:Blk w3 w.heap.size 220 [.pointer (some ⟨B,0,none⟩)]:=by rw [<- hw3];exact p2.alloc _
  have q4:Blk w4 (w.heap.size+1+1+1) 218 [.int .i64 c]:=by rw [<- hw4,<- s3];exact Blk.new w3 _ _
  have B4:Blk w4 B 218 [.int .i64 old]:=by rw [<- hw4,<- hw3,<- hw2,<- hw1];exact (((hB.alloc _).alloc _).alloc _).alloc _
  have b4:Below w.heap.size w w4:=by rw [<- hw4,<- hw3,<- hw2,<- hw1];exact ((((Below.refl _ w).alloc (Nat.le_refl _) _).alloc (by simp) _).alloc (by simp;omega) _).alloc (by simp;omega) _
  have g1:w.grownBy w4 (some B):=⟨b4.os,b4.tape,b4.output,b4.size,fun k hk _=>b4.block k hk⟩
  have V2:Blk w2 (w.heap.size+1) 236 [.pointer (some ⟨1,220,none⟩),.pointer (some ⟨w.heap.size,0,none⟩),.int .u64 150]:=by rw [<- hw2,<- s1];exact Blk.new w1 _ _
  have V3:Blk w3 (w.heap.size+1) 236 [.pointer (some ⟨1,220,none⟩),.pointer (some ⟨w.heap.size,0,none⟩),.int .u64 150]:=by rw [<- hw3];exact V2.alloc _
  have U3:Blk w3 (w.heap.size+1+1) 236 [.pointer (some ⟨1,220,none⟩),.pointer (some ⟨w.heap.size,0,none⟩),.int .u64 150]:=by rw [<- hw3,<- s2];exact Blk.new w2 _ _
  have y0:=V2.cell 0
  have y1:=V2.cell 1
  have y2:=V2.cell 2
  have z0:=U3.cell 0
  have z1:=U3.cell 1
  have z2:=U3.cell 2
  simp only [List.getElem?_cons_zero,List.getElem?_cons_succ] at y0 y1 y2 z0 z1 z2
  have hlt:0 < w.heap.size:=by
    unfold Gh World.cell? at hg
    rcases Nat.lt_or_ge 0 w.heap.size with h | h
    · exact h
    · simp [Array.getElem?_eq_none h] at hg
  have hg2:w2.cell? ⟨0,0,none⟩=some (.iface 256 (.agg #[.pointer (some ⟨1,214,none⟩)])):=by
    rw [<- hw2,<- hw1,World.cell?_alloc_lt _ _ ⟨0,0,none⟩ (by rw [World.size_alloc];exact Nat.lt_succ_of_lt hlt),World.cell?_alloc_lt _ _ ⟨0,0,none⟩ hlt];exact hg
  have n8:=Tryz.isNilP ⟨w.heap.size,0,none⟩ ⟨B,0,none⟩ w2 (p2.cell 0)
  have el:=Tryz.elemVP ⟨w.heap.size,0,none⟩ ⟨B,0,none⟩ w3 (p3.cell 0)
  have st:=Tryz.setL B (w.heap.size+1+1+1) c (.int .i64 old) w4 (q4.cell 0) (B4.cell 0) (B4.frozen 0)
  have o2:w1.heap.size=w.heap.size+1:=s1
  unfold lkV
  go_enter Tryz.func131,Tryz.ntmps131
  go_wp2
  refine wp_loop_rounds 1 ?_
  rw [rounds_succ]
  go_wp2
  go_ret
  exact ⟨rfl,grownS_trans g1 (grown_set w4 B 0 _),B4.set 0 _⟩
end Go.Proofs.YthehfkafcdociaaGreatDoor
