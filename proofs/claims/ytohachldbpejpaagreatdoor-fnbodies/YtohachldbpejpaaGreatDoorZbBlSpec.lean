/- A block. -/
import Derived.Test.YtohachldbpejpaaGreatDoorZbWdSpec
import Derived.Test.YtohachldbpejpaaGreatDoorZbLgDoS
set_option maxRecDepth 20000
set_option maxHeartbeats 2000000
namespace Go.Proofs.YtohachldbpejpaaGreatDoor
open Go.RowKit
set_option linter.unusedVariables false
theorem l2K_any (w:World):Calls Tryz.prog 237 #[] w fun e w'=>e=.returned (.slice (some ⟨w.heap.size,0,none⟩) 64 64)/\An w' w.heap.size kC/\Below w.heap.size w w':=by
  go_enter Tryz.func237,Tryz.ntmps237
  go_wp2
  go_ret
  exact ⟨rfl,An.new _ _ _ _ _ rfl rfl,(Below.refl _ _).alloc (Nat.le_refl _) _⟩
theorem An.eight {w:World} {q a b c d e f g h:Nat} (H:An w q (S8.list ⟨a,b,c,d,e,f,g,h⟩)):w.cell? ⟨q,0,none⟩=some (.int .i64 (a:Int))/\w.cell? ⟨q,1,none⟩=some (.int .i64 (b:Int))/\w.cell? ⟨q,2,none⟩=some (.int .i64 (c:Int))/\w.cell? ⟨q,3,none⟩=some (.int .i64 (d:Int))/\w.cell? ⟨q,4,none⟩=some (.int .i64 (e:Int))/\w.cell? ⟨q,5,none⟩=some (.int .i64 (f:Int))/\w.cell? ⟨q,6,none⟩=some (.int .i64 (g:Int))/\w.cell? ⟨q,7,none⟩=some (.int .i64 (h:Int)) :=
  ⟨H.2 0 (by simp [S8.list]),H.2 1 (by simp [S8.list]),H.2 2 (by simp [S8.list]),H.2 3 (by simp [S8.list]),H.2 4 (by simp [S8.list]),H.2 5 (by simp [S8.list]),H.2 6 (by simp [S8.list]),H.2 7 (by simp [S8.list])⟩
theorem sum5 (h s1 c k x:Nat) (h1:h < 4294967296) (h2:s1 < 4294967296) (h3:c < 4294967296) (h4:k < 4294967296) (h5:x < 4294967296) :
    IntKind.i64.wrap (IntKind.i64.wrap (IntKind.i64.wrap (IntKind.i64.wrap ((h:Int)+(s1:Int))+(c:Int))+(k:Int))+(x:Int))=((h+s1+c+(k+x):Nat):Int):=by
  rw [<- Int.natCast_add,wrapN _ (by omega),<- Int.natCast_add,wrapN _ (by omega),<- Int.natCast_add,wrapN _ (by omega),<- Int.natCast_add,wrapN _ (by omega)]
  congr 1
  omega
theorem wrap64N (n:Nat) (h:n < 9223372036854775808):wrap64 (n:Int)=(n:Int):=by unfold wrap64;omega
theorem sum5' (h s1 c k x:Nat) (h1:h < 4294967296) (h2:s1 < 4294967296) (h3:c < 4294967296) (h4:k < 4294967296) (h5:x < 4294967296) :
    wrap64 (wrap64 (wrap64 (wrap64 ((h:Int)+(s1:Int))+(c:Int))+(k:Int))+(x:Int))=((h+s1+c+(k+x):Nat):Int):=by
  rw [<- Int.natCast_add,wrap64N _ (by omega),<- Int.natCast_add,wrap64N _ (by omega),<- Int.natCast_add,wrap64N _ (by omega),<- Int.natCast_add,wrap64N _ (by omega)]
  congr 1
  omega
theorem An.set {w:World} {g:Nat} {l:List Nat} (h:An w g l) (k x:Nat) (hk:k < l.length):An (w.setCell ⟨g,k,none⟩ (.int .i64 (x:Int))) g (l.set k x):=by
  refine ⟨by have:=((Below.refl 0 w).setCell (p:=⟨g,k,none⟩) (Nat.zero_le _) (.int .i64 (x:Int))).size;have:=h.1;omega,?_⟩
  intro j hj
  rw [List.length_set] at hj
  by_cases e:k=j
  · subst e
    rw [World.cell?_setCell_same _ _ _ (h.2 k hj)]
    simp
  · rw [World.cell?_setCell_other _ _ _ _ (by intro q;injection q with _ q2;exact e q2),h.2 j hj]
    simp [e]
theorem sum2 (a b:Nat) (h1:a < 100000000000) (h2:b < 100000000000):bits .and .i64 (IntKind.i64.wrap ((a:Int)+(b:Int))) 4294967295=(((a+b) % 4294967296:Nat):Int):=by
  rw [<- Int.natCast_add,wrapN _ (by omega),i64_mask _ (by omega)]
theorem list_lt (s:S8) (h:s.Lt) (k:Nat) (hk:k < 8):s.list[k]'hk < 4294967296:=by
  match k,hk with
  | 0,_=>exact h.a
  | 1,_=>exact h.b
  | 2,_=>exact h.c
  | 3,_=>exact h.d
  | 4,_=>exact h.e
  | 5,_=>exact h.f
  | 6,_=>exact h.g
  | 7,_=>exact h.h
theorem specBlock_any (gh ch gb off cb' gk ck:Nat) (st:S8) (l:List UInt8) (w:World) (hs:st.Lt) (hh:An w gh st.list) (hk:An w gk kC) (hl:l.length=64) (hcap:64<=cb') (hcm:cb'<=maxLen) (hb:gb < w.heap.size) (h4:∀ i (h:i < l.length),w.cell? ⟨gb,off+i,none⟩=some (.int .u8 (l[i].toNat:Int))) :
    Calls Tryz.prog 238 #[.slice (some ⟨gh,0,none⟩) 8 ch,.slice (some ⟨gb,off,none⟩) 64 cb',.slice (some ⟨gk,0,none⟩) 64 ck] w fun e w'=>∃ g cap,e=.returned (.slice (some ⟨g,0,none⟩) 8 cap)/\An w' g (blockS st (wordsB l)).list/\w.heap.size<=g/\Below w.heap.size w w':=by
  have Hw:=hide (specWords_any gb off cb' l w hl hcap hcm hb h4)
  have Hh:=hide hh
  have Hk:=hide hk
  generalize hbl:wordsB l=bl at Hw
  have hblt:∀ x ∈ bl,x < 4294967296:=by rw [<- hbl];exact wordsB_lt l
  clear hh hk h4 hbl
  go_enter Tryz.func238,Tryz.ntmps238
  go_wp2_with fail
  refine Hw.out.mono ?_
  rintro e w1 ⟨wv,rfl,ho1,hb1⟩
  obtain ⟨gw,cw,rfl,hcw1,hcw2,hgw,hanw,-⟩:=ho1.open (by intro e;have:=allW_len bl 64;rw [e] at this;simp at this)
  rw [allW_len]
  have Hb1:=hide hb1
  have Hanw:=hide hanw
  have Hh1:=hide (Hh.out.below hb1 Hh.out.1)
  have Hk1:=hide (Hk.out.below hb1 Hk.out.1)
  have hs1:=hb1.size
  clear ho1 hb1 hanw hcw1 hcw2 Hw
  go_wp2_with (at_builtin;refine app_ownN _ (by rfl) _ _ (by rfl) w1.heap.size gh 8 ch _ [] st.list (by rfl) (by rfl) rfl (own_nilN w1 w1.heap.size (Nat.le_refl _)) (Hh1.out.alloc _) (by simp [S8.list]) (by simp) ?_;intro v2 w2 ho2 hb2)
  obtain ⟨g2,c2',rfl,hc21,hc22,hg2,han2,hfz2⟩:=ho2.open (by simp [S8.list])
  have Hb2:Hid (Below w1.heap.size w1 w2):=hide (((Below.refl _ _).alloc (Nat.le_refl _) _).trans hb2)
  have Han2:=hide (show An w2 g2 (turns st bl 0).list by simpa [turns] using han2)
  have Hg2:=hide hg2
  have Hfz2:=hide hfz2
  have h8:([] ++ st.list).length=8:=rfl
  rw [h8]
  clear ho2 hb2 han2 hc21 hc22 hg2 hfz2 h8
  go_wp2
  go_loopw [8,9] (fun ov iv' wr=>∃ (i gv cv:Nat),i<=64/\iv'=.int .i64 (i:Int)/\ov=.slice (some ⟨gv,0,none⟩) 8 cv/\An wr gv (turns st bl i).list/\w1.heap.size<=gv/\(∀ j,wr.frozen? ⟨gv,j,none⟩=false)/\Below w1.heap.size w1 wr) (fun _ iv' _=>64 - (intOf iv').toNat)
  case atStart=>exact ⟨0,g2,c2',by omega,rfl,rfl,Han2.out,Hg2.out,Hfz2.out,Hb2.out⟩
  case round =>
    clear Han2 Hg2 Hfz2 Hb2
    obtain ⟨i,gv,cv,hi,rfl,rfl,han,hgv,hfz,hbw⟩:=hrel
    by_cases hi64:i < 64
    · have hli:(i:Int) < 64:=by omega
      have ckk:=(Hk1.out.below hbw Hk1.out.1).2 i (by rw [kC_len];omega)
      have cww:=(Hanw.out.below hbw Hanw.out.1).2 i (by rw [allW_len];omega)
      rw [allW_at] at cww
      have hklt:=kC_lt i (by rw [kC_len];omega)
      have hxlt:=W_lt bl hblt i
      have HTn:=hide (show turns st bl (i+1)=turn (turns st bl i) (kC.getD i 0+W bl i) from rfl)
      have hkd:kC.getD i 0=kC[i]'(by rw [kC_len];omega):=by rw [List.getD_eq_getElem?_getD,List.getElem?_eq_getElem (by rw [kC_len];omega),Option.getD_some]
      rw [hkd] at HTn
      have hTl:=turns_lt st bl hs i
      generalize kC[i]'(by rw [kC_len];omega)=k at ckk hklt HTn
      generalize W bl i=x at cww hxlt HTn
      generalize turns st bl i=T at han hTl HTn
      obtain ⟨a,b,c,d,e,f,g,h⟩:=T
      obtain ⟨c0,c1,c2,c3,c4,c5,c6,c7⟩:=han.eight
      have ha:a < 4294967296:=hTl.a
      have he:e < 4294967296:=hTl.e
      have hS1:bits .xor .i64 (bits .xor .i64 (rotr 6 e:Int) (rotr 11 e:Int)) (rotr 25 e:Int)=((cS1 e:Nat):Int):=i64_xor3 _ _ _ (rotr_lt _ _) (rotr_lt _ _) (rotr_lt _ _)
      have hS0:bits .xor .i64 (bits .xor .i64 (rotr 2 a:Int) (rotr 13 a:Int)) (rotr 22 a:Int)=((cS0 a:Nat):Int):=i64_xor3 _ _ _ (rotr_lt _ _) (rotr_lt _ _) (rotr_lt _ _)
      have hch:=i64_ch e f g hTl.e hTl.f hTl.g
      have hmaj:=i64_maj a b c hTl.a hTl.b hTl.c
      have qS1:=cS1_lt e
      have qS0:=cS0_lt a
      have qch:=chN_lt e f g hTl.e
      have qmaj:=majN_lt a b c hTl.a hTl.b
      have hd:=hTl.d
      have hhl:=hTl.h
      have hTn:=HTn.out
      unfold turn at hTn
      simp only at hTn hd hhl
      generalize cS1 e=s1 at hS1 qS1 hTn
      generalize cS0 a=s0 at hS0 qS0 hTn
      generalize chN e f g=cc at hch qch hTn
      generalize majN a b c=mm at hmaj qmaj hTn
      have ht1:=sum5 h s1 cc k x hhl qS1 qch hklt hxlt
      obtain ⟨t1,ht1e⟩:∃ t,h+s1+cc+(k+x)=t:=⟨_,rfl⟩
      have qt1:t1 < 100000000000:=by omega
      rw [ht1e] at ht1 hTn
      have ht1':wrap64 (wrap64 (wrap64 (wrap64 ((h:Int)+(s1:Int))+(cc:Int))+(k:Int))+(x:Int))=(t1:Int):=by rw [<- ht1e];exact sum5' h s1 cc k x hhl qS1 qch hklt hxlt
      obtain ⟨t2,ht2e⟩:∃ t,s0+mm=t:=⟨_,rfl⟩
      have ht2:(s0:Int)+(mm:Int)=(t2:Int):=by omega
      have qt2:t2 < 100000000000:=by omega
      rw [ht2e] at hTn
      have hna:=sum2 t1 t2 qt1 qt2
      have hne:=sum2 d t1 (by omega) qt1
      obtain ⟨na,hnae⟩:∃ t,(t1+t2) % 4294967296=t:=⟨_,rfl⟩
      obtain ⟨ne,hnee⟩:∃ t,(d+t1) % 4294967296=t:=⟨_,rfl⟩
      rw [hnae] at hna hTn
      rw [hnee] at hne hTn
      have HTn2:=hide hTn
      have Han:=hide han
      have Hgv:=hide hgv
      have Hfz:=hide hfz
      have Hbw:=hide hbw
      clear hTl HTn hTn han hgv hfz hbw ht1e ht2e hnae hnee hkd qS1 qS0 qch qmaj hd hhl hklt hxlt
      go_wp2_with fail
      refine (l2Turn_6 e he _).mono ?_
      rintro e' wa ⟨rfl,hwa⟩
      subst hwa
      go_wp2_with fail
      refine (l2Turn_11 e he _).mono ?_
      rintro e' wa ⟨rfl,hwa⟩
      subst hwa
      go_wp2_with fail
      refine (l2Turn_25 e he _).mono ?_
      rintro e' wa ⟨rfl,hwa⟩
      subst hwa
      go_wp2
      go_quiet (fail)
      go_wp2
      go_quiet (fail)
      go_wp2_with fail
      refine (l2Turn_2 a ha _).mono ?_
      rintro e' wa ⟨rfl,hwa⟩
      subst hwa
      go_wp2_with fail
      refine (l2Turn_13 a ha _).mono ?_
      rintro e' wa ⟨rfl,hwa⟩
      subst hwa
      go_wp2_with fail
      refine (l2Turn_22 a ha _).mono ?_
      rintro e' wa ⟨rfl,hwa⟩
      subst hwa
      go_wp2
      go_quiet (fail)
      go_wp2
      go_region_held (fun w'=>w'.cell? ⟨gv,1,none⟩=some (.int .i64 (b:Int))/\w'.cell? ⟨gv,2,none⟩=some (.int .i64 (c:Int))/\w'.cell? ⟨gv,3,none⟩=some (.int .i64 (d:Int))/\w'.cell? ⟨gv,5,none⟩=some (.int .i64 (f:Int))/\w'.cell? ⟨gv,6,none⟩=some (.int .i64 (g:Int))) (go_keep) (fail)
      go_wp2
      go_roundw
      case rel=>exact ⟨i+1,wa.heap.size,8,by omega,by go_num,rfl,by rw [HTn2.out];exact An.new _ _ _ _ _ rfl rfl,Hbw.out.size,fun j=>World.frozen?_alloc_at _ _ _ j rfl,(below_drewN Hbw.out _).alloc Hbw.out.size _⟩
      case measure=>simp [intOf];omega
    · have e64:i=64:=by omega
      rw [e64] at han
      generalize hT:turns st bl 64=T at han
      have HT:=hide hT
      have Han:=hide han
      have Hgv:=hide hgv
      have Hfz:=hide hfz
      have Hbw:=hide hbw
      clear hT han hgv hfz hbw hi e64
      go_wp2
      go_loopw [18] (fun kv wr2=>∃ k:Nat,k<=8/\kv=.int .i64 (k:Int)/\An wr2 gv (partW T st k)/\(∀ j,wr2.frozen? ⟨gv,j,none⟩=false)/\Below w1.heap.size w1 wr2) (fun kv _=>8 - (intOf kv).toNat)
      case atStart=>exact ⟨0,by omega,rfl,by rw [partW_zero];exact Han.out,Hfz.out,Hbw.out⟩
      case round =>
        clear Han Hfz Hbw
        obtain ⟨k,hk,rfl,han,hfz,hbw⟩:=hrel
        have Han:=hide han
        have Hfz:=hide hfz
        have Hbw:=hide hbw
        by_cases hk8:k < 8
        · have hki:(k:Int) < 8:=by omega
          have c3:=han.2 k (by rw [partW_len];exact hk8)
          have f3:=hfz k
          have c0:=(Hh1.out.below hbw Hh1.out.1).2 k hk8
          rw [partW_at T st k hk8] at c3
          have Hpn:=hide (partW_next T st k hk8)
          have q1:T.list[k]'hk8 < 4294967296:=by rw [<- HT.out];exact list_lt _ (turns_lt st bl hs 64) k hk8
          have q2:st.list[k]'hk8 < 4294967296:=list_lt _ hs k hk8
          generalize T.list[k]'hk8=xk at c3 Hpn q1
          generalize st.list[k]'hk8=yk at c0 Hpn q2
          have hsum:=sum2 xk yk (by omega) (by omega)
          obtain ⟨sk,hsk⟩:∃ sk,(xk+yk) % 4294967296=sk:=⟨_,rfl⟩
          rw [hsk] at hsum Hpn
          clear hsk han hfz hbw q1 q2
          go_wp2
          refine region_tail 13 (by kernel_rfl) (by kernel_rfl) ?_
          simp only [List.take_succ_cons,List.take_zero,List.drop_succ_cons,List.drop_zero]
          repeat still_step
          refine wpStill_nil ?_
          go_wp2
          go_roundw
          case rel=>exact ⟨k+1,by omega,by go_num,by rw [Hpn.out];exact (Han.out.set k sk (by rw [partW_len];exact hk8)).drew,fun j=>by show World.frozen? (World.setCell _ _ _) _=_;rw [World.frozen?_setCell];exact Hfz.out j,(Hbw.out.setCell Hgv.out _).drew⟩
          case measure=>simp [intOf];omega
        · have e8:k=8:=by omega
          have hfin:blockS st bl=addS T st:=by unfold blockS;rw [HT.out]
          rw [e8,partW_full,<- hfin] at Han
          clear han hfz hbw hfin e8 hk
          go_wp2
          go_ret
          exact ⟨gv,cv,rfl,Han.out,Nat.le_trans hs1 Hgv.out,Hb1.out.trans (Hbw.out.mono hs1)⟩
end Go.Proofs.YtohachldbpejpaaGreatDoor
