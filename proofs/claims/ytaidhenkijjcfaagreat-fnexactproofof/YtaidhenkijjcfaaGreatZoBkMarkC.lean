/- Numbers held against their marks. -/
import Derived.Test.YtaidhenkijjcfaaGreatZoPoI
set_option maxRecDepth 20000
set_option maxHeartbeats 4000000
namespace Go.Proofs.YtaidhenkijjcfaaGreat
open Go.RowKit
set_option linter.unusedVariables false
theorem res_specPo {X:World} {a:Act} {R:Ending->World->Prop} {F:List Value} (g:Nat) (bk:Value) (h:X.rangeAt g 0 F) (h4:a.tmps[4]?.getD undef=.pointer (some ⟨g,0,none⟩)) (h5:a.tmps[5]?.getD undef=bk) (hs:(Tryz.prog.info? 42).map (·.size)=some F.length) (hd:a.defers=[]) (hR:R (.returned (.tuple #[.agg F.toArray,bk])) X):bodyPost Tryz.prog Tryz.f18 R .ret a X:=by
  have hl:=run_loadVar_mid (P:=Tryz.prog) X g 0 42 F _ h Tryz.underlying42 rfl hs
  refine bodyPost_ret (v:=.tuple #[.agg F.toArray,bk]) ?_ hd hR
  simp [results,Tryz.f18,h4,h5,asAddr,hl]
theorem specProofOf_any (p:Nd) (u:Nv) (e:Int) (w:World) (hr:RdNd w p u) (hl:p.ps.length<=4000000) (hf:∀ q ∈ p.ps,FewPf q) (hb:∀ q ∈ p.ps,q.bs.length<=3999999) :
    Calls Tryz.prog 18 #[noV p u,.int .i64 e] w fun en w'=>∃ y,en=.returned (.tuple #[pfV (poP p.ps e) y,.bool (poO p.ps e)])/\RdPf w' (poP p.ps e) y/\Below w.heap.size w w':=by
  obtain ⟨w1,hw1⟩:∃ x,(w.alloc (.cells (noC p u).toArray 73)).alloc (.cells #[.int .i64 0,.slice none 0 0,.int .i64 0,.int .i64 0,.slice none 0 0] 42)=x:=⟨_,rfl⟩
  have b1:Below w.heap.size w w1:=by rw [<- hw1];exact ((Below.refl _ w).alloc (Nat.le_refl _) _).alloc (by simp) _
  have k1:Blk w1 w.heap.size 73 (noC p u):=by rw [<- hw1];exact (Blk.new w _ _).below ((Below.refl (w.heap.size+1) _).alloc (by simp) _) (by omega)
  have r1:Blk w1 (w.heap.size+1) 42 [.int .i64 0,.slice none 0 0,.int .i64 0,.int .i64 0,.slice none 0 0]:=by rw [<- hw1];exact Blk.newR _ _ [.int .i64 0,.slice none 0 0,.int .i64 0,.int .i64 0,.slice none 0 0] _ (by simp)
  have hq:=hr.kq
  obtain ⟨aq,cq,hqv⟩:=hq.shape
  have q1:w1.cell? ⟨w.heap.size,19,none⟩=some (.slice aq p.ps.length cq):=(k1.cell 19).trans (by rw [<- hqv];rfl)
  rw [hqv] at hq
  rw [show noV p u=.agg (noC p u).toArray from rfl]
  have HX:=hide (fun q y V (h:RdPf V q y) (hm:q ∈ p.ps)=>specCopyPf_any q y V h (hf q hm) (hb q hm))
  have HP:Hid (poP p.ps e=(pfF p.ps e).getD poZ/\poO p.ps e=(pfF p.ps e).isSome):=hide ⟨rfl,rfl⟩
  generalize poP p.ps e=P at HP ⊢
  generalize poO p.ps e=O at HP ⊢
  clear hr hf hb hqv
  generalize p.ps=L at HX HP hl hq q1
  generalize noC p u=cs at hw1 k1 ⊢
  have Hq:=hide hq
  have B1:=hide b1
  have R1:=hide r1
  have hs1:w.heap.size+1 < w1.heap.size:=r1.lt
  clear b1 r1 hq k1
  go_enter Tryz.func18,Tryz.ntmps18
  go_upto_region 1 with fail
  (try rw [hw1])
  clear hw1
  go_wp2
  go_loopw [6] (fun iv wr=>∃ k:Nat,k<=L.length/\iv=.int .i64 (k:Int)/\(∀ j (h:j < L.length),j < k->¬ L[j].ep=e)/\wr=w1) (fun iv _=>L.length - (intOf iv).toNat)
  case atStart=>exact ⟨0,by omega,rfl,fun j _ h=>by omega,rfl⟩
  case round =>
    obtain ⟨k,hk,rfl,hn,rfl⟩:=hrel
    by_cases hlt:k < L.length
    · obtain ⟨b,off,rfl,hbw,hat⟩:=Hq.out.atP (by omega)
      obtain ⟨y,hrg,hrd⟩:=hat k hlt
      have hli:(k:Int) < (L.length:Int):=by omega
      have hrg:=range_below hrg B1.out hbw
      have Hyes:=hide (fun he=>pfF_at L e k hlt he hn)
      have Hm:=hide (List.getElem_mem hlt)
      have Hstep:=hide (fun (he:¬ L[k].ep=e) j (h:j < L.length) (hj:j < k+1)=>show ¬ L[j].ep=e from by
        rcases Nat.lt_succ_iff_lt_or_eq.1 hj with h' | h'
        · exact hn j h h'
        · subst h';exact he)
      clear hat hn
      generalize L[k]=q at hrg hrd Hyes Hstep Hm
      obtain ⟨ep,bs,qr,qb,qw⟩:=q
      obtain ⟨yb,yw⟩:=y
      obtain ⟨ab,cb,hyb⟩:=hrd.kb.shape
      obtain ⟨aw,cw,hyw⟩:=hrd.kw.shape
      simp only at hyb hyw
      subst hyb hyw
      have c0:=hrg 0 _ rfl
      have c1:=hrg 1 _ rfl
      have c2:=hrg 2 _ rfl
      have c3:=hrg 3 _ rfl
      have c4:=hrg 4 _ rfl
      simp only [Nat.add_zero] at c0
      simp only at Hyes Hstep c0 c1 c2 c3 c4
      have Hrd:=hide (hrd.below B1.out (Nat.le_refl _))
      clear hrg hrd
      by_cases he:ep=e
      · have Hy2:=hide (Hyes.out he)
        clear Hstep Hyes
        subst he
        have hP:=HP.out
        rw [Hy2.out] at hP
        simp only [Option.getD_some,Option.isSome_some] at hP
        obtain ⟨h1,rfl⟩:=hP
        have HPq:=hide h1
        clear HP h1 Hy2
        have HC:=hide (HX.out _ _ _ Hrd.out Hm.out)
        clear HX Hrd Hm
        simp only [pfV] at *
        go_wp2_with fail
        refine HC.out.mono ?_
        rintro en w4 ⟨y4,rfl,o4,hb4⟩
        obtain ⟨ad4,cp4,hv4⟩:=o4.rd.kb.shape
        obtain ⟨aw4,cw4,hw4⟩:=o4.rd.kw.shape
        obtain ⟨c4,hc4⟩:∃ c,pfC ⟨ep,bs,qr,qb,qw⟩ y4=c:=⟨_,rfl⟩
        have ev:pfV ⟨ep,bs,qr,qb,qw⟩ y4=.agg c4.toArray:=by rw [<- hc4];rfl
        have I4:=hide (show (Tryz.prog.info? 42).map (·.size)=some c4.length from by rw [<- hc4];exact Tryz.infoP5)
        have O4:=hide (show c4.toArray.all (·.oneCell')=true from by rw [<- hc4];unfold pfC;rw [hv4,hw4];exact all_oneCell_toArray (List.all_eq_true.1 rfl))
        have L4:=hide (show c4.length=5 from by rw [<- hc4];rfl)
        have R4:=hide (R1.out.below hb4 R1.out.lt)
        have T4:=hide (show w4.there (w.heap.size+1) 0 c4.toArray.size from R4.out.there (by rw [List.size_toArray,L4.out];rfl))
        obtain ⟨w5,hw5⟩:∃ x,w4.setCells (w.heap.size+1) 0 c4=x:=⟨_,rfl⟩
        have K5:=hide (show Blk w5 (w.heap.size+1) 42 c4 from by rw [<- hw5];exact blk_all R4.out (by rw [L4.out];rfl))
        have B5:=hide (show Below w.heap.size w w5 from by rw [<- hw5];exact (B1.out.trans (hb4.mono B1.out.size)).trans (putC_below (by omega) _ _ _))
        have X5:=hide (show RdPf w5 ⟨ep,bs,qr,qb,qw⟩ y4 from by rw [<- hw5];exact (o4.kept (Kept.setCs w4 0 c4 (.inl (by omega)))).rd)
        have HW5:=hide hw5
        have EV:=hide ev
        have ev2:(Value.agg #[.int .i64 ep,y4.b,.int .i64 qr,.int .i64 qb,y4.w])=.agg c4.toArray:=ev
        rw [ev2]
        clear ev ev2 hw5 hc4 hv4 hw4 o4 hb4 HC R4
        go_wp2_with (first
          | (refine wpList_store_mid rfl 42 _ _ rfl (w.heap.size+1) 0 c4.toArray rfl rfl T4.out (by simpa using I4.out) O4.out ?_;rw [HW5.out])
          | fail)
        refine res_specPo (F:=c4) (w.heap.size+1) (.bool true) (blk_range K5.out) (by rfl) (by rfl) I4.out rfl ?_
        exact ⟨y4,by rw [HPq.out,<- EV.out],by rw [HPq.out];exact X5.out,B5.out⟩
      · have Hst2:=hide (Hstep.out he)
        clear Hyes Hstep
        go_wp2
        go_roundw
        case rel=>exact ⟨k+1,by omega,by go_num,Hst2.out,by trivial⟩
        case measure=>simp [intOf];omega
    · have hno:=pfF_none L e (fun j hj=>hn j hj (by omega))
      have hP:=HP.out
      rw [hno] at hP
      simp only [Option.getD_none,Option.isSome_none] at hP
      obtain ⟨rfl,rfl⟩:=hP
      clear hno hn HP HX
      have g0:=R1.out.frozen 0
      have g1:=R1.out.frozen 1
      have g2:=R1.out.frozen 2
      have g3:=R1.out.frozen 3
      have g4:=R1.out.frozen 4
      have x0:=R1.out.cell 0
      have x1:=R1.out.cell 1
      have x2:=R1.out.cell 2
      have x3:=R1.out.cell 3
      have x4:=R1.out.cell 4
      simp only [List.getElem?_cons_zero,List.getElem?_cons_succ] at x0 x1 x2 x3 x4
      obtain ⟨zs,hzs⟩:∃ c,([.int .i64 0,.slice none 0 0,.int .i64 0,.int .i64 0,.slice none 0 0]:List Value)=c:=⟨_,rfl⟩
      have I4:=hide (show (Tryz.prog.info? 42).map (·.size)=some zs.length from by rw [<- hzs];exact Tryz.infoP5)
      have O4:=hide (show zs.toArray.all (·.oneCell')=true from by rw [<- hzs];exact all_oneCell_toArray (List.all_eq_true.1 rfl))
      have T4:=hide (show wr.there (w.heap.size+1) 0 zs.toArray.size from R1.out.there (by rw [List.size_toArray,<- hzs]))
      obtain ⟨w5,hw5⟩:∃ x,wr.setCells (w.heap.size+1) 0 zs=x:=⟨_,rfl⟩
      have K5:=hide (show Blk w5 (w.heap.size+1) 42 zs from by rw [<- hw5];exact blk_all R1.out (by rw [<- hzs]))
      have B5:=hide (show Below w.heap.size w w5 from by rw [<- hw5];exact B1.out.trans (putC_below (by omega) _ _ _))
      have HW5:=hide hw5
      have EV:=hide (show pfV poZ poY=.agg zs.toArray from by rw [<- hzs];rfl)
      have EA:=hide (show (Value.agg #[.int .i64 0,.slice none 0 0,.int .i64 0,.int .i64 0,.slice none 0 0])=.agg zs.toArray from by rw [<- hzs])
      have HZ:=hide (show RdPf w5 poZ poY from rdPf_zero w5)
      clear hw5 hzs x0 x1 x2 x3 x4 g0 g1 g2 g3 g4
      go_wp2_with (first
        | (simp only [EA.out];refine wpList_store_mid rfl 42 _ _ rfl (w.heap.size+1) 0 zs.toArray rfl rfl T4.out (by simpa using I4.out) O4.out ?_;rw [HW5.out])
        | fail)
      refine res_specPo (F:=zs) (w.heap.size+1) (.bool false) (blk_range K5.out) (by rfl) (by rfl) I4.out rfl ?_
      exact ⟨poY,by rw [EV.out],HZ.out,B5.out⟩
end Go.Proofs.YtaidhenkijjcfaaGreat
namespace Go.Proofs.YtaidhenkijjcfaaGreat
open Go.RowKit Go.Sort
set_option linter.unusedVariables false
theorem heldIntS_any (v:Value) (k n:Nat) (w:World) (hr:RdI w v (mkI k n)) (hl:n<=10000000) (hk:k<=100000000) (hk0:0 < k) :
    Calls Tryz.prog 123 #[v,.int .i64 (k:Int)] w fun e w'=>e=.returned (.int .i64 ((k+n:Nat):Int))/\Below w.heap.size w w':=by
  have hML:=mkI_len k n
  have hMA:=mkI_at k n
  generalize hMd:mkI k n=M at hML hMA hr
  clear hMd
  rcases hr with ⟨a,cap,rfl,rfl,-⟩ | ⟨b,off,cap,h0,rfl,h1,h2,h3,h4⟩
  · simp at hML
    subst hML
    clear hMA
    go_enter Tryz.func123,Tryz.ntmps123
    go_wp2
    refine wp_loop_rounds 1 ?_
    rw [rounds_succ]
    go_wp2
    go_ret
    exact ⟨rfl,Below.refl _ _⟩
  · have HMA:=hide hMA
    have hMl:n<=M.length:=by omega
    have hMg:M.length<=n:=by omega
    have H4:=hide h4
    clear hML hMA h4
    go_enter Tryz.func123,Tryz.ntmps123
    go_wp2
    go_loopw [1,5] (fun kv iv wr=>∃ j:Nat,j<=n/\iv=.int .i64 (j:Int)/\kv=.int .i64 ((k+j:Nat):Int)/\wr=w) (fun _ iv _=>n - (intOf iv).toNat)
    case atStart=>exact ⟨0,Nat.zero_le _,rfl,rfl,rfl⟩
    case round =>
      obtain ⟨j,hj,rfl,rfl,rfl⟩:=hrel
      by_cases hlt:j < n
      · have hjM:j < M.length:=by omega
        have hc0:=H4.out j hjM
        obtain ⟨K,hK⟩:∃ K:Nat,k+j=K:=⟨_,rfl⟩
        have hK2:K<=150000000:=by omega
        rw [HMA.out j hjM,hK] at hc0
        rw [hK]
        have HK:=hide hK
        have hli:(j:Int) < (M.length:Int):=by omega
        clear hK
        go_wp2
        go_roundw
        case rel=>exact ⟨j+1,by omega,by go_num,by rw [show k+(j+1)=K+1 from by have:=HK.out;omega];go_num,by first | trivial | rfl⟩
        case measure=>simp [intOf];omega
      · have e:j=n:=by omega
        have He:=hide e
        clear e
        go_wp2
        go_ret
        exact ⟨ret_int (by rw [<- He.out]),Below.refl _ _⟩
end Go.Proofs.YtaidhenkijjcfaaGreat
