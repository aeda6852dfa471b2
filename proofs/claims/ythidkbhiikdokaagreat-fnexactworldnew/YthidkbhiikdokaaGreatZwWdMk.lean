/- A world marked in place. -/
import Derived.Test.YthidkbhiikdokaaGreatZwWdMem
set_option maxRecDepth 20000
set_option maxHeartbeats 8000000
namespace Go.Proofs.YthidkbhiikdokaaGreat
open Go.RowKit
set_option linter.unusedVariables false
structure FewWd (p:Wd):Prop where
  na:p.la.length<=4000000
  fa:∀ a ∈ p.la,a.2.2.2.2.length<=4000000
  nf:p.fo.length<=4000000
  nn:p.ns.length<=4000000
  fn:∀ q ∈ p.ns,FewNd q
  nb:p.bs.length<=4000000
  fb:∀ b ∈ p.bs,FewK b
  ns:p.sg.length<=4000000
  fs:∀ q ∈ p.sg,FewSn q
  nm:p.ms.length<=4000000
  fm:∀ q ∈ p.ms,FewMg q
end Go.Proofs.YthidkbhiikdokaaGreat
namespace Go.Proofs.YthidkbhiikdokaaGreat
open Go.RowKit Go.Sort
set_option linter.unusedVariables false
def nlWd (K:Nat) (p:Wd):Nat:=nxG nxMg (nxG nxSn (nxG nxNd (nxs (K) p.la+p.fo.length) p.ns+totM p.bs) p.sg) p.ms
def mlWd (K:Nat) (p:Wd):Wd:=⟨p.ep,mkAs (K) p.la,mkS (nxs (K) p.la) p.fo.length,mkG mkNd nxNd (nxs (K) p.la+p.fo.length) p.ns,mkLk (nxG nxNd (nxs (K) p.la+p.fo.length) p.ns) p.bs,mkG mkSn nxSn (nxG nxNd (nxs (K) p.la+p.fo.length) p.ns+totM p.bs) p.sg,mkG mkMg nxMg (nxG nxSn (nxG nxNd (nxs (K) p.la+p.fo.length) p.ns+totM p.bs) p.sg) p.ms⟩
theorem Blk.othM {S:Nat->Prop} {W V:World} {B:Nat} {t:TypeId} {cs:List Value} (h:Blk W B t cs) (hO:Oth S W V) (hn:¬ S B):Blk V B t cs:=(hO.block B h.lt hn).trans h
theorem markWorld_own (p:Wd) (u:Wv) (K lo hi:Nat) (w:World) (ho:OwnWd lo hi w p u) (hw:hi<=w.heap.size) (hf:FewWd p) (hle:nlWd K p<=40000000) (hK0:0 < K) :
    Calls Tryz.prog 15 #[wdV p u,.int .i64 (K:Int)] w (Mkd (nlWd K p) lo hi (fun w'=>OwnWd lo hi w' (mlWd K p) u) w):=by
  have hna:=hf.na
  have hfa:=hf.fa
  have hnf:=hf.nf
  have hnn:=hf.nn
  have hfn:=hf.fn
  have hnb:=hf.nb
  have hfb:=hf.fb
  have hns:=hf.ns
  have hfs:=hf.fs
  have hnm:=hf.nm
  have hfm:=hf.fm
  have HE:=hide (show nlWd K p=nlWd K p from rfl)
  obtain ⟨m0,m1,m2,m3,m4,m5,m6,b0,b1,b2,b3,b4,b5,b6,b7,xa,xf,xn,xb,xs,xm⟩:=ho.ex
  obtain ⟨ep,la,fo,ns,bs,sg,ms⟩:=p
  obtain ⟨ya,yf,yn,yb,ys,ym⟩:=u
  clear ho hf HE
  simp only at *
  obtain ⟨ada,cpa,rfl⟩:=xa.rd.shape
  obtain ⟨adf,cpf,rfl⟩:=xf.rd.shape
  obtain ⟨adn,cpn,rfl⟩:=xn.rd.shape
  obtain ⟨adb,cpb,rfl⟩:=xb.rd.shape
  obtain ⟨ads,cps,rfl⟩:=xs.rd.shape
  obtain ⟨adm,cpm,rfl⟩:=xm.rd.shape
  have HT:=hide (show nlWd K ⟨ep,la,fo,ns,bs,sg,ms⟩=nxG nxMg (nxG nxSn (nxG nxNd (nxs (K) la+fo.length) ns+totM bs) sg) ms from rfl)
  rw [HT.out] at hle ⊢
  have HD:=hide (show mlWd K ⟨ep,la,fo,ns,bs,sg,ms⟩=⟨ep,mkAs (K) la,mkS (nxs (K) la) fo.length,mkG mkNd nxNd (nxs (K) la+fo.length) ns,mkLk (nxG nxNd (nxs (K) la+fo.length) ns) bs,mkG mkSn nxSn (nxG nxNd (nxs (K) la+fo.length) ns+totM bs) sg,mkG mkMg nxMg (nxG nxSn (nxG nxNd (nxs (K) la+fo.length) ns+totM bs) sg) ms⟩ from rfl)
  rw [HD.out]
  clear HD HT
  obtain ⟨w0,hw0⟩:∃ x,w.alloc (.cells #[.int .i64 ep,.slice ada la.length cpa,.slice adf fo.length cpf,.slice adn ns.length cpn,.slice adb bs.length cpb,.slice ads sg.length cps,.slice adm ms.length cpm] 36)=x:=⟨_,rfl⟩
  have b0:Below w.heap.size w w0:=by rw [<- hw0];exact (Below.refl _ w).alloc (Nat.le_refl _) _
  have K0:=hide (show Blk w0 w.heap.size 36 [.int .i64 ep,.slice ada la.length cpa,.slice adf fo.length cpf,.slice adn ns.length cpn,.slice adb bs.length cpb,.slice ads sg.length cps,.slice adm ms.length cpm] from by rw [<- hw0];exact Blk.new w _ _)
  have Xa:=hide (xa.kept (Kept.of_below b0 (Nat.le_refl _)))
  clear xa
  have Xf:=hide (xf.kept (Kept.of_below b0 (Nat.le_refl _)))
  clear xf
  have Xn:=hide (xn.kept (Kept.of_below b0 (Nat.le_refl _)))
  clear xn
  have Xb:=hide (xb.kept (Kept.of_below b0 (Nat.le_refl _)))
  clear xb
  have Xs:=hide (xs.kept (Kept.of_below b0 (Nat.le_refl _)))
  clear xs
  have Xm:=hide (xm.kept (Kept.of_below b0 (Nat.le_refl _)))
  clear xm
  have HO:=hide (Oth.of_below (S:=fun x=>lo<=x/\x < hi) b0)
  clear b0
  simp only [wdV] at *
  go_enter Tryz.func15,Tryz.ntmps15
  have kk:=K0.out
  have c0:=kk.cell 0
  have c1:=kk.cell 1
  simp only [List.getElem?_cons_zero,List.getElem?_cons_succ] at c0 c1
  clear kk
  have hq0:nxs (K) la<=40000000:=by have:=nxG_ge nxNd_ge (nxs (K) la+fo.length) ns;have:=nxG_ge nxSn_ge (nxG nxNd (nxs (K) la+fo.length) ns+totM bs) sg;have:=nxG_ge nxMg_ge (nxG nxSn (nxG nxNd (nxs (K) la+fo.length) ns+totM bs) sg) ms;omega
  have HA:=hide (mkuLedgerZ ep (.slice ada la.length cpa) la (K) m0 m1 _ Xa.out hna hfa (by omega) (by omega))
  simp only [lgV] at HA
  go_wp2_with fail
  (try rw [hw0])
  clear hw0
  refine HA.out.mono ?_
  rintro e w1 ⟨rfl,hx,hoth⟩
  have HOn:=hide (HO.out.trans (hoth.mono (fun x hx=>⟨by omega,by omega⟩)))
  clear HO
  have HO:=HOn
  clear HOn
  have Kn:=hide (K0.out.othM hoth (by omega))
  clear K0
  have K0:=Kn
  clear Kn
  have Xf:=hide (Xf.out.kept (Kept.of_oth hoth (fun k h1 h2=>by omega)))
  have Xn:=hide (Xn.out.kept (Kept.of_oth hoth (fun k h1 h2=>by omega)))
  have Xb:=hide (Xb.out.kept (Kept.of_oth hoth (fun k h1 h2=>by omega)))
  have Xs:=hide (Xs.out.kept (Kept.of_oth hoth (fun k h1 h2=>by omega)))
  have Xm:=hide (Xm.out.kept (Kept.of_oth hoth (fun k h1 h2=>by omega)))
  have Xnew:=hide hx
  clear Xa
  have Xa:=Xnew
  clear Xnew
  obtain ⟨Q1,hQ1⟩:∃ x:Nat,nxs (K) la=x:=⟨_,rfl⟩
  have HQ1:=hide hQ1
  rw [hQ1] at hle ⊢
  have hp1:0 < Q1:=by have:=nxs_ge K la;omega
  rw [hQ1] at hq0
  clear hx hoth HA hQ1 c0 c1
  have kk:=K0.out
  have c2:=kk.cell 2
  simp only [List.getElem?_cons_zero,List.getElem?_cons_succ] at c2
  clear kk
  have hq1:Q1+fo.length<=40000000:=by have:=nxG_ge nxNd_ge (Q1+fo.length) ns;have:=nxG_ge nxSn_ge (nxG nxNd (Q1+fo.length) ns+totM bs) sg;have:=nxG_ge nxMg_ge (nxG nxSn (nxG nxNd (Q1+fo.length) ns+totM bs) sg) ms;omega
  have HA:=hide (mkuStr (.slice adf fo.length cpf) fo (Q1) m1 m2 _ Xf.out hnf (by omega) (by omega))
  go_wp2_with fail
  refine HA.out.mono ?_
  rintro e w2 ⟨rfl,hx,hoth⟩
  have HOn:=hide (HO.out.trans (hoth.mono (fun x hx=>⟨by omega,by omega⟩)))
  clear HO
  have HO:=HOn
  clear HOn
  have Kn:=hide (K0.out.othM hoth (by omega))
  clear K0
  have K0:=Kn
  clear Kn
  have Xa:=hide (Xa.out.kept (Kept.of_oth hoth (fun k h1 h2=>by omega)))
  have Xn:=hide (Xn.out.kept (Kept.of_oth hoth (fun k h1 h2=>by omega)))
  have Xb:=hide (Xb.out.kept (Kept.of_oth hoth (fun k h1 h2=>by omega)))
  have Xs:=hide (Xs.out.kept (Kept.of_oth hoth (fun k h1 h2=>by omega)))
  have Xm:=hide (Xm.out.kept (Kept.of_oth hoth (fun k h1 h2=>by omega)))
  have Xnew:=hide hx
  clear Xf
  have Xf:=Xnew
  clear Xnew
  obtain ⟨Q2,hQ2⟩:∃ x:Nat,Q1+fo.length=x:=⟨_,rfl⟩
  have HQ2:=hide hQ2
  rw [hQ2] at hle ⊢
  have hp2:0 < Q2:=by omega
  rw [hQ2] at hq1
  clear hx hoth HA hQ2 c2
  have kk:=K0.out
  have c3:=kk.cell 3
  simp only [List.getElem?_cons_zero,List.getElem?_cons_succ] at c3
  clear kk
  have hq2:nxG nxNd (Q2) ns<=40000000:=by have:=nxG_ge nxSn_ge (nxG nxNd (Q2) ns+totM bs) sg;have:=nxG_ge nxMg_ge (nxG nxSn (nxG nxNd (Q2) ns+totM bs) sg) ms;omega
  have HA:=hide (mkuNode (.slice adn ns.length cpn) ns (Q2) m2 m3 _ Xn.out hnn hfn (by omega) (by omega))
  go_wp2_with fail
  refine HA.out.mono ?_
  rintro e w3 ⟨rfl,hx,hoth⟩
  have HOn:=hide (HO.out.trans (hoth.mono (fun x hx=>⟨by omega,by omega⟩)))
  clear HO
  have HO:=HOn
  clear HOn
  have Kn:=hide (K0.out.othM hoth (by omega))
  clear K0
  have K0:=Kn
  clear Kn
  have Xa:=hide (Xa.out.kept (Kept.of_oth hoth (fun k h1 h2=>by omega)))
  have Xf:=hide (Xf.out.kept (Kept.of_oth hoth (fun k h1 h2=>by omega)))
  have Xb:=hide (Xb.out.kept (Kept.of_oth hoth (fun k h1 h2=>by omega)))
  have Xs:=hide (Xs.out.kept (Kept.of_oth hoth (fun k h1 h2=>by omega)))
  have Xm:=hide (Xm.out.kept (Kept.of_oth hoth (fun k h1 h2=>by omega)))
  have Xnew:=hide hx
  clear Xn
  have Xn:=Xnew
  clear Xnew
  obtain ⟨Q3,hQ3⟩:∃ x:Nat,nxG nxNd (Q2) ns=x:=⟨_,rfl⟩
  have HQ3:=hide hQ3
  rw [hQ3] at hle ⊢
  have hp3:0 < Q3:=by have:=nxG_ge nxNd_ge Q2 ns;omega
  rw [hQ3] at hq2
  clear hx hoth HA hQ3 c3
  have kk:=K0.out
  have c4:=kk.cell 4
  simp only [List.getElem?_cons_zero,List.getElem?_cons_succ] at c4
  clear kk
  have hq3:Q3+totM bs<=40000000:=by have:=nxG_ge nxSn_ge (Q3+totM bs) sg;have:=nxG_ge nxMg_ge (nxG nxSn (Q3+totM bs) sg) ms;omega
  have HA:=hide (mkuBlock (.slice adb bs.length cpb) bs (Q3) m3 m4 _ Xb.out hnb hfb (by omega) (by omega))
  go_wp2_with fail
  refine HA.out.mono ?_
  rintro e w4 ⟨rfl,hx,hoth⟩
  have HOn:=hide (HO.out.trans (hoth.mono (fun x hx=>⟨by omega,by omega⟩)))
  clear HO
  have HO:=HOn
  clear HOn
  have Kn:=hide (K0.out.othM hoth (by omega))
  clear K0
  have K0:=Kn
  clear Kn
  have Xa:=hide (Xa.out.kept (Kept.of_oth hoth (fun k h1 h2=>by omega)))
  have Xf:=hide (Xf.out.kept (Kept.of_oth hoth (fun k h1 h2=>by omega)))
  have Xn:=hide (Xn.out.kept (Kept.of_oth hoth (fun k h1 h2=>by omega)))
  have Xs:=hide (Xs.out.kept (Kept.of_oth hoth (fun k h1 h2=>by omega)))
  have Xm:=hide (Xm.out.kept (Kept.of_oth hoth (fun k h1 h2=>by omega)))
  have Xnew:=hide hx
  clear Xb
  have Xb:=Xnew
  clear Xnew
  obtain ⟨Q4,hQ4⟩:∃ x:Nat,Q3+totM bs=x:=⟨_,rfl⟩
  have HQ4:=hide hQ4
  rw [hQ4] at hle ⊢
  have hp4:0 < Q4:=by omega
  rw [hQ4] at hq3
  clear hx hoth HA hQ4 c4
  have kk:=K0.out
  have c5:=kk.cell 5
  simp only [List.getElem?_cons_zero,List.getElem?_cons_succ] at c5
  clear kk
  have hq4:nxG nxSn (Q4) sg<=40000000:=by have:=nxG_ge nxMg_ge (nxG nxSn (Q4) sg) ms;omega
  have HA:=hide (mkuSig (.slice ads sg.length cps) sg (Q4) m4 m5 _ Xs.out hns hfs (by omega) (by omega))
  go_wp2_with fail
  refine HA.out.mono ?_
  rintro e w5 ⟨rfl,hx,hoth⟩
  have HOn:=hide (HO.out.trans (hoth.mono (fun x hx=>⟨by omega,by omega⟩)))
  clear HO
  have HO:=HOn
  clear HOn
  have Kn:=hide (K0.out.othM hoth (by omega))
  clear K0
  have K0:=Kn
  clear Kn
  have Xa:=hide (Xa.out.kept (Kept.of_oth hoth (fun k h1 h2=>by omega)))
  have Xf:=hide (Xf.out.kept (Kept.of_oth hoth (fun k h1 h2=>by omega)))
  have Xn:=hide (Xn.out.kept (Kept.of_oth hoth (fun k h1 h2=>by omega)))
  have Xb:=hide (Xb.out.kept (Kept.of_oth hoth (fun k h1 h2=>by omega)))
  have Xm:=hide (Xm.out.kept (Kept.of_oth hoth (fun k h1 h2=>by omega)))
  have Xnew:=hide hx
  clear Xs
  have Xs:=Xnew
  clear Xnew
  obtain ⟨Q5,hQ5⟩:∃ x:Nat,nxG nxSn (Q4) sg=x:=⟨_,rfl⟩
  have HQ5:=hide hQ5
  rw [hQ5] at hle ⊢
  have hp5:0 < Q5:=by have:=nxG_ge nxSn_ge Q4 sg;omega
  rw [hQ5] at hq4
  clear hx hoth HA hQ5 c5
  have kk:=K0.out
  have c6:=kk.cell 6
  simp only [List.getElem?_cons_zero,List.getElem?_cons_succ] at c6
  clear kk
  have hq5:nxG nxMg (Q5) ms<=40000000:=by omega
  have HA:=hide (mkuMsg (.slice adm ms.length cpm) ms (Q5) m5 m6 _ Xm.out hnm hfm (by omega) (by omega))
  go_wp2_with fail
  refine HA.out.mono ?_
  rintro e w6 ⟨rfl,hx,hoth⟩
  have HOn:=hide (HO.out.trans (hoth.mono (fun x hx=>⟨by omega,by omega⟩)))
  clear HO
  have HO:=HOn
  clear HOn
  have Kn:=hide (K0.out.othM hoth (by omega))
  clear K0
  have K0:=Kn
  clear Kn
  have Xa:=hide (Xa.out.kept (Kept.of_oth hoth (fun k h1 h2=>by omega)))
  have Xf:=hide (Xf.out.kept (Kept.of_oth hoth (fun k h1 h2=>by omega)))
  have Xn:=hide (Xn.out.kept (Kept.of_oth hoth (fun k h1 h2=>by omega)))
  have Xb:=hide (Xb.out.kept (Kept.of_oth hoth (fun k h1 h2=>by omega)))
  have Xs:=hide (Xs.out.kept (Kept.of_oth hoth (fun k h1 h2=>by omega)))
  have Xnew:=hide hx
  clear Xm
  have Xm:=Xnew
  clear Xnew
  obtain ⟨Q6,hQ6⟩:∃ x:Nat,nxG nxMg (Q5) ms=x:=⟨_,rfl⟩
  have HQ6:=hide hQ6
  rw [hQ6] at hle ⊢
  have hp6:0 < Q6:=by have:=nxG_ge nxMg_ge Q5 ms;omega
  rw [hQ6] at hq5
  clear hx hoth HA hQ6 c6
  go_wp2
  go_ret
  unfold Mkd
  simp only [HQ1.out,HQ2.out,HQ3.out,HQ4.out,HQ5.out,HQ6.out]
  exact ⟨rfl,⟨m0,m1,m2,m3,m4,m5,m6,b0,b1,b2,b3,b4,b5,b6,b7,Xa.out,Xf.out,Xn.out,Xb.out,Xs.out,Xm.out⟩,HO.out⟩
end Go.Proofs.YthidkbhiikdokaaGreat
