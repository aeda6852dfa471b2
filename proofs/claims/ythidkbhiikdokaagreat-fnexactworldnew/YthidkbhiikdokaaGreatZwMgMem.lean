/- Words. -/
import Derived.Test.YthidkbhiikdokaaGreatZwPfMk
import Derived.Test.YthidkbhiikdokaaGreatZwNdApp
set_option maxRecDepth 20000
set_option maxHeartbeats 8000000
namespace Go.Proofs.YthidkbhiikdokaaGreat
open Go.RowKit Go.Sort
set_option linter.unusedVariables false
def nxNd (K:Nat) (p:Nd):Nat:=nxG nxPf (nxs (K+1+1+1) p.la+2 * p.st.length+totM p.tt+1+1+1+1+p.hw.length+1+p.tw.length+p.th.length+1+3 * p.vo.length+3 * p.go.length+p.dn.length+5 * p.pl.length) p.ps
def mkNd (K:Nat) (p:Nd):Nd:=⟨mtx (K),((K+1:Nat):Int),((K+1+1:Nat):Int),mkAs (K+1+1+1) p.la,mkV (nxs (K+1+1+1) p.la) p.st.length,mkLk (nxs (K+1+1+1) p.la+2 * p.st.length) p.tt,((nxs (K+1+1+1) p.la+2 * p.st.length+totM p.tt:Nat):Int),((nxs (K+1+1+1) p.la+2 * p.st.length+totM p.tt+1:Nat):Int),((nxs (K+1+1+1) p.la+2 * p.st.length+totM p.tt+1+1:Nat):Int),((nxs (K+1+1+1) p.la+2 * p.st.length+totM p.tt+1+1+1:Nat):Int),mkS (nxs (K+1+1+1) p.la+2 * p.st.length+totM p.tt+1+1+1+1) p.hw.length,((nxs (K+1+1+1) p.la+2 * p.st.length+totM p.tt+1+1+1+1+p.hw.length:Nat):Int),mkS (nxs (K+1+1+1) p.la+2 * p.st.length+totM p.tt+1+1+1+1+p.hw.length+1) p.tw.length,mkI (nxs (K+1+1+1) p.la+2 * p.st.length+totM p.tt+1+1+1+1+p.hw.length+1+p.tw.length) p.th.length,((nxs (K+1+1+1) p.la+2 * p.st.length+totM p.tt+1+1+1+1+p.hw.length+1+p.tw.length+p.th.length:Nat):Int),mkR (nxs (K+1+1+1) p.la+2 * p.st.length+totM p.tt+1+1+1+1+p.hw.length+1+p.tw.length+p.th.length+1) p.vo.length,mkR (nxs (K+1+1+1) p.la+2 * p.st.length+totM p.tt+1+1+1+1+p.hw.length+1+p.tw.length+p.th.length+1+3 * p.vo.length) p.go.length,mkI (nxs (K+1+1+1) p.la+2 * p.st.length+totM p.tt+1+1+1+1+p.hw.length+1+p.tw.length+p.th.length+1+3 * p.vo.length+3 * p.go.length) p.dn.length,mkT (nxs (K+1+1+1) p.la+2 * p.st.length+totM p.tt+1+1+1+1+p.hw.length+1+p.tw.length+p.th.length+1+3 * p.vo.length+3 * p.go.length+p.dn.length) p.pl.length,mkG mkPf nxPf (nxs (K+1+1+1) p.la+2 * p.st.length+totM p.tt+1+1+1+1+p.hw.length+1+p.tw.length+p.th.length+1+3 * p.vo.length+3 * p.go.length+p.dn.length+5 * p.pl.length) p.ps⟩
theorem nxNd_ge (K:Nat) (p:Nd):K<=nxNd K p:=by
  unfold nxNd
  have:=nxs_ge (K+1+1+1) p.la
  have:=nxG_ge nxPf_ge (nxs (K+1+1+1) p.la+2 * p.st.length+totM p.tt+1+1+1+1+p.hw.length+1+p.tw.length+p.th.length+1+3 * p.vo.length+3 * p.go.length+p.dn.length+5 * p.pl.length) p.ps
  omega
def ndQ (K:Nat) (q:Nd × Nv):Nd × Nv:=(mkNd K q.1,q.2)
def ndN (K:Nat) (q:Nd × Nv):Nat:=nxNd K q.1
theorem ndN_ge (K:Nat) (q:Nd × Nv):K<=ndN K q:=nxNd_ge K q.1
theorem ndG_fst (k:Nat) (Z:List (Nd × Nv)):(mkG ndQ ndN k Z).map (·.1)=mkG mkNd nxNd k (Z.map (·.1)):=mkG_map (fun q:Nd × Nv=>q.1) ndQ mkNd nxNd (fun _ _=>rfl) k Z
theorem ndG_nx (k:Nat) (Z:List (Nd × Nv)):nxG ndN k Z=nxG nxNd k (Z.map (·.1)):=(nxG_map (fun q:Nd × Nv=>q.1) nxNd k Z).symm
theorem mapNd_sz (X:List (Nd × Nv)):∀ x ∈ X.map (fun q:Nd × Nv=>noC q.1 q.2),x.length=20:=mapC_sz noC_sz X
theorem setNd {α:Type} (X:List α) (o:Nat) (y0 y1 y2 y3 y4 y5 y6 y7 y8 y9 y10 y11 y12 y13 y14 y15 y16 y17 y18 y19:α) (h3:X[o+3]?=some y3) (h4:X[o+4]?=some y4) (h5:X[o+5]?=some y5) (h10:X[o+10]?=some y10) (h12:X[o+12]?=some y12) (h13:X[o+13]?=some y13) (h15:X[o+15]?=some y15) (h16:X[o+16]?=some y16) (h17:X[o+17]?=some y17) (h18:X[o+18]?=some y18) (h19:X[o+19]?=some y19) :
    (((((((((X.set (o) y0).set (o+1) y1).set (o+2) y2).set (o+6) y6).set (o+7) y7).set (o+8) y8).set (o+9) y9).set (o+11) y11).set (o+14) y14)=setAll X o [y0,y1,y2,y3,y4,y5,y6,y7,y8,y9,y10,y11,y12,y13,y14,y15,y16,y17,y18,y19]:=by
  simp only [setAll]
  apply List.ext_getElem?
  intro i
  simp only [List.getElem?_set,Nat.add_assoc,List.length_set]
  by_cases e3:o+3=i
  · subst e3;simp [h3];have:=(List.getElem?_eq_some_iff.1 h3).1;omega
  by_cases e4:o+4=i
  · subst e4;simp [h4];have:=(List.getElem?_eq_some_iff.1 h4).1;omega
  by_cases e5:o+5=i
  · subst e5;simp [h5];have:=(List.getElem?_eq_some_iff.1 h5).1;omega
  by_cases e10:o+10=i
  · subst e10;simp [h10];have:=(List.getElem?_eq_some_iff.1 h10).1;omega
  by_cases e12:o+12=i
  · subst e12;simp [h12];have:=(List.getElem?_eq_some_iff.1 h12).1;omega
  by_cases e13:o+13=i
  · subst e13;simp [h13];have:=(List.getElem?_eq_some_iff.1 h13).1;omega
  by_cases e15:o+15=i
  · subst e15;simp [h15];have:=(List.getElem?_eq_some_iff.1 h15).1;omega
  by_cases e16:o+16=i
  · subst e16;simp [h16];have:=(List.getElem?_eq_some_iff.1 h16).1;omega
  by_cases e17:o+17=i
  · subst e17;simp [h17];have:=(List.getElem?_eq_some_iff.1 h17).1;omega
  by_cases e18:o+18=i
  · subst e18;simp [h18];have:=(List.getElem?_eq_some_iff.1 h18).1;omega
  by_cases e19:o+19=i
  · subst e19;simp [h19];have:=(List.getElem?_eq_some_iff.1 h19).1;omega
  simp [e3,e4,e5,e10,e12,e13,e15,e16,e17,e18,e19]
theorem mkuNode (v:Value) (l:List Nd) (k lo hi:Nat) (w:World) (ho:OwnNx lo hi w v l) (hl:l.length<=4000000) (hf:∀ q ∈ l,FewNd q) (hk:nxG nxNd k l<=40000000) (hk0:0 < k) :
    Calls Tryz.prog 36 #[v,.int .i64 (k:Int)] w (Mkd (nxG nxNd k l) lo hi (fun w'=>OwnNx lo hi w' v (mkG mkNd nxNd k l)) w):=by
  obtain ⟨Z,rfl,ho⟩:=ho
  by_cases hne:Z=[]
  · subst hne
    obtain ⟨a,c,rfl⟩:∃ a c,v=.slice a 0 c:=by
      rcases ho.1.2 with ⟨rfl,hn⟩ | ⟨g,cap,cur,rfl,-⟩
      · exact ⟨_,_,rfl⟩
      · exact ⟨_,_,rfl⟩
    have Ho:=hide ho
    clear ho
    go_enter Tryz.func36,Tryz.ntmps36
    go_wp2
    refine wp_loop_rounds 1 ?_
    rw [rounds_succ]
    go_wp2
    go_ret
    exact ⟨rfl,⟨[],rfl,Ho.out⟩,Oth.refl _ _⟩
  · obtain ⟨g,cap,rfl⟩:∃ g cap,v=.slice (some ⟨g,0,none⟩) Z.length cap:=by
      rcases ho.1.2 with ⟨rfl,hn⟩ | ⟨g,cap,cur,rfl,-⟩
      · exact absurd (List.length_eq_zero_iff.1 hn) hne
      · exact ⟨g,cap,rfl⟩
    rw [List.length_map] at hl
    rw [<- ndG_nx] at hk ⊢
    have HEq:=hide (ndG_fst k Z)
    have HF:=hide (show ∀ j (h:j < Z.length),FewNd Z[j].1 from fun j h=>hf _ (List.mem_map.2 ⟨_,List.getElem_mem h,rfl⟩))
    have HM0:=hide (MidR.of ho)
    obtain ⟨n,hn⟩:∃ n,Z.length=n:=⟨_,rfl⟩
    rw [hn] at HM0 hl ⊢
    have Hn:=hide hn
    have Hk:=hide hk
    clear ho hf hn hk hne
    go_enter Tryz.func36,Tryz.ntmps36
    go_wp2
    go_loopw [1,5] (fun kv iv wr=>∃ j:Nat,j<=n/\iv=.int .i64 (j:Int)/\kv=.int .i64 ((nxG ndN k (Z.take j):Nat):Int)/\MidR 65 20 (fun a b w (q:Nd × Nv)=>OwnNd a b w q.1 q.2) lo hi wr g n cap ((mixG ndQ ndN k Z j).map (fun q:Nd × Nv=>noC q.1 q.2)).flatten (mixG ndQ ndN k Z j)/\Oth (fun x=>lo<=x/\x < hi) w wr)
      (fun _ iv _=>n - (intOf iv).toNat)
    case atStart=>exact ⟨0,Nat.zero_le _,rfl,by simp [nxG],by rw [mixG_zero];exact HM0.out,Oth.refl _ _⟩
    case round =>
      obtain ⟨j,hj,rfl,rfl,hm,hot⟩:=hrel
      clear HM0
      by_cases hlt:j < n
      · have hjZ:j < Z.length:=by have:=Hn.out;omega
        have hmx:=mixG_len ndQ ndN k Z j (by omega)
        have hjm:j < (mixG ndQ ndN k Z j).length:=by omega
        have hnow:=mixG_now ndQ ndN k Z j hjZ hjm
        have hYl:((mixG ndQ ndN k Z j).map (fun q:Nd × Nv=>noC q.1 q.2)).flatten.length=20 * n:=by rw [flat_len 20 _ (mapNd_sz _),List.length_map,hmx,Hn.out];omega
        have Hat:Hid (∀ t,t < 20->((mixG ndQ ndN k Z j).map (fun q:Nd × Nv=>noC q.1 q.2)).flatten[j * 20+t]?=(noC Z[j].1 Z[j].2)[t]?):=hide (fun t ht=>by
          rw [flat_get 20 _ j t (by simpa using hjm) (mapNd_sz _) ht]
          simp [hnow])
        have hfew:=HF.out j hjZ
        have hnx:nxG ndN k (Z.take (j+1))=nxNd (nxG ndN k (Z.take j)) Z[j].1:=nxG_take hjZ k
        have hle:nxG ndN k (Z.take (j+1))<=40000000:=Nat.le_trans (nxG_le ndN_ge k Z (j+1)) Hk.out
        have hK0:0 < nxG ndN k (Z.take j):=Nat.lt_of_lt_of_le hk0 (nxG_ge ndN_ge k _)
        rw [hnx] at hle
        have Hnx:=hide hnx
        have HEnd:Hid (∀ Y,Y=setAll ((mixG ndQ ndN k Z j).map (fun q:Nd × Nv=>noC q.1 q.2)).flatten (j * 20) (noC (mkNd (nxG ndN k (Z.take j)) Z[j].1) Z[j].2)->Y=((mixG ndQ ndN k Z (j+1)).map (fun q:Nd × Nv=>noC q.1 q.2)).flatten):=hide (fun Y hY=>by
          rw [hY,setAll_flat 20 _ _ j (by simpa using hjm) (mapNd_sz _) rfl,<- mixG_next ndQ ndN k Z j hjZ,List.map_set]
          rfl)
        obtain ⟨a,b,ha1,ha2,ha3,ha4,ho,hcl⟩:=hm.at (fun a b q w w' hk hq=>hq.kept hk) hjm
        rw [hnow] at ho
        have HC:Hid (∀ (w':World) (Y':List Value),w'.ownsRow lo 65 20 (.slice (some ⟨g,0,none⟩) n cap) n Y'->Oth (fun x=>x=g\/a<=x/\x < b) wr w'->OwnNd a b w' (mkNd (nxG ndN k (Z.take j)) Z[j].1) Z[j].2->MidR 65 20 (fun a b w (q:Nd × Nv)=>OwnNd a b w q.1 q.2) lo hi w' g n cap Y' (mixG ndQ ndN k Z (j+1))):=hide (fun w' Y' h1 h2 h3=>by
          rw [<- mixG_next ndQ ndN k Z j hjZ]
          exact hcl w' Y' (ndQ (nxG ndN k (Z.take j)) Z[j]) h1 h2 h3)
        have hgg:=hm.oth
        have HSo:=hide (show ∀ x,(x=g\/a<=x/\x < b)->lo<=x/\x < hi from fun x hx=>by rcases hx with rfl | ⟨h1,h2⟩ <;> omega)
        have HR:=hide (show RowSt lo 65 20 (fun x=>x=g\/a<=x/\x < b) wr wr g n cap ((mixG ndQ ndN k Z j).map (fun q:Nd × Nv=>noC q.1 q.2)).flatten from ⟨hm.row,Oth.refl _ _⟩)
        have Hot:=hide hot
        generalize nxG ndN k (Z.take j)=K at Hnx hle hK0 HEnd HC ⊢
        generalize ((mixG ndQ ndN k Z j).map (fun q:Nd × Nv=>noC q.1 q.2)).flatten=Y at hYl Hat HEnd HR
        clear hm hot hcl hnow hjm hmx hgg HF hnx
        generalize Z[j]=zq at Hat hfew hle HEnd HC Hnx ho
        obtain ⟨p,u⟩:=zq
        have hna:=hfew.na
        have hfa:=hfew.fa
        have hns:=hfew.ns
        have hnt:=hfew.nt
        have hft:=hfew.ft
        have hnw:=hfew.nw
        have hnx:=hfew.nx
        have hnh:=hfew.nh
        have hnv:=hfew.nv
        have hng:=hfew.ng
        have hnd:=hfew.nd
        have hnp:=hfew.np
        have hnq:=hfew.nq
        have hfq:=hfew.fq
        obtain ⟨nm,ep,be,la,st,tt,rd,vd,hr,hb,hw,tr,tw,th,ld,vo,go,dn,pl,ps⟩:=p
        obtain ⟨ya,ys,yt,yw,yx,yh,yv,yg,yd,yp,yq⟩:=u
        obtain ⟨m0,m1,m2,m3,m4,m5,m6,m7,m8,m9,m10,b0,b1,b2,b3,b4,b5,b6,b7,b8,b9,b10,b11,xa,xs,xt,xw,xx,xh,xv,xg,xd,xp,xq⟩:=ho.ex
        clear ho hfew
        (try (try simp only at *))
        obtain ⟨ada,cpa,rfl⟩:=xa.rd.shape
        obtain ⟨ads,cps,rfl⟩:=xs.rd.shape
        obtain ⟨adt,cpt,rfl⟩:=xt.rd.shape
        obtain ⟨adw,cpw,rfl⟩:=xw.rd.shape
        obtain ⟨adx,cpx,rfl⟩:=xx.rd.shape
        obtain ⟨adh,cph,rfl⟩:=xh.rd.shape
        obtain ⟨adv,cpv,rfl⟩:=xv.rd.shape
        obtain ⟨adg,cpg,rfl⟩:=xg.rd.shape
        obtain ⟨add,cpd,rfl⟩:=xd.rd.shape
        obtain ⟨adp,cpp,rfl⟩:=xp.rd.shape
        obtain ⟨adq,cpq,rfl⟩:=xq.rd.shape
        unfold nxNd at hle
        (try simp only at hle)
        have hli:(j:Int) < (n:Int):=by omega
        change nxG nxPf (nxs (K+1+1+1) la+2 * st.length+totM tt+1+1+1+1+hw.length+1+tw.length+th.length+1+3 * vo.length+3 * go.length+dn.length+5 * pl.length) ps<=40000000 at hle
        have hgea0:=nxG_ge nxPf_ge (nxs (K+1+1+1) la+2 * st.length+totM tt+1+1+1+1+hw.length+1+tw.length+th.length+1+3 * vo.length+3 * go.length+dn.length+5 * pl.length) ps
        have hgea1:=nxs_ge (K+1+1+1) la
        have Xa:=hide xa
        clear xa
        have Xs:=hide xs
        clear xs
        have Xt:=hide xt
        clear xt
        have Xw:=hide xw
        clear xw
        have Xx:=hide xx
        clear xx
        have Xh:=hide xh
        clear xh
        have Xv:=hide xv
        clear xv
        have Xg:=hide xg
        clear xg
        have Xd:=hide xd
        clear xd
        have Xp:=hide xp
        clear xp
        have Xq:=hide xq
        clear xq
        have HA:=hide (fun V=>markText_any (K) V (by omega) (by omega))
        go_wp2_with fail
        refine (HA.out _).mono ?_
        rintro e wt0 ⟨rfl,hbt⟩
        have HRn:=hide (HR.out.below hbt)
        clear HR
        have HR:=HRn
        clear HRn
        have Xa:=hide (Xa.out.kept (Kept.of_below hbt (Nat.le_refl _)))
        have Xs:=hide (Xs.out.kept (Kept.of_below hbt (Nat.le_refl _)))
        have Xt:=hide (Xt.out.kept (Kept.of_below hbt (Nat.le_refl _)))
        have Xw:=hide (Xw.out.kept (Kept.of_below hbt (Nat.le_refl _)))
        have Xx:=hide (Xx.out.kept (Kept.of_below hbt (Nat.le_refl _)))
        have Xh:=hide (Xh.out.kept (Kept.of_below hbt (Nat.le_refl _)))
        have Xv:=hide (Xv.out.kept (Kept.of_below hbt (Nat.le_refl _)))
        have Xg:=hide (Xg.out.kept (Kept.of_below hbt (Nat.le_refl _)))
        have Xd:=hide (Xd.out.kept (Kept.of_below hbt (Nat.le_refl _)))
        have Xp:=hide (Xp.out.kept (Kept.of_below hbt (Nat.le_refl _)))
        have Xq:=hide (Xq.out.kept (Kept.of_below hbt (Nat.le_refl _)))
        clear hbt HA 
        obtain ⟨⟨y0,q0⟩,f0,-⟩:=HR.out.at (j * 20) (by (try simp only [List.length_set]);omega)
        obtain ⟨⟨y1,q1⟩,f1,-⟩:=HR.out.at (j * 20+1) (by (try simp only [List.length_set]);omega)
        obtain ⟨⟨y2,q2⟩,f2,-⟩:=HR.out.at (j * 20+2) (by (try simp only [List.length_set]);omega)
        have q3:World.cell? _ ⟨g,j * 20+3,none⟩=some (.slice ada la.length cpa):=(HR.out.at (j * 20+3) (by (try simp only [List.length_set]);omega)).2.2.trans (by (repeat rw [List.getElem?_set_ne (by omega)]);exact Hat.out 3 (by omega))
        have HRn:=hide (HR.out.set (.inl rfl) (j * 20) (.string (mtx (K))))
        clear HR
        have HR:=HRn
        clear HRn
        have Xa:=hide (Xa.out.kept (Kept.set (g:=g) _ (j * 20) (.string (mtx (K))) (by omega)))
        have Xs:=hide (Xs.out.kept (Kept.set (g:=g) _ (j * 20) (.string (mtx (K))) (by omega)))
        have Xt:=hide (Xt.out.kept (Kept.set (g:=g) _ (j * 20) (.string (mtx (K))) (by omega)))
        have Xw:=hide (Xw.out.kept (Kept.set (g:=g) _ (j * 20) (.string (mtx (K))) (by omega)))
        have Xx:=hide (Xx.out.kept (Kept.set (g:=g) _ (j * 20) (.string (mtx (K))) (by omega)))
        have Xh:=hide (Xh.out.kept (Kept.set (g:=g) _ (j * 20) (.string (mtx (K))) (by omega)))
        have Xv:=hide (Xv.out.kept (Kept.set (g:=g) _ (j * 20) (.string (mtx (K))) (by omega)))
        have Xg:=hide (Xg.out.kept (Kept.set (g:=g) _ (j * 20) (.string (mtx (K))) (by omega)))
        have Xd:=hide (Xd.out.kept (Kept.set (g:=g) _ (j * 20) (.string (mtx (K))) (by omega)))
        have Xp:=hide (Xp.out.kept (Kept.set (g:=g) _ (j * 20) (.string (mtx (K))) (by omega)))
        have Xq:=hide (Xq.out.kept (Kept.set (g:=g) _ (j * 20) (.string (mtx (K))) (by omega)))
        have HRn:=hide (HR.out.set (.inl rfl) (j * 20+1) (.int .i64 ((K:Int)+1)))
        clear HR
        have HR:=HRn
        clear HRn
        have Xa:=hide (Xa.out.kept (Kept.set (g:=g) _ (j * 20+1) (.int .i64 ((K:Int)+1)) (by omega)))
        have Xs:=hide (Xs.out.kept (Kept.set (g:=g) _ (j * 20+1) (.int .i64 ((K:Int)+1)) (by omega)))
        have Xt:=hide (Xt.out.kept (Kept.set (g:=g) _ (j * 20+1) (.int .i64 ((K:Int)+1)) (by omega)))
        have Xw:=hide (Xw.out.kept (Kept.set (g:=g) _ (j * 20+1) (.int .i64 ((K:Int)+1)) (by omega)))
        have Xx:=hide (Xx.out.kept (Kept.set (g:=g) _ (j * 20+1) (.int .i64 ((K:Int)+1)) (by omega)))
        have Xh:=hide (Xh.out.kept (Kept.set (g:=g) _ (j * 20+1) (.int .i64 ((K:Int)+1)) (by omega)))
        have Xv:=hide (Xv.out.kept (Kept.set (g:=g) _ (j * 20+1) (.int .i64 ((K:Int)+1)) (by omega)))
        have Xg:=hide (Xg.out.kept (Kept.set (g:=g) _ (j * 20+1) (.int .i64 ((K:Int)+1)) (by omega)))
        have Xd:=hide (Xd.out.kept (Kept.set (g:=g) _ (j * 20+1) (.int .i64 ((K:Int)+1)) (by omega)))
        have Xp:=hide (Xp.out.kept (Kept.set (g:=g) _ (j * 20+1) (.int .i64 ((K:Int)+1)) (by omega)))
        have Xq:=hide (Xq.out.kept (Kept.set (g:=g) _ (j * 20+1) (.int .i64 ((K:Int)+1)) (by omega)))
        have HRn:=hide (HR.out.set (.inl rfl) (j * 20+2) (.int .i64 ((K:Int)+1+1)))
        clear HR
        have HR:=HRn
        clear HRn
        have Xa:=hide (Xa.out.kept (Kept.set (g:=g) _ (j * 20+2) (.int .i64 ((K:Int)+1+1)) (by omega)))
        have Xs:=hide (Xs.out.kept (Kept.set (g:=g) _ (j * 20+2) (.int .i64 ((K:Int)+1+1)) (by omega)))
        have Xt:=hide (Xt.out.kept (Kept.set (g:=g) _ (j * 20+2) (.int .i64 ((K:Int)+1+1)) (by omega)))
        have Xw:=hide (Xw.out.kept (Kept.set (g:=g) _ (j * 20+2) (.int .i64 ((K:Int)+1+1)) (by omega)))
        have Xx:=hide (Xx.out.kept (Kept.set (g:=g) _ (j * 20+2) (.int .i64 ((K:Int)+1+1)) (by omega)))
        have Xh:=hide (Xh.out.kept (Kept.set (g:=g) _ (j * 20+2) (.int .i64 ((K:Int)+1+1)) (by omega)))
        have Xv:=hide (Xv.out.kept (Kept.set (g:=g) _ (j * 20+2) (.int .i64 ((K:Int)+1+1)) (by omega)))
        have Xg:=hide (Xg.out.kept (Kept.set (g:=g) _ (j * 20+2) (.int .i64 ((K:Int)+1+1)) (by omega)))
        have Xd:=hide (Xd.out.kept (Kept.set (g:=g) _ (j * 20+2) (.int .i64 ((K:Int)+1+1)) (by omega)))
        have Xp:=hide (Xp.out.kept (Kept.set (g:=g) _ (j * 20+2) (.int .i64 ((K:Int)+1+1)) (by omega)))
        have Xq:=hide (Xq.out.kept (Kept.set (g:=g) _ (j * 20+2) (.int .i64 ((K:Int)+1+1)) (by omega)))
        change nxG nxPf (nxs (K+3) la+2 * st.length+totM tt+1+1+1+1+hw.length+1+tw.length+th.length+1+3 * vo.length+3 * go.length+dn.length+5 * pl.length) ps<=40000000 at hle
        have hgeb1_0:=nxG_ge nxPf_ge (nxs (K+3) la+2 * st.length+totM tt+1+1+1+1+hw.length+1+tw.length+th.length+1+3 * vo.length+3 * go.length+dn.length+5 * pl.length) ps
        have hgeb1_1:=nxs_ge (K+3) la
        have HA:=hide (mkuAcct (.slice ada la.length cpa) la (K+3) m0 m1 _ Xa.out hna hfa (by omega) (by omega))
        rw [show ((K+3:Nat):Int)=(K:Int)+1+1+1 from by omega] at HA
        go_wp2_with fail
        refine HA.out.mono ?_
        rintro e w1 ⟨rfl,hx,hoth⟩
        have HRn:=hide (HR.out.by_ hoth (by omega) (fun x hx=>.inr (by omega)))
        clear HR
        have HR:=HRn
        clear HRn
        have Xs:=hide (Xs.out.kept (Kept.of_oth hoth (fun k h1 h2=>by omega)))
        have Xt:=hide (Xt.out.kept (Kept.of_oth hoth (fun k h1 h2=>by omega)))
        have Xw:=hide (Xw.out.kept (Kept.of_oth hoth (fun k h1 h2=>by omega)))
        have Xx:=hide (Xx.out.kept (Kept.of_oth hoth (fun k h1 h2=>by omega)))
        have Xh:=hide (Xh.out.kept (Kept.of_oth hoth (fun k h1 h2=>by omega)))
        have Xv:=hide (Xv.out.kept (Kept.of_oth hoth (fun k h1 h2=>by omega)))
        have Xg:=hide (Xg.out.kept (Kept.of_oth hoth (fun k h1 h2=>by omega)))
        have Xd:=hide (Xd.out.kept (Kept.of_oth hoth (fun k h1 h2=>by omega)))
        have Xp:=hide (Xp.out.kept (Kept.of_oth hoth (fun k h1 h2=>by omega)))
        have Xq:=hide (Xq.out.kept (Kept.of_oth hoth (fun k h1 h2=>by omega)))
        have Xn:=hide hx
        clear Xa
        have Xa:=Xn
        clear Xn
        obtain ⟨K1,hK1⟩:∃ x:Nat,nxs (K+3) la=x:=⟨_,rfl⟩
        have HK1:=hide hK1
        rw [hK1]
        rw [hK1] at hle
        have hle1:nxG nxPf (K1+2 * st.length+totM tt+1+1+1+1+hw.length+1+tw.length+th.length+1+3 * vo.length+3 * go.length+dn.length+5 * pl.length) ps<=40000000:=hle
        have hK01:0 < K1:=by omega
        clear hx hoth HA q0 f0 q1 f1 q2 f2 q3 hK1 hle hK0 hgeb1_0 hgeb1_1
        have q4:World.cell? _ ⟨g,j * 20+4,none⟩=some (.slice ads st.length cps):=(HR.out.at (j * 20+4) (by (try simp only [List.length_set]);omega)).2.2.trans (by (repeat rw [List.getElem?_set_ne (by omega)]);exact Hat.out 4 (by omega))
        change nxG nxPf (K1+2 * st.length+totM tt+1+1+1+1+hw.length+1+tw.length+th.length+1+3 * vo.length+3 * go.length+dn.length+5 * pl.length) ps<=40000000 at hle1
        have hgeb2_0:=nxG_ge nxPf_ge (K1+2 * st.length+totM tt+1+1+1+1+hw.length+1+tw.length+th.length+1+3 * vo.length+3 * go.length+dn.length+5 * pl.length) ps
        have HA:=hide (mkuVal (.slice ads st.length cps) st (K1) m1 m2 _ Xs.out hns (by omega) (by omega))
        go_wp2_with fail
        refine HA.out.mono ?_
        rintro e w2 ⟨rfl,hx,hoth⟩
        have HRn:=hide (HR.out.by_ hoth (by omega) (fun x hx=>.inr (by omega)))
        clear HR
        have HR:=HRn
        clear HRn
        have Xa:=hide (Xa.out.kept (Kept.of_oth hoth (fun k h1 h2=>by omega)))
        have Xt:=hide (Xt.out.kept (Kept.of_oth hoth (fun k h1 h2=>by omega)))
        have Xw:=hide (Xw.out.kept (Kept.of_oth hoth (fun k h1 h2=>by omega)))
        have Xx:=hide (Xx.out.kept (Kept.of_oth hoth (fun k h1 h2=>by omega)))
        have Xh:=hide (Xh.out.kept (Kept.of_oth hoth (fun k h1 h2=>by omega)))
        have Xv:=hide (Xv.out.kept (Kept.of_oth hoth (fun k h1 h2=>by omega)))
        have Xg:=hide (Xg.out.kept (Kept.of_oth hoth (fun k h1 h2=>by omega)))
        have Xd:=hide (Xd.out.kept (Kept.of_oth hoth (fun k h1 h2=>by omega)))
        have Xp:=hide (Xp.out.kept (Kept.of_oth hoth (fun k h1 h2=>by omega)))
        have Xq:=hide (Xq.out.kept (Kept.of_oth hoth (fun k h1 h2=>by omega)))
        have Xn:=hide hx
        clear Xs
        have Xs:=Xn
        clear Xn
        obtain ⟨K2,hK2⟩:∃ x:Nat,K1+2 * st.length=x:=⟨_,rfl⟩
        have HK2:=hide hK2
        rw [hK2]
        rw [hK2] at hle1
        have hle2:nxG nxPf (K2+totM tt+1+1+1+1+hw.length+1+tw.length+th.length+1+3 * vo.length+3 * go.length+dn.length+5 * pl.length) ps<=40000000:=hle1
        have hK02:0 < K2:=by omega
        clear hx hoth HA q4 hK2 hle1 hK01 hgeb2_0
        have q5:World.cell? _ ⟨g,j * 20+5,none⟩=some (.slice adt tt.length cpt):=(HR.out.at (j * 20+5) (by (try simp only [List.length_set]);omega)).2.2.trans (by (repeat rw [List.getElem?_set_ne (by omega)]);exact Hat.out 5 (by omega))
        change nxG nxPf (K2+totM tt+1+1+1+1+hw.length+1+tw.length+th.length+1+3 * vo.length+3 * go.length+dn.length+5 * pl.length) ps<=40000000 at hle2
        have hgeb3_0:=nxG_ge nxPf_ge (K2+totM tt+1+1+1+1+hw.length+1+tw.length+th.length+1+3 * vo.length+3 * go.length+dn.length+5 * pl.length) ps
        have HA:=hide (mkuBlock (.slice adt tt.length cpt) tt (K2) m2 m3 _ Xt.out hnt hft (by omega) (by omega))
        go_wp2_with fail
        refine HA.out.mono ?_
        rintro e w3 ⟨rfl,hx,hoth⟩
        have HRn:=hide (HR.out.by_ hoth (by omega) (fun x hx=>.inr (by omega)))
        clear HR
        have HR:=HRn
        clear HRn
        have Xa:=hide (Xa.out.kept (Kept.of_oth hoth (fun k h1 h2=>by omega)))
        have Xs:=hide (Xs.out.kept (Kept.of_oth hoth (fun k h1 h2=>by omega)))
        have Xw:=hide (Xw.out.kept (Kept.of_oth hoth (fun k h1 h2=>by omega)))
        have Xx:=hide (Xx.out.kept (Kept.of_oth hoth (fun k h1 h2=>by omega)))
        have Xh:=hide (Xh.out.kept (Kept.of_oth hoth (fun k h1 h2=>by omega)))
        have Xv:=hide (Xv.out.kept (Kept.of_oth hoth (fun k h1 h2=>by omega)))
        have Xg:=hide (Xg.out.kept (Kept.of_oth hoth (fun k h1 h2=>by omega)))
        have Xd:=hide (Xd.out.kept (Kept.of_oth hoth (fun k h1 h2=>by omega)))
        have Xp:=hide (Xp.out.kept (Kept.of_oth hoth (fun k h1 h2=>by omega)))
        have Xq:=hide (Xq.out.kept (Kept.of_oth hoth (fun k h1 h2=>by omega)))
        have Xn:=hide hx
        clear Xt
        have Xt:=Xn
        clear Xn
        obtain ⟨K3,hK3⟩:∃ x:Nat,K2+totM tt=x:=⟨_,rfl⟩
        have HK3:=hide hK3
        rw [hK3]
        rw [hK3] at hle2
        have hle3:nxG nxPf (K3+1+1+1+1+hw.length+1+tw.length+th.length+1+3 * vo.length+3 * go.length+dn.length+5 * pl.length) ps<=40000000:=hle2
        have hK03:0 < K3:=by omega
        clear hx hoth HA q5 hK3 hle2 hK02 hgeb3_0
        obtain ⟨⟨y6,q6⟩,f6,-⟩:=HR.out.at (j * 20+6) (by (try simp only [List.length_set]);omega)
        obtain ⟨⟨y7,q7⟩,f7,-⟩:=HR.out.at (j * 20+7) (by (try simp only [List.length_set]);omega)
        obtain ⟨⟨y8,q8⟩,f8,-⟩:=HR.out.at (j * 20+8) (by (try simp only [List.length_set]);omega)
        obtain ⟨⟨y9,q9⟩,f9,-⟩:=HR.out.at (j * 20+9) (by (try simp only [List.length_set]);omega)
        have q10:World.cell? _ ⟨g,j * 20+10,none⟩=some (.slice adw hw.length cpw):=(HR.out.at (j * 20+10) (by (try simp only [List.length_set]);omega)).2.2.trans (by (repeat rw [List.getElem?_set_ne (by omega)]);exact Hat.out 10 (by omega))
        have HRn:=hide (HR.out.set (.inl rfl) (j * 20+6) (.int .i64 (((K3:Nat):Int))))
        clear HR
        have HR:=HRn
        clear HRn
        have Xa:=hide (Xa.out.kept (Kept.set (g:=g) _ (j * 20+6) (.int .i64 (((K3:Nat):Int))) (by omega)))
        have Xs:=hide (Xs.out.kept (Kept.set (g:=g) _ (j * 20+6) (.int .i64 (((K3:Nat):Int))) (by omega)))
        have Xt:=hide (Xt.out.kept (Kept.set (g:=g) _ (j * 20+6) (.int .i64 (((K3:Nat):Int))) (by omega)))
        have Xw:=hide (Xw.out.kept (Kept.set (g:=g) _ (j * 20+6) (.int .i64 (((K3:Nat):Int))) (by omega)))
        have Xx:=hide (Xx.out.kept (Kept.set (g:=g) _ (j * 20+6) (.int .i64 (((K3:Nat):Int))) (by omega)))
        have Xh:=hide (Xh.out.kept (Kept.set (g:=g) _ (j * 20+6) (.int .i64 (((K3:Nat):Int))) (by omega)))
        have Xv:=hide (Xv.out.kept (Kept.set (g:=g) _ (j * 20+6) (.int .i64 (((K3:Nat):Int))) (by omega)))
        have Xg:=hide (Xg.out.kept (Kept.set (g:=g) _ (j * 20+6) (.int .i64 (((K3:Nat):Int))) (by omega)))
        have Xd:=hide (Xd.out.kept (Kept.set (g:=g) _ (j * 20+6) (.int .i64 (((K3:Nat):Int))) (by omega)))
        have Xp:=hide (Xp.out.kept (Kept.set (g:=g) _ (j * 20+6) (.int .i64 (((K3:Nat):Int))) (by omega)))
        have Xq:=hide (Xq.out.kept (Kept.set (g:=g) _ (j * 20+6) (.int .i64 (((K3:Nat):Int))) (by omega)))
        have HRn:=hide (HR.out.set (.inl rfl) (j * 20+7) (.int .i64 ((K3:Int)+1)))
        clear HR
        have HR:=HRn
        clear HRn
        have Xa:=hide (Xa.out.kept (Kept.set (g:=g) _ (j * 20+7) (.int .i64 ((K3:Int)+1)) (by omega)))
        have Xs:=hide (Xs.out.kept (Kept.set (g:=g) _ (j * 20+7) (.int .i64 ((K3:Int)+1)) (by omega)))
        have Xt:=hide (Xt.out.kept (Kept.set (g:=g) _ (j * 20+7) (.int .i64 ((K3:Int)+1)) (by omega)))
        have Xw:=hide (Xw.out.kept (Kept.set (g:=g) _ (j * 20+7) (.int .i64 ((K3:Int)+1)) (by omega)))
        have Xx:=hide (Xx.out.kept (Kept.set (g:=g) _ (j * 20+7) (.int .i64 ((K3:Int)+1)) (by omega)))
        have Xh:=hide (Xh.out.kept (Kept.set (g:=g) _ (j * 20+7) (.int .i64 ((K3:Int)+1)) (by omega)))
        have Xv:=hide (Xv.out.kept (Kept.set (g:=g) _ (j * 20+7) (.int .i64 ((K3:Int)+1)) (by omega)))
        have Xg:=hide (Xg.out.kept (Kept.set (g:=g) _ (j * 20+7) (.int .i64 ((K3:Int)+1)) (by omega)))
        have Xd:=hide (Xd.out.kept (Kept.set (g:=g) _ (j * 20+7) (.int .i64 ((K3:Int)+1)) (by omega)))
        have Xp:=hide (Xp.out.kept (Kept.set (g:=g) _ (j * 20+7) (.int .i64 ((K3:Int)+1)) (by omega)))
        have Xq:=hide (Xq.out.kept (Kept.set (g:=g) _ (j * 20+7) (.int .i64 ((K3:Int)+1)) (by omega)))
        have HRn:=hide (HR.out.set (.inl rfl) (j * 20+8) (.int .i64 ((K3:Int)+1+1)))
        clear HR
        have HR:=HRn
        clear HRn
        have Xa:=hide (Xa.out.kept (Kept.set (g:=g) _ (j * 20+8) (.int .i64 ((K3:Int)+1+1)) (by omega)))
        have Xs:=hide (Xs.out.kept (Kept.set (g:=g) _ (j * 20+8) (.int .i64 ((K3:Int)+1+1)) (by omega)))
        have Xt:=hide (Xt.out.kept (Kept.set (g:=g) _ (j * 20+8) (.int .i64 ((K3:Int)+1+1)) (by omega)))
        have Xw:=hide (Xw.out.kept (Kept.set (g:=g) _ (j * 20+8) (.int .i64 ((K3:Int)+1+1)) (by omega)))
        have Xx:=hide (Xx.out.kept (Kept.set (g:=g) _ (j * 20+8) (.int .i64 ((K3:Int)+1+1)) (by omega)))
        have Xh:=hide (Xh.out.kept (Kept.set (g:=g) _ (j * 20+8) (.int .i64 ((K3:Int)+1+1)) (by omega)))
        have Xv:=hide (Xv.out.kept (Kept.set (g:=g) _ (j * 20+8) (.int .i64 ((K3:Int)+1+1)) (by omega)))
        have Xg:=hide (Xg.out.kept (Kept.set (g:=g) _ (j * 20+8) (.int .i64 ((K3:Int)+1+1)) (by omega)))
        have Xd:=hide (Xd.out.kept (Kept.set (g:=g) _ (j * 20+8) (.int .i64 ((K3:Int)+1+1)) (by omega)))
        have Xp:=hide (Xp.out.kept (Kept.set (g:=g) _ (j * 20+8) (.int .i64 ((K3:Int)+1+1)) (by omega)))
        have Xq:=hide (Xq.out.kept (Kept.set (g:=g) _ (j * 20+8) (.int .i64 ((K3:Int)+1+1)) (by omega)))
        have HRn:=hide (HR.out.set (.inl rfl) (j * 20+9) (.int .i64 ((K3:Int)+1+1+1)))
        clear HR
        have HR:=HRn
        clear HRn
        have Xa:=hide (Xa.out.kept (Kept.set (g:=g) _ (j * 20+9) (.int .i64 ((K3:Int)+1+1+1)) (by omega)))
        have Xs:=hide (Xs.out.kept (Kept.set (g:=g) _ (j * 20+9) (.int .i64 ((K3:Int)+1+1+1)) (by omega)))
        have Xt:=hide (Xt.out.kept (Kept.set (g:=g) _ (j * 20+9) (.int .i64 ((K3:Int)+1+1+1)) (by omega)))
        have Xw:=hide (Xw.out.kept (Kept.set (g:=g) _ (j * 20+9) (.int .i64 ((K3:Int)+1+1+1)) (by omega)))
        have Xx:=hide (Xx.out.kept (Kept.set (g:=g) _ (j * 20+9) (.int .i64 ((K3:Int)+1+1+1)) (by omega)))
        have Xh:=hide (Xh.out.kept (Kept.set (g:=g) _ (j * 20+9) (.int .i64 ((K3:Int)+1+1+1)) (by omega)))
        have Xv:=hide (Xv.out.kept (Kept.set (g:=g) _ (j * 20+9) (.int .i64 ((K3:Int)+1+1+1)) (by omega)))
        have Xg:=hide (Xg.out.kept (Kept.set (g:=g) _ (j * 20+9) (.int .i64 ((K3:Int)+1+1+1)) (by omega)))
        have Xd:=hide (Xd.out.kept (Kept.set (g:=g) _ (j * 20+9) (.int .i64 ((K3:Int)+1+1+1)) (by omega)))
        have Xp:=hide (Xp.out.kept (Kept.set (g:=g) _ (j * 20+9) (.int .i64 ((K3:Int)+1+1+1)) (by omega)))
        have Xq:=hide (Xq.out.kept (Kept.set (g:=g) _ (j * 20+9) (.int .i64 ((K3:Int)+1+1+1)) (by omega)))
        change nxG nxPf (K3+4+hw.length+1+tw.length+th.length+1+3 * vo.length+3 * go.length+dn.length+5 * pl.length) ps<=40000000 at hle3
        have hgeb4_0:=nxG_ge nxPf_ge (K3+4+hw.length+1+tw.length+th.length+1+3 * vo.length+3 * go.length+dn.length+5 * pl.length) ps
        have HA:=hide (mkuStr (.slice adw hw.length cpw) hw (K3+4) m3 m4 _ Xw.out hnw (by omega) (by omega))
        rw [show ((K3+4:Nat):Int)=(K3:Int)+1+1+1+1 from by omega] at HA
        go_wp2_with fail
        refine HA.out.mono ?_
        rintro e w4 ⟨rfl,hx,hoth⟩
        have HRn:=hide (HR.out.by_ hoth (by omega) (fun x hx=>.inr (by omega)))
        clear HR
        have HR:=HRn
        clear HRn
        have Xa:=hide (Xa.out.kept (Kept.of_oth hoth (fun k h1 h2=>by omega)))
        have Xs:=hide (Xs.out.kept (Kept.of_oth hoth (fun k h1 h2=>by omega)))
        have Xt:=hide (Xt.out.kept (Kept.of_oth hoth (fun k h1 h2=>by omega)))
        have Xx:=hide (Xx.out.kept (Kept.of_oth hoth (fun k h1 h2=>by omega)))
        have Xh:=hide (Xh.out.kept (Kept.of_oth hoth (fun k h1 h2=>by omega)))
        have Xv:=hide (Xv.out.kept (Kept.of_oth hoth (fun k h1 h2=>by omega)))
        have Xg:=hide (Xg.out.kept (Kept.of_oth hoth (fun k h1 h2=>by omega)))
        have Xd:=hide (Xd.out.kept (Kept.of_oth hoth (fun k h1 h2=>by omega)))
        have Xp:=hide (Xp.out.kept (Kept.of_oth hoth (fun k h1 h2=>by omega)))
        have Xq:=hide (Xq.out.kept (Kept.of_oth hoth (fun k h1 h2=>by omega)))
        have Xn:=hide hx
        clear Xw
        have Xw:=Xn
        clear Xn
        obtain ⟨K4,hK4⟩:∃ x:Nat,K3+4+hw.length=x:=⟨_,rfl⟩
        have HK4:=hide hK4
        rw [hK4]
        rw [hK4] at hle3
        have hle4:nxG nxPf (K4+1+tw.length+th.length+1+3 * vo.length+3 * go.length+dn.length+5 * pl.length) ps<=40000000:=hle3
        have hK04:0 < K4:=by omega
        clear hx hoth HA q6 f6 q7 f7 q8 f8 q9 f9 q10 hK4 hle3 hK03 hgeb4_0
        obtain ⟨⟨y11,q11⟩,f11,-⟩:=HR.out.at (j * 20+11) (by (try simp only [List.length_set]);omega)
        have q12:World.cell? _ ⟨g,j * 20+12,none⟩=some (.slice adx tw.length cpx):=(HR.out.at (j * 20+12) (by (try simp only [List.length_set]);omega)).2.2.trans (by (repeat rw [List.getElem?_set_ne (by omega)]);exact Hat.out 12 (by omega))
        have HRn:=hide (HR.out.set (.inl rfl) (j * 20+11) (.int .i64 (((K4:Nat):Int))))
        clear HR
        have HR:=HRn
        clear HRn
        have Xa:=hide (Xa.out.kept (Kept.set (g:=g) _ (j * 20+11) (.int .i64 (((K4:Nat):Int))) (by omega)))
        have Xs:=hide (Xs.out.kept (Kept.set (g:=g) _ (j * 20+11) (.int .i64 (((K4:Nat):Int))) (by omega)))
        have Xt:=hide (Xt.out.kept (Kept.set (g:=g) _ (j * 20+11) (.int .i64 (((K4:Nat):Int))) (by omega)))
        have Xw:=hide (Xw.out.kept (Kept.set (g:=g) _ (j * 20+11) (.int .i64 (((K4:Nat):Int))) (by omega)))
        have Xx:=hide (Xx.out.kept (Kept.set (g:=g) _ (j * 20+11) (.int .i64 (((K4:Nat):Int))) (by omega)))
        have Xh:=hide (Xh.out.kept (Kept.set (g:=g) _ (j * 20+11) (.int .i64 (((K4:Nat):Int))) (by omega)))
        have Xv:=hide (Xv.out.kept (Kept.set (g:=g) _ (j * 20+11) (.int .i64 (((K4:Nat):Int))) (by omega)))
        have Xg:=hide (Xg.out.kept (Kept.set (g:=g) _ (j * 20+11) (.int .i64 (((K4:Nat):Int))) (by omega)))
        have Xd:=hide (Xd.out.kept (Kept.set (g:=g) _ (j * 20+11) (.int .i64 (((K4:Nat):Int))) (by omega)))
        have Xp:=hide (Xp.out.kept (Kept.set (g:=g) _ (j * 20+11) (.int .i64 (((K4:Nat):Int))) (by omega)))
        have Xq:=hide (Xq.out.kept (Kept.set (g:=g) _ (j * 20+11) (.int .i64 (((K4:Nat):Int))) (by omega)))
        change nxG nxPf (K4+1+tw.length+th.length+1+3 * vo.length+3 * go.length+dn.length+5 * pl.length) ps<=40000000 at hle4
        have hgeb5_0:=nxG_ge nxPf_ge (K4+1+tw.length+th.length+1+3 * vo.length+3 * go.length+dn.length+5 * pl.length) ps
        have HA:=hide (mkuStrI (.slice adx tw.length cpx) (.slice adh th.length cph) tw th (K4+1) m4 m5 _ Xx.out Xh.out hnx (by omega) (by omega))
        rw [show ((K4+1:Nat):Int)=(K4:Int)+1 from by omega] at HA
        go_wp2_with fail
        refine HA.out.mono ?_
        rintro e w5 ⟨rfl,hx,hoth⟩
        have HRn:=hide (HR.out.by_ hoth (by omega) (fun x hx=>.inr (by omega)))
        clear HR
        have HR:=HRn
        clear HRn
        have Xa:=hide (Xa.out.kept (Kept.of_oth hoth (fun k h1 h2=>by omega)))
        have Xs:=hide (Xs.out.kept (Kept.of_oth hoth (fun k h1 h2=>by omega)))
        have Xt:=hide (Xt.out.kept (Kept.of_oth hoth (fun k h1 h2=>by omega)))
        have Xw:=hide (Xw.out.kept (Kept.of_oth hoth (fun k h1 h2=>by omega)))
        have Xv:=hide (Xv.out.kept (Kept.of_oth hoth (fun k h1 h2=>by omega)))
        have Xg:=hide (Xg.out.kept (Kept.of_oth hoth (fun k h1 h2=>by omega)))
        have Xd:=hide (Xd.out.kept (Kept.of_oth hoth (fun k h1 h2=>by omega)))
        have Xp:=hide (Xp.out.kept (Kept.of_oth hoth (fun k h1 h2=>by omega)))
        have Xq:=hide (Xq.out.kept (Kept.of_oth hoth (fun k h1 h2=>by omega)))
        have Xn:=hide hx.1
        have Xo:=hide hx.2
        clear Xx Xh
        have Xx:=Xn
        have Xh:=Xo
        clear Xn Xo
        obtain ⟨K5,hK5⟩:∃ x:Nat,K4+1+tw.length=x:=⟨_,rfl⟩
        have HK5:=hide hK5
        rw [hK5]
        rw [hK5] at hle4
        have hle5:nxG nxPf (K5+th.length+1+3 * vo.length+3 * go.length+dn.length+5 * pl.length) ps<=40000000:=hle4
        have hK05:0 < K5:=by omega
        clear hx hoth HA q11 f11 q12 hK5 hle4 hK04 hgeb5_0
        have q13:World.cell? _ ⟨g,j * 20+13,none⟩=some (.slice adh th.length cph):=(HR.out.at (j * 20+13) (by (try simp only [List.length_set]);omega)).2.2.trans (by (repeat rw [List.getElem?_set_ne (by omega)]);exact Hat.out 13 (by omega))
        change nxG nxPf (K5+th.length+1+3 * vo.length+3 * go.length+dn.length+5 * pl.length) ps<=40000000 at hle5
        have hgeb6_0:=nxG_ge nxPf_ge (K5+th.length+1+3 * vo.length+3 * go.length+dn.length+5 * pl.length) ps
        have HA:=hide (mkuIntS (.slice adx tw.length cpx) (.slice adh th.length cph) (mkS (K4+1) tw.length) th (K5) m4 m5 _ Xx.out Xh.out hnh (by omega) (by omega))
        go_wp2_with fail
        refine HA.out.mono ?_
        rintro e w6 ⟨rfl,hx,hoth⟩
        have HRn:=hide (HR.out.by_ hoth (by omega) (fun x hx=>.inr (by omega)))
        clear HR
        have HR:=HRn
        clear HRn
        have Xa:=hide (Xa.out.kept (Kept.of_oth hoth (fun k h1 h2=>by omega)))
        have Xs:=hide (Xs.out.kept (Kept.of_oth hoth (fun k h1 h2=>by omega)))
        have Xt:=hide (Xt.out.kept (Kept.of_oth hoth (fun k h1 h2=>by omega)))
        have Xw:=hide (Xw.out.kept (Kept.of_oth hoth (fun k h1 h2=>by omega)))
        have Xv:=hide (Xv.out.kept (Kept.of_oth hoth (fun k h1 h2=>by omega)))
        have Xg:=hide (Xg.out.kept (Kept.of_oth hoth (fun k h1 h2=>by omega)))
        have Xd:=hide (Xd.out.kept (Kept.of_oth hoth (fun k h1 h2=>by omega)))
        have Xp:=hide (Xp.out.kept (Kept.of_oth hoth (fun k h1 h2=>by omega)))
        have Xq:=hide (Xq.out.kept (Kept.of_oth hoth (fun k h1 h2=>by omega)))
        have Xn:=hide hx.1
        have Xo:=hide hx.2
        clear Xx Xh
        have Xx:=Xn
        have Xh:=Xo
        clear Xn Xo
        obtain ⟨K6,hK6⟩:∃ x:Nat,K5+th.length=x:=⟨_,rfl⟩
        have HK6:=hide hK6
        rw [hK6]
        rw [hK6] at hle5
        have hle6:nxG nxPf (K6+1+3 * vo.length+3 * go.length+dn.length+5 * pl.length) ps<=40000000:=hle5
        have hK06:0 < K6:=by omega
        clear hx hoth HA q13 hK6 hle5 hK05 hgeb6_0
        obtain ⟨⟨y14,q14⟩,f14,-⟩:=HR.out.at (j * 20+14) (by (try simp only [List.length_set]);omega)
        have q15:World.cell? _ ⟨g,j * 20+15,none⟩=some (.slice adv vo.length cpv):=(HR.out.at (j * 20+15) (by (try simp only [List.length_set]);omega)).2.2.trans (by (repeat rw [List.getElem?_set_ne (by omega)]);exact Hat.out 15 (by omega))
        have HRn:=hide (HR.out.set (.inl rfl) (j * 20+14) (.int .i64 (((K6:Nat):Int))))
        clear HR
        have HR:=HRn
        clear HRn
        have Xa:=hide (Xa.out.kept (Kept.set (g:=g) _ (j * 20+14) (.int .i64 (((K6:Nat):Int))) (by omega)))
        have Xs:=hide (Xs.out.kept (Kept.set (g:=g) _ (j * 20+14) (.int .i64 (((K6:Nat):Int))) (by omega)))
        have Xt:=hide (Xt.out.kept (Kept.set (g:=g) _ (j * 20+14) (.int .i64 (((K6:Nat):Int))) (by omega)))
        have Xw:=hide (Xw.out.kept (Kept.set (g:=g) _ (j * 20+14) (.int .i64 (((K6:Nat):Int))) (by omega)))
        have Xx:=hide (Xx.out.kept (Kept.set (g:=g) _ (j * 20+14) (.int .i64 (((K6:Nat):Int))) (by omega)))
        have Xh:=hide (Xh.out.kept (Kept.set (g:=g) _ (j * 20+14) (.int .i64 (((K6:Nat):Int))) (by omega)))
        have Xv:=hide (Xv.out.kept (Kept.set (g:=g) _ (j * 20+14) (.int .i64 (((K6:Nat):Int))) (by omega)))
        have Xg:=hide (Xg.out.kept (Kept.set (g:=g) _ (j * 20+14) (.int .i64 (((K6:Nat):Int))) (by omega)))
        have Xd:=hide (Xd.out.kept (Kept.set (g:=g) _ (j * 20+14) (.int .i64 (((K6:Nat):Int))) (by omega)))
        have Xp:=hide (Xp.out.kept (Kept.set (g:=g) _ (j * 20+14) (.int .i64 (((K6:Nat):Int))) (by omega)))
        have Xq:=hide (Xq.out.kept (Kept.set (g:=g) _ (j * 20+14) (.int .i64 (((K6:Nat):Int))) (by omega)))
        change nxG nxPf (K6+1+3 * vo.length+3 * go.length+dn.length+5 * pl.length) ps<=40000000 at hle6
        have hgeb7_0:=nxG_ge nxPf_ge (K6+1+3 * vo.length+3 * go.length+dn.length+5 * pl.length) ps
        have HA:=hide (mkuVote (.slice adv vo.length cpv) vo (K6+1) m5 m6 _ Xv.out hnv (by omega) (by omega))
        rw [show ((K6+1:Nat):Int)=(K6:Int)+1 from by omega] at HA
        go_wp2_with fail
        refine HA.out.mono ?_
        rintro e w7 ⟨rfl,hx,hoth⟩
        have HRn:=hide (HR.out.by_ hoth (by omega) (fun x hx=>.inr (by omega)))
        clear HR
        have HR:=HRn
        clear HRn
        have Xa:=hide (Xa.out.kept (Kept.of_oth hoth (fun k h1 h2=>by omega)))
        have Xs:=hide (Xs.out.kept (Kept.of_oth hoth (fun k h1 h2=>by omega)))
        have Xt:=hide (Xt.out.kept (Kept.of_oth hoth (fun k h1 h2=>by omega)))
        have Xw:=hide (Xw.out.kept (Kept.of_oth hoth (fun k h1 h2=>by omega)))
        have Xx:=hide (Xx.out.kept (Kept.of_oth hoth (fun k h1 h2=>by omega)))
        have Xh:=hide (Xh.out.kept (Kept.of_oth hoth (fun k h1 h2=>by omega)))
        have Xg:=hide (Xg.out.kept (Kept.of_oth hoth (fun k h1 h2=>by omega)))
        have Xd:=hide (Xd.out.kept (Kept.of_oth hoth (fun k h1 h2=>by omega)))
        have Xp:=hide (Xp.out.kept (Kept.of_oth hoth (fun k h1 h2=>by omega)))
        have Xq:=hide (Xq.out.kept (Kept.of_oth hoth (fun k h1 h2=>by omega)))
        have Xn:=hide hx
        clear Xv
        have Xv:=Xn
        clear Xn
        obtain ⟨K7,hK7⟩:∃ x:Nat,K6+1+3 * vo.length=x:=⟨_,rfl⟩
        have HK7:=hide hK7
        rw [hK7]
        rw [hK7] at hle6
        have hle7:nxG nxPf (K7+3 * go.length+dn.length+5 * pl.length) ps<=40000000:=hle6
        have hK07:0 < K7:=by omega
        clear hx hoth HA q14 f14 q15 hK7 hle6 hK06 hgeb7_0
        have q16:World.cell? _ ⟨g,j * 20+16,none⟩=some (.slice adg go.length cpg):=(HR.out.at (j * 20+16) (by (try simp only [List.length_set]);omega)).2.2.trans (by (repeat rw [List.getElem?_set_ne (by omega)]);exact Hat.out 16 (by omega))
        change nxG nxPf (K7+3 * go.length+dn.length+5 * pl.length) ps<=40000000 at hle7
        have hgeb8_0:=nxG_ge nxPf_ge (K7+3 * go.length+dn.length+5 * pl.length) ps
        have HA:=hide (mkuGone (.slice adg go.length cpg) go (K7) m6 m7 _ Xg.out hng (by omega) (by omega))
        go_wp2_with fail
        refine HA.out.mono ?_
        rintro e w8 ⟨rfl,hx,hoth⟩
        have HRn:=hide (HR.out.by_ hoth (by omega) (fun x hx=>.inr (by omega)))
        clear HR
        have HR:=HRn
        clear HRn
        have Xa:=hide (Xa.out.kept (Kept.of_oth hoth (fun k h1 h2=>by omega)))
        have Xs:=hide (Xs.out.kept (Kept.of_oth hoth (fun k h1 h2=>by omega)))
        have Xt:=hide (Xt.out.kept (Kept.of_oth hoth (fun k h1 h2=>by omega)))
        have Xw:=hide (Xw.out.kept (Kept.of_oth hoth (fun k h1 h2=>by omega)))
        have Xx:=hide (Xx.out.kept (Kept.of_oth hoth (fun k h1 h2=>by omega)))
        have Xh:=hide (Xh.out.kept (Kept.of_oth hoth (fun k h1 h2=>by omega)))
        have Xv:=hide (Xv.out.kept (Kept.of_oth hoth (fun k h1 h2=>by omega)))
        have Xd:=hide (Xd.out.kept (Kept.of_oth hoth (fun k h1 h2=>by omega)))
        have Xp:=hide (Xp.out.kept (Kept.of_oth hoth (fun k h1 h2=>by omega)))
        have Xq:=hide (Xq.out.kept (Kept.of_oth hoth (fun k h1 h2=>by omega)))
        have Xn:=hide hx
        clear Xg
        have Xg:=Xn
        clear Xn
        obtain ⟨K8,hK8⟩:∃ x:Nat,K7+3 * go.length=x:=⟨_,rfl⟩
        have HK8:=hide hK8
        rw [hK8]
        rw [hK8] at hle7
        have hle8:nxG nxPf (K8+dn.length+5 * pl.length) ps<=40000000:=hle7
        have hK08:0 < K8:=by omega
        clear hx hoth HA q16 hK8 hle7 hK07 hgeb8_0
        have q17:World.cell? _ ⟨g,j * 20+17,none⟩=some (.slice add dn.length cpd):=(HR.out.at (j * 20+17) (by (try simp only [List.length_set]);omega)).2.2.trans (by (repeat rw [List.getElem?_set_ne (by omega)]);exact Hat.out 17 (by omega))
        change nxG nxPf (K8+dn.length+5 * pl.length) ps<=40000000 at hle8
        have hgeb9_0:=nxG_ge nxPf_ge (K8+dn.length+5 * pl.length) ps
        have HA:=hide (mkuInt (.slice add dn.length cpd) dn (K8) m7 m8 _ Xd.out hnd (by omega) (by omega))
        go_wp2_with fail
        refine HA.out.mono ?_
        rintro e w9 ⟨rfl,hx,hoth⟩
        have HRn:=hide (HR.out.by_ hoth (by omega) (fun x hx=>.inr (by omega)))
        clear HR
        have HR:=HRn
        clear HRn
        have Xa:=hide (Xa.out.kept (Kept.of_oth hoth (fun k h1 h2=>by omega)))
        have Xs:=hide (Xs.out.kept (Kept.of_oth hoth (fun k h1 h2=>by omega)))
        have Xt:=hide (Xt.out.kept (Kept.of_oth hoth (fun k h1 h2=>by omega)))
        have Xw:=hide (Xw.out.kept (Kept.of_oth hoth (fun k h1 h2=>by omega)))
        have Xx:=hide (Xx.out.kept (Kept.of_oth hoth (fun k h1 h2=>by omega)))
        have Xh:=hide (Xh.out.kept (Kept.of_oth hoth (fun k h1 h2=>by omega)))
        have Xv:=hide (Xv.out.kept (Kept.of_oth hoth (fun k h1 h2=>by omega)))
        have Xg:=hide (Xg.out.kept (Kept.of_oth hoth (fun k h1 h2=>by omega)))
        have Xp:=hide (Xp.out.kept (Kept.of_oth hoth (fun k h1 h2=>by omega)))
        have Xq:=hide (Xq.out.kept (Kept.of_oth hoth (fun k h1 h2=>by omega)))
        have Xn:=hide hx
        clear Xd
        have Xd:=Xn
        clear Xn
        obtain ⟨K9,hK9⟩:∃ x:Nat,K8+dn.length=x:=⟨_,rfl⟩
        have HK9:=hide hK9
        rw [hK9]
        rw [hK9] at hle8
        have hle9:nxG nxPf (K9+5 * pl.length) ps<=40000000:=hle8
        have hK09:0 < K9:=by omega
        clear hx hoth HA q17 hK9 hle8 hK08 hgeb9_0
        have q18:World.cell? _ ⟨g,j * 20+18,none⟩=some (.slice adp pl.length cpp):=(HR.out.at (j * 20+18) (by (try simp only [List.length_set]);omega)).2.2.trans (by (repeat rw [List.getElem?_set_ne (by omega)]);exact Hat.out 18 (by omega))
        change nxG nxPf (K9+5 * pl.length) ps<=40000000 at hle9
        have hgeb10_0:=nxG_ge nxPf_ge (K9+5 * pl.length) ps
        have HA:=hide (mkuTx (.slice adp pl.length cpp) pl (K9) m8 m9 _ Xp.out hnp (by omega) (by omega))
        go_wp2_with fail
        refine HA.out.mono ?_
        rintro e w10 ⟨rfl,hx,hoth⟩
        have HRn:=hide (HR.out.by_ hoth (by omega) (fun x hx=>.inr (by omega)))
        clear HR
        have HR:=HRn
        clear HRn
        have Xa:=hide (Xa.out.kept (Kept.of_oth hoth (fun k h1 h2=>by omega)))
        have Xs:=hide (Xs.out.kept (Kept.of_oth hoth (fun k h1 h2=>by omega)))
        have Xt:=hide (Xt.out.kept (Kept.of_oth hoth (fun k h1 h2=>by omega)))
        have Xw:=hide (Xw.out.kept (Kept.of_oth hoth (fun k h1 h2=>by omega)))
        have Xx:=hide (Xx.out.kept (Kept.of_oth hoth (fun k h1 h2=>by omega)))
        have Xh:=hide (Xh.out.kept (Kept.of_oth hoth (fun k h1 h2=>by omega)))
        have Xv:=hide (Xv.out.kept (Kept.of_oth hoth (fun k h1 h2=>by omega)))
        have Xg:=hide (Xg.out.kept (Kept.of_oth hoth (fun k h1 h2=>by omega)))
        have Xd:=hide (Xd.out.kept (Kept.of_oth hoth (fun k h1 h2=>by omega)))
        have Xq:=hide (Xq.out.kept (Kept.of_oth hoth (fun k h1 h2=>by omega)))
        have Xn:=hide hx
        clear Xp
        have Xp:=Xn
        clear Xn
        obtain ⟨K10,hK10⟩:∃ x:Nat,K9+5 * pl.length=x:=⟨_,rfl⟩
        have HK10:=hide hK10
        rw [hK10]
        rw [hK10] at hle9
        have hle10:nxG nxPf (K10) ps<=40000000:=hle9
        have hK010:0 < K10:=by omega
        clear hx hoth HA q18 hK10 hle9 hK09 hgeb10_0
        have q19:World.cell? _ ⟨g,j * 20+19,none⟩=some (.slice adq ps.length cpq):=(HR.out.at (j * 20+19) (by (try simp only [List.length_set]);omega)).2.2.trans (by (repeat rw [List.getElem?_set_ne (by omega)]);exact Hat.out 19 (by omega))
        change nxG nxPf (K10) ps<=40000000 at hle10
        have hgeb11_0:=nxG_ge nxPf_ge (K10) ps
        have HA:=hide (mkuProof (.slice adq ps.length cpq) ps (K10) m9 m10 _ Xq.out hnq hfq (by omega) (by omega))
        go_wp2_with fail
        refine HA.out.mono ?_
        rintro e w11 ⟨rfl,hx,hoth⟩
        have HRn:=hide (HR.out.by_ hoth (by omega) (fun x hx=>.inr (by omega)))
        clear HR
        have HR:=HRn
        clear HRn
        have Xa:=hide (Xa.out.kept (Kept.of_oth hoth (fun k h1 h2=>by omega)))
        have Xs:=hide (Xs.out.kept (Kept.of_oth hoth (fun k h1 h2=>by omega)))
        have Xt:=hide (Xt.out.kept (Kept.of_oth hoth (fun k h1 h2=>by omega)))
        have Xw:=hide (Xw.out.kept (Kept.of_oth hoth (fun k h1 h2=>by omega)))
        have Xx:=hide (Xx.out.kept (Kept.of_oth hoth (fun k h1 h2=>by omega)))
        have Xh:=hide (Xh.out.kept (Kept.of_oth hoth (fun k h1 h2=>by omega)))
        have Xv:=hide (Xv.out.kept (Kept.of_oth hoth (fun k h1 h2=>by omega)))
        have Xg:=hide (Xg.out.kept (Kept.of_oth hoth (fun k h1 h2=>by omega)))
        have Xd:=hide (Xd.out.kept (Kept.of_oth hoth (fun k h1 h2=>by omega)))
        have Xp:=hide (Xp.out.kept (Kept.of_oth hoth (fun k h1 h2=>by omega)))
        have Xn:=hide hx
        clear Xq
        have Xq:=Xn
        clear Xn
        obtain ⟨K11,hK11⟩:∃ x:Nat,nxG nxPf (K10) ps=x:=⟨_,rfl⟩
        have HK11:=hide hK11
        rw [hK11]
        rw [hK11] at hle10
        have hle11:K11<=40000000:=hle10
        have hK011:0 < K11:=by omega
        clear hx hoth HA q19 hK11 hle10 hK010 hgeb11_0
        have e1:mkNd K ⟨nm,ep,be,la,st,tt,rd,vd,hr,hb,hw,tr,tw,th,ld,vo,go,dn,pl,ps⟩=⟨mtx (K),((K:Int)+1),((K:Int)+1+1),mkAs (K+3) la,mkV (K1) st.length,mkLk (K2) tt,(((K3:Nat):Int)),((K3:Int)+1),((K3:Int)+1+1),((K3:Int)+1+1+1),mkS (K3+4) hw.length,(((K4:Nat):Int)),mkS (K4+1) tw.length,mkI (K5) th.length,(((K6:Nat):Int)),mkR (K6+1) vo.length,mkR (K7) go.length,mkI (K8) dn.length,mkT (K9) pl.length,mkG mkPf nxPf (K10) ps⟩:=by
          unfold mkNd
          (try simp only [HK1.out,HK2.out,HK3.out,HK4.out,HK5.out,HK6.out,HK7.out,HK8.out,HK9.out,HK10.out])
          rw [Nd.mk.injEq]
          exact ⟨congrArg mtx (by omega),by omega,by omega,rfl,rfl,rfl,by omega,by omega,by omega,by omega,rfl,by omega,rfl,rfl,by omega,rfl,rfl,rfl,rfl,rfl⟩
        have e2:nxNd K ⟨nm,ep,be,la,st,tt,rd,vd,hr,hb,hw,tr,tw,th,ld,vo,go,dn,pl,ps⟩=K11:=by
          unfold nxNd
          (try simp only [HK1.out,HK2.out,HK3.out,HK4.out,HK5.out,HK6.out,HK7.out,HK8.out,HK9.out,HK10.out,HK11.out])
        have e3:=HEnd.out _ rfl
        have HF:=hide (HC.out _ _ HR.out.row HR.out.oth (by
          rw [e1]
          exact ⟨m0,m1,m2,m3,m4,m5,m6,m7,m8,m9,m10,b0,b1,b2,b3,b4,b5,b6,b7,b8,b9,b10,b11,Xa.out,Xs.out,Xt.out,Xw.out,Xx.out,Xh.out,Xv.out,Xg.out,Xd.out,Xp.out,Xq.out⟩))
        rw [e1] at e3
        have HFO:=hide (Hot.out.trans (HR.out.oth.mono HSo.out))
        have e4:=setNd Y (j * 20) (.string (mtx (K))) (.int .i64 ((K:Int)+1)) (.int .i64 ((K:Int)+1+1)) (.slice ada la.length cpa) (.slice ads st.length cps) (.slice adt tt.length cpt) (.int .i64 (((K3:Nat):Int))) (.int .i64 ((K3:Int)+1)) (.int .i64 ((K3:Int)+1+1)) (.int .i64 ((K3:Int)+1+1+1)) (.slice adw hw.length cpw) (.int .i64 (((K4:Nat):Int))) (.slice adx tw.length cpx) (.slice adh th.length cph) (.int .i64 (((K6:Nat):Int))) (.slice adv vo.length cpv) (.slice adg go.length cpg) (.slice add dn.length cpd) (.slice adp pl.length cpp) (.slice adq ps.length cpq) (Hat.out 3 (by omega)) (Hat.out 4 (by omega)) (Hat.out 5 (by omega)) (Hat.out 10 (by omega)) (Hat.out 12 (by omega)) (Hat.out 13 (by omega)) (Hat.out 15 (by omega)) (Hat.out 16 (by omega)) (Hat.out 17 (by omega)) (Hat.out 18 (by omega)) (Hat.out 19 (by omega))
        rw [e4] at HF
        have HF2:=hide (show MidR 65 20 (fun a b w (q:Nd × Nv)=>OwnNd a b w q.1 q.2) lo hi _ g n cap ((mixG ndQ ndN k Z (j+1)).map (fun q:Nd × Nv=>noC q.1 q.2)).flatten (mixG ndQ ndN k Z (j+1)) from by rw [<- e3];exact HF.out)
        have Hn2:=hide (Hnx.out.trans e2)
        clear e1 e2 e3 e4 HF HR HEnd HC Hat Hnx Hot HSo Xa Xs Xt Xw Xx Xh Xv Xg Xd Xp Xq
        go_wp2
        go_roundw
        case rel=>exact ⟨j+1,by omega,by go_num,(by rw [Hn2.out];try go_num),HF2.out,HFO.out⟩
        case measure=>simp [intOf];omega
      · have ej:j=Z.length:=by have:=Hn.out;omega
        have hot':=hide hot
        have HF2:Hid (OwnNx lo hi wr (.slice (some ⟨g,0,none⟩) n cap) (mkG mkNd nxNd k (Z.map (·.1)))):=hide (by
          have hl2:n=(mixG ndQ ndN k Z j).length:=by rw [mixG_len _ _ _ _ _ (by omega)];exact Hn.out.symm
          refine ⟨mixG ndQ ndN k Z j,?_,?_⟩
          · rw [ej,mixG_all,HEq.out]
          · have:=hm.to hl2
            rw [<- hl2] at this
            exact this)
        have HT:Hid (nxG ndN k (Z.take j)=nxG ndN k Z):=hide (by rw [ej,List.take_length])
        clear hm hot ej
        generalize nxG ndN k (Z.take j)=K at HT
        go_wp2
        go_ret
        exact ⟨ret_int (by rw [HT.out]),HF2.out,hot'.out⟩
end Go.Proofs.YthidkbhiikdokaaGreat
namespace Go.Proofs.YthidkbhiikdokaaGreat
open Go.RowKit
set_option linter.unusedVariables false
structure Mg where
  kd:Int
  tn:ByteArray
  ep:Int
  bs:List Bk
  vr:Int
  vb:Int
  vw:ByteArray
  gr:Int
  gh:Int
  gw:ByteArray
  qr:Int
  qb:Int
  qw:List ByteArray
  tr:Int
  tw:List ByteArray
  th:List Int
structure Mv where
  b:Value
  q:Value
  w:Value
  h:Value
def mgC (m:Mg) (v:Mv):List Value:=[.int .i64 m.kd,.string m.tn,.int .i64 m.ep,v.b,.int .i64 m.vr,.int .i64 m.vb,.string m.vw,.int .i64 m.gr,.int .i64 m.gh,.string m.gw,.int .i64 m.qr,.int .i64 m.qb,v.q,.int .i64 m.tr,v.w,v.h]
def mgV (m:Mg) (v:Mv):Value:=.agg #[.int .i64 m.kd,.string m.tn,.int .i64 m.ep,v.b,.int .i64 m.vr,.int .i64 m.vb,.string m.vw,.int .i64 m.gr,.int .i64 m.gh,.string m.gw,.int .i64 m.qr,.int .i64 m.qb,v.q,.int .i64 m.tr,v.w,v.h]
structure RdM (w:World) (m:Mg) (v:Mv):Prop where
  b:RdKs w v.b m.bs
  q:RdS w v.q m.qw
  p:RdS w v.w m.tw
  h:RdI w v.h m.th
end Go.Proofs.YthidkbhiikdokaaGreat
