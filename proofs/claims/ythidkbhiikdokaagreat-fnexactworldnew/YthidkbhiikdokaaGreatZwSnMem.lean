/- A signature. -/
import Derived.Test.YthidkbhiikdokaaGreatZwMgTo
set_option maxRecDepth 20000
set_option maxHeartbeats 8000000
namespace Go.Proofs.YthidkbhiikdokaaGreat
open Go.RowKit Go.Sort
set_option linter.unusedVariables false
def nxMg (K:Nat) (p:Mg):Nat:=K+1+1+1+totM p.bs+1+1+1+1+1+1+1+1+p.qw.length+1+p.tw.length+p.th.length
def mkMg (K:Nat) (p:Mg):Mg:=⟨((K:Nat):Int),mtx (K+1),((K+1+1:Nat):Int),mkLk (K+1+1+1) p.bs,((K+1+1+1+totM p.bs:Nat):Int),((K+1+1+1+totM p.bs+1:Nat):Int),mtx (K+1+1+1+totM p.bs+1+1),((K+1+1+1+totM p.bs+1+1+1:Nat):Int),((K+1+1+1+totM p.bs+1+1+1+1:Nat):Int),mtx (K+1+1+1+totM p.bs+1+1+1+1+1),((K+1+1+1+totM p.bs+1+1+1+1+1+1:Nat):Int),((K+1+1+1+totM p.bs+1+1+1+1+1+1+1:Nat):Int),mkS (K+1+1+1+totM p.bs+1+1+1+1+1+1+1+1) p.qw.length,((K+1+1+1+totM p.bs+1+1+1+1+1+1+1+1+p.qw.length:Nat):Int),mkS (K+1+1+1+totM p.bs+1+1+1+1+1+1+1+1+p.qw.length+1) p.tw.length,mkI (K+1+1+1+totM p.bs+1+1+1+1+1+1+1+1+p.qw.length+1+p.tw.length) p.th.length⟩
theorem nxMg_ge (K:Nat) (p:Mg):K<=nxMg K p:=by
  unfold nxMg
  omega
def mgQ (K:Nat) (q:Mg × Mv):Mg × Mv:=(mkMg K q.1,q.2)
def mgN (K:Nat) (q:Mg × Mv):Nat:=nxMg K q.1
theorem mgN_ge (K:Nat) (q:Mg × Mv):K<=mgN K q:=nxMg_ge K q.1
theorem mgG_fst (k:Nat) (Z:List (Mg × Mv)):(mkG mgQ mgN k Z).map (·.1)=mkG mkMg nxMg k (Z.map (·.1)):=mkG_map (fun q:Mg × Mv=>q.1) mgQ mkMg nxMg (fun _ _=>rfl) k Z
theorem mgG_nx (k:Nat) (Z:List (Mg × Mv)):nxG mgN k Z=nxG nxMg k (Z.map (·.1)):=(nxG_map (fun q:Mg × Mv=>q.1) nxMg k Z).symm
theorem mapMg_sz (X:List (Mg × Mv)):∀ x ∈ X.map (fun q:Mg × Mv=>mgC q.1 q.2),x.length=16:=mapC_sz mgC_sz X
theorem setMg {α:Type} (X:List α) (o:Nat) (y0 y1 y2 y3 y4 y5 y6 y7 y8 y9 y10 y11 y12 y13 y14 y15:α) (h3:X[o+3]?=some y3) (h12:X[o+12]?=some y12) (h14:X[o+14]?=some y14) (h15:X[o+15]?=some y15) :
    ((((((((((((X.set (o) y0).set (o+1) y1).set (o+2) y2).set (o+4) y4).set (o+5) y5).set (o+6) y6).set (o+7) y7).set (o+8) y8).set (o+9) y9).set (o+10) y10).set (o+11) y11).set (o+13) y13)=setAll X o [y0,y1,y2,y3,y4,y5,y6,y7,y8,y9,y10,y11,y12,y13,y14,y15]:=by
  simp only [setAll]
  apply List.ext_getElem?
  intro i
  simp only [List.getElem?_set,Nat.add_assoc,List.length_set]
  by_cases e3:o+3=i
  · subst e3;simp [h3];have:=(List.getElem?_eq_some_iff.1 h3).1;omega
  by_cases e12:o+12=i
  · subst e12;simp [h12];have:=(List.getElem?_eq_some_iff.1 h12).1;omega
  by_cases e14:o+14=i
  · subst e14;simp [h14];have:=(List.getElem?_eq_some_iff.1 h14).1;omega
  by_cases e15:o+15=i
  · subst e15;simp [h15];have:=(List.getElem?_eq_some_iff.1 h15).1;omega
  simp [e3,e12,e14,e15]
theorem mkuMsg (v:Value) (l:List Mg) (k lo hi:Nat) (w:World) (ho:OwnMx lo hi w v l) (hl:l.length<=4000000) (hf:∀ q ∈ l,FewMg q) (hk:nxG nxMg k l<=40000000) (hk0:0 < k) :
    Calls Tryz.prog 39 #[v,.int .i64 (k:Int)] w (Mkd (nxG nxMg k l) lo hi (fun w'=>OwnMx lo hi w' v (mkG mkMg nxMg k l)) w):=by
  obtain ⟨Z,rfl,ho⟩:=ho
  by_cases hne:Z=[]
  · subst hne
    obtain ⟨a,c,rfl⟩:∃ a c,v=.slice a 0 c:=by
      rcases ho.1.2 with ⟨rfl,hn⟩ | ⟨g,cap,cur,rfl,-⟩
      · exact ⟨_,_,rfl⟩
      · exact ⟨_,_,rfl⟩
    have Ho:=hide ho
    clear ho
    go_enter Tryz.func39,Tryz.ntmps39
    go_wp2
    refine wp_loop_rounds 1 ?_
    rw [rounds_succ]
    go_wp2
    go_ret
    exact ⟨rfl,⟨[],rfl,Ho.out⟩,Oth.refl _ _⟩
  · obtain ⟨g,cap,rfl⟩:∃ g cap,v=.slice (some ⟨g,0,none⟩) Z.length cap:=by
      rcases ho.1.2 with ⟨rfl,hn⟩ | ⟨g,cap,cur,rfl,-⟩
      · exact absurd (List.length_eq_zero_iff.1 hn) hne
      · exact ⟨g,cap,rfl⟩
    rw [List.length_map] at hl
    rw [<- mgG_nx] at hk ⊢
    have HEq:=hide (mgG_fst k Z)
    have HF:=hide (show ∀ j (h:j < Z.length),FewMg Z[j].1 from fun j h=>hf _ (List.mem_map.2 ⟨_,List.getElem_mem h,rfl⟩))
    have HM0:=hide (MidR.of ho)
    obtain ⟨n,hn⟩:∃ n,Z.length=n:=⟨_,rfl⟩
    rw [hn] at HM0 hl ⊢
    have Hn:=hide hn
    have Hk:=hide hk
    clear ho hf hn hk hne
    go_enter Tryz.func39,Tryz.ntmps39
    go_wp2
    go_loopw [1,5] (fun kv iv wr=>∃ j:Nat,j<=n/\iv=.int .i64 (j:Int)/\kv=.int .i64 ((nxG mgN k (Z.take j):Nat):Int)/\MidR 104 16 (fun a b w (q:Mg × Mv)=>OwnMg a b w q.1 q.2) lo hi wr g n cap ((mixG mgQ mgN k Z j).map (fun q:Mg × Mv=>mgC q.1 q.2)).flatten (mixG mgQ mgN k Z j)/\Oth (fun x=>lo<=x/\x < hi) w wr)
      (fun _ iv _=>n - (intOf iv).toNat)
    case atStart=>exact ⟨0,Nat.zero_le _,rfl,by simp [nxG],by rw [mixG_zero];exact HM0.out,Oth.refl _ _⟩
    case round =>
      obtain ⟨j,hj,rfl,rfl,hm,hot⟩:=hrel
      clear HM0
      by_cases hlt:j < n
      · have hjZ:j < Z.length:=by have:=Hn.out;omega
        have hmx:=mixG_len mgQ mgN k Z j (by omega)
        have hjm:j < (mixG mgQ mgN k Z j).length:=by omega
        have hnow:=mixG_now mgQ mgN k Z j hjZ hjm
        have hYl:((mixG mgQ mgN k Z j).map (fun q:Mg × Mv=>mgC q.1 q.2)).flatten.length=16 * n:=by rw [flat_len 16 _ (mapMg_sz _),List.length_map,hmx,Hn.out];omega
        have Hat:Hid (∀ t,t < 16->((mixG mgQ mgN k Z j).map (fun q:Mg × Mv=>mgC q.1 q.2)).flatten[j * 16+t]?=(mgC Z[j].1 Z[j].2)[t]?):=hide (fun t ht=>by
          rw [flat_get 16 _ j t (by simpa using hjm) (mapMg_sz _) ht]
          simp [hnow])
        have hfew:=HF.out j hjZ
        have hnx:nxG mgN k (Z.take (j+1))=nxMg (nxG mgN k (Z.take j)) Z[j].1:=nxG_take hjZ k
        have hle:nxG mgN k (Z.take (j+1))<=40000000:=Nat.le_trans (nxG_le mgN_ge k Z (j+1)) Hk.out
        have hK0:0 < nxG mgN k (Z.take j):=Nat.lt_of_lt_of_le hk0 (nxG_ge mgN_ge k _)
        rw [hnx] at hle
        have Hnx:=hide hnx
        have HEnd:Hid (∀ Y,Y=setAll ((mixG mgQ mgN k Z j).map (fun q:Mg × Mv=>mgC q.1 q.2)).flatten (j * 16) (mgC (mkMg (nxG mgN k (Z.take j)) Z[j].1) Z[j].2)->Y=((mixG mgQ mgN k Z (j+1)).map (fun q:Mg × Mv=>mgC q.1 q.2)).flatten):=hide (fun Y hY=>by
          rw [hY,setAll_flat 16 _ _ j (by simpa using hjm) (mapMg_sz _) rfl,<- mixG_next mgQ mgN k Z j hjZ,List.map_set]
          rfl)
        obtain ⟨a,b,ha1,ha2,ha3,ha4,ho,hcl⟩:=hm.at (fun a b q w w' hk hq=>hq.kept hk) hjm
        rw [hnow] at ho
        have HC:Hid (∀ (w':World) (Y':List Value),w'.ownsRow lo 104 16 (.slice (some ⟨g,0,none⟩) n cap) n Y'->Oth (fun x=>x=g\/a<=x/\x < b) wr w'->OwnMg a b w' (mkMg (nxG mgN k (Z.take j)) Z[j].1) Z[j].2->MidR 104 16 (fun a b w (q:Mg × Mv)=>OwnMg a b w q.1 q.2) lo hi w' g n cap Y' (mixG mgQ mgN k Z (j+1))):=hide (fun w' Y' h1 h2 h3=>by
          rw [<- mixG_next mgQ mgN k Z j hjZ]
          exact hcl w' Y' (mgQ (nxG mgN k (Z.take j)) Z[j]) h1 h2 h3)
        have hgg:=hm.oth
        have HSo:=hide (show ∀ x,(x=g\/a<=x/\x < b)->lo<=x/\x < hi from fun x hx=>by rcases hx with rfl | ⟨h1,h2⟩ <;> omega)
        have HR:=hide (show RowSt lo 104 16 (fun x=>x=g\/a<=x/\x < b) wr wr g n cap ((mixG mgQ mgN k Z j).map (fun q:Mg × Mv=>mgC q.1 q.2)).flatten from ⟨hm.row,Oth.refl _ _⟩)
        have Hot:=hide hot
        generalize nxG mgN k (Z.take j)=K at Hnx hle hK0 HEnd HC ⊢
        generalize ((mixG mgQ mgN k Z j).map (fun q:Mg × Mv=>mgC q.1 q.2)).flatten=Y at hYl Hat HEnd HR
        clear hm hot hcl hnow hjm hmx hgg HF hnx
        generalize Z[j]=zq at Hat hfew hle HEnd HC Hnx ho
        obtain ⟨p,u⟩:=zq
        have hnb:=hfew.nb
        have hfb:=hfew.fb
        have hnq:=hfew.nq
        have hnw:=hfew.nw
        have hnh:=hfew.nh
        obtain ⟨kd,tn,ep,bs,vr,vb,vw,gr,gh,gw,qr,qb,qw,tr,tw,th⟩:=p
        obtain ⟨yb,yq,yw,yh⟩:=u
        obtain ⟨m0,m1,m2,m3,b0,b1,b2,b3,b4,xb,xq,xw,xh⟩:=ho.ex
        clear ho hfew
        (try (try simp only at *))
        obtain ⟨adb,cpb,rfl⟩:=xb.rd.shape
        obtain ⟨adq,cpq,rfl⟩:=xq.rd.shape
        obtain ⟨adw,cpw,rfl⟩:=xw.rd.shape
        obtain ⟨adh,cph,rfl⟩:=xh.rd.shape
        unfold nxMg at hle
        (try simp only at hle)
        have hli:(j:Int) < (n:Int):=by omega
        have Xb:=hide xb
        clear xb
        have Xq:=hide xq
        clear xq
        have Xw:=hide xw
        clear xw
        have Xh:=hide xh
        clear xh
        obtain ⟨⟨y0,q0⟩,f0,-⟩:=HR.out.at (j * 16) (by (try simp only [List.length_set]);omega)
        have HRn:=hide (HR.out.set (.inl rfl) (j * 16) (.int .i64 (((K:Nat):Int))))
        clear HR
        have HR:=HRn
        clear HRn
        have Xb:=hide (Xb.out.kept (Kept.set (g:=g) _ (j * 16) (.int .i64 (((K:Nat):Int))) (by omega)))
        have Xq:=hide (Xq.out.kept (Kept.set (g:=g) _ (j * 16) (.int .i64 (((K:Nat):Int))) (by omega)))
        have Xw:=hide (Xw.out.kept (Kept.set (g:=g) _ (j * 16) (.int .i64 (((K:Nat):Int))) (by omega)))
        have Xh:=hide (Xh.out.kept (Kept.set (g:=g) _ (j * 16) (.int .i64 (((K:Nat):Int))) (by omega)))
        have HA:=hide (fun V=>markText_any (K+1) V (by omega) (by omega))
        rw [show ((K+1:Nat):Int)=(K:Int)+1 from by omega] at HA
        go_wp2_with fail
        refine (HA.out _).mono ?_
        rintro e wt1 ⟨rfl,hbt⟩
        have HRn:=hide (HR.out.below hbt)
        clear HR
        have HR:=HRn
        clear HRn
        have Xb:=hide (Xb.out.kept (Kept.of_below hbt (Nat.le_refl _)))
        have Xq:=hide (Xq.out.kept (Kept.of_below hbt (Nat.le_refl _)))
        have Xw:=hide (Xw.out.kept (Kept.of_below hbt (Nat.le_refl _)))
        have Xh:=hide (Xh.out.kept (Kept.of_below hbt (Nat.le_refl _)))
        clear hbt HA q0 f0
        obtain ⟨⟨y1,q1⟩,f1,-⟩:=HR.out.at (j * 16+1) (by (try simp only [List.length_set]);omega)
        obtain ⟨⟨y2,q2⟩,f2,-⟩:=HR.out.at (j * 16+2) (by (try simp only [List.length_set]);omega)
        have q3:World.cell? _ ⟨g,j * 16+3,none⟩=some (.slice adb bs.length cpb):=(HR.out.at (j * 16+3) (by (try simp only [List.length_set]);omega)).2.2.trans (by (repeat rw [List.getElem?_set_ne (by omega)]);exact Hat.out 3 (by omega))
        have HRn:=hide (HR.out.set (.inl rfl) (j * 16+1) (.string (mtx (K+1))))
        clear HR
        have HR:=HRn
        clear HRn
        have Xb:=hide (Xb.out.kept (Kept.set (g:=g) _ (j * 16+1) (.string (mtx (K+1))) (by omega)))
        have Xq:=hide (Xq.out.kept (Kept.set (g:=g) _ (j * 16+1) (.string (mtx (K+1))) (by omega)))
        have Xw:=hide (Xw.out.kept (Kept.set (g:=g) _ (j * 16+1) (.string (mtx (K+1))) (by omega)))
        have Xh:=hide (Xh.out.kept (Kept.set (g:=g) _ (j * 16+1) (.string (mtx (K+1))) (by omega)))
        have HRn:=hide (HR.out.set (.inl rfl) (j * 16+2) (.int .i64 ((K:Int)+1+1)))
        clear HR
        have HR:=HRn
        clear HRn
        have Xb:=hide (Xb.out.kept (Kept.set (g:=g) _ (j * 16+2) (.int .i64 ((K:Int)+1+1)) (by omega)))
        have Xq:=hide (Xq.out.kept (Kept.set (g:=g) _ (j * 16+2) (.int .i64 ((K:Int)+1+1)) (by omega)))
        have Xw:=hide (Xw.out.kept (Kept.set (g:=g) _ (j * 16+2) (.int .i64 ((K:Int)+1+1)) (by omega)))
        have Xh:=hide (Xh.out.kept (Kept.set (g:=g) _ (j * 16+2) (.int .i64 ((K:Int)+1+1)) (by omega)))
        have HA:=hide (mkuBlock (.slice adb bs.length cpb) bs (K+3) m0 m1 _ Xb.out hnb hfb (by omega) (by omega))
        rw [show ((K+3:Nat):Int)=(K:Int)+1+1+1 from by omega] at HA
        go_wp2_with fail
        refine HA.out.mono ?_
        rintro e w1 ⟨rfl,hx,hoth⟩
        have HRn:=hide (HR.out.by_ hoth (by omega) (fun x hx=>.inr (by omega)))
        clear HR
        have HR:=HRn
        clear HRn
        have Xq:=hide (Xq.out.kept (Kept.of_oth hoth (fun k h1 h2=>by omega)))
        have Xw:=hide (Xw.out.kept (Kept.of_oth hoth (fun k h1 h2=>by omega)))
        have Xh:=hide (Xh.out.kept (Kept.of_oth hoth (fun k h1 h2=>by omega)))
        have Xn:=hide hx
        clear Xb
        have Xb:=Xn
        clear Xn
        obtain ⟨K1,hK1⟩:∃ x:Nat,K+3+totM bs=x:=⟨_,rfl⟩
        have HK1:=hide hK1
        rw [hK1]
        have hle1:K1+1+1+1+1+1+1+1+1+qw.length+1+tw.length+th.length<=40000000:=by omega
        have hK01:0 < K1:=by omega
        clear hx hoth HA q1 f1 q2 f2 q3 hK1 hle hK0 
        obtain ⟨⟨y4,q4⟩,f4,-⟩:=HR.out.at (j * 16+4) (by (try simp only [List.length_set]);omega)
        obtain ⟨⟨y5,q5⟩,f5,-⟩:=HR.out.at (j * 16+5) (by (try simp only [List.length_set]);omega)
        have HRn:=hide (HR.out.set (.inl rfl) (j * 16+4) (.int .i64 (((K1:Nat):Int))))
        clear HR
        have HR:=HRn
        clear HRn
        have Xb:=hide (Xb.out.kept (Kept.set (g:=g) _ (j * 16+4) (.int .i64 (((K1:Nat):Int))) (by omega)))
        have Xq:=hide (Xq.out.kept (Kept.set (g:=g) _ (j * 16+4) (.int .i64 (((K1:Nat):Int))) (by omega)))
        have Xw:=hide (Xw.out.kept (Kept.set (g:=g) _ (j * 16+4) (.int .i64 (((K1:Nat):Int))) (by omega)))
        have Xh:=hide (Xh.out.kept (Kept.set (g:=g) _ (j * 16+4) (.int .i64 (((K1:Nat):Int))) (by omega)))
        have HRn:=hide (HR.out.set (.inl rfl) (j * 16+5) (.int .i64 ((K1:Int)+1)))
        clear HR
        have HR:=HRn
        clear HRn
        have Xb:=hide (Xb.out.kept (Kept.set (g:=g) _ (j * 16+5) (.int .i64 ((K1:Int)+1)) (by omega)))
        have Xq:=hide (Xq.out.kept (Kept.set (g:=g) _ (j * 16+5) (.int .i64 ((K1:Int)+1)) (by omega)))
        have Xw:=hide (Xw.out.kept (Kept.set (g:=g) _ (j * 16+5) (.int .i64 ((K1:Int)+1)) (by omega)))
        have Xh:=hide (Xh.out.kept (Kept.set (g:=g) _ (j * 16+5) (.int .i64 ((K1:Int)+1)) (by omega)))
        have HA:=hide (fun V=>markText_any (K1+2) V (by omega) (by omega))
        rw [show ((K1+2:Nat):Int)=(K1:Int)+1+1 from by omega] at HA
        go_wp2_with fail
        refine (HA.out _).mono ?_
        rintro e wt6 ⟨rfl,hbt⟩
        have HRn:=hide (HR.out.below hbt)
        clear HR
        have HR:=HRn
        clear HRn
        have Xb:=hide (Xb.out.kept (Kept.of_below hbt (Nat.le_refl _)))
        have Xq:=hide (Xq.out.kept (Kept.of_below hbt (Nat.le_refl _)))
        have Xw:=hide (Xw.out.kept (Kept.of_below hbt (Nat.le_refl _)))
        have Xh:=hide (Xh.out.kept (Kept.of_below hbt (Nat.le_refl _)))
        clear hbt HA q4 f4 q5 f5
        obtain ⟨⟨y6,q6⟩,f6,-⟩:=HR.out.at (j * 16+6) (by (try simp only [List.length_set]);omega)
        obtain ⟨⟨y7,q7⟩,f7,-⟩:=HR.out.at (j * 16+7) (by (try simp only [List.length_set]);omega)
        obtain ⟨⟨y8,q8⟩,f8,-⟩:=HR.out.at (j * 16+8) (by (try simp only [List.length_set]);omega)
        have HRn:=hide (HR.out.set (.inl rfl) (j * 16+6) (.string (mtx (K1+2))))
        clear HR
        have HR:=HRn
        clear HRn
        have Xb:=hide (Xb.out.kept (Kept.set (g:=g) _ (j * 16+6) (.string (mtx (K1+2))) (by omega)))
        have Xq:=hide (Xq.out.kept (Kept.set (g:=g) _ (j * 16+6) (.string (mtx (K1+2))) (by omega)))
        have Xw:=hide (Xw.out.kept (Kept.set (g:=g) _ (j * 16+6) (.string (mtx (K1+2))) (by omega)))
        have Xh:=hide (Xh.out.kept (Kept.set (g:=g) _ (j * 16+6) (.string (mtx (K1+2))) (by omega)))
        have HRn:=hide (HR.out.set (.inl rfl) (j * 16+7) (.int .i64 ((K1:Int)+1+1+1)))
        clear HR
        have HR:=HRn
        clear HRn
        have Xb:=hide (Xb.out.kept (Kept.set (g:=g) _ (j * 16+7) (.int .i64 ((K1:Int)+1+1+1)) (by omega)))
        have Xq:=hide (Xq.out.kept (Kept.set (g:=g) _ (j * 16+7) (.int .i64 ((K1:Int)+1+1+1)) (by omega)))
        have Xw:=hide (Xw.out.kept (Kept.set (g:=g) _ (j * 16+7) (.int .i64 ((K1:Int)+1+1+1)) (by omega)))
        have Xh:=hide (Xh.out.kept (Kept.set (g:=g) _ (j * 16+7) (.int .i64 ((K1:Int)+1+1+1)) (by omega)))
        have HRn:=hide (HR.out.set (.inl rfl) (j * 16+8) (.int .i64 ((K1:Int)+1+1+1+1)))
        clear HR
        have HR:=HRn
        clear HRn
        have Xb:=hide (Xb.out.kept (Kept.set (g:=g) _ (j * 16+8) (.int .i64 ((K1:Int)+1+1+1+1)) (by omega)))
        have Xq:=hide (Xq.out.kept (Kept.set (g:=g) _ (j * 16+8) (.int .i64 ((K1:Int)+1+1+1+1)) (by omega)))
        have Xw:=hide (Xw.out.kept (Kept.set (g:=g) _ (j * 16+8) (.int .i64 ((K1:Int)+1+1+1+1)) (by omega)))
        have Xh:=hide (Xh.out.kept (Kept.set (g:=g) _ (j * 16+8) (.int .i64 ((K1:Int)+1+1+1+1)) (by omega)))
        have HA:=hide (fun V=>markText_any (K1+5) V (by omega) (by omega))
        rw [show ((K1+5:Nat):Int)=(K1:Int)+1+1+1+1+1 from by omega] at HA
        go_wp2_with fail
        refine (HA.out _).mono ?_
        rintro e wt9 ⟨rfl,hbt⟩
        have HRn:=hide (HR.out.below hbt)
        clear HR
        have HR:=HRn
        clear HRn
        have Xb:=hide (Xb.out.kept (Kept.of_below hbt (Nat.le_refl _)))
        have Xq:=hide (Xq.out.kept (Kept.of_below hbt (Nat.le_refl _)))
        have Xw:=hide (Xw.out.kept (Kept.of_below hbt (Nat.le_refl _)))
        have Xh:=hide (Xh.out.kept (Kept.of_below hbt (Nat.le_refl _)))
        clear hbt HA q6 f6 q7 f7 q8 f8
        obtain ⟨⟨y9,q9⟩,f9,-⟩:=HR.out.at (j * 16+9) (by (try simp only [List.length_set]);omega)
        obtain ⟨⟨y10,q10⟩,f10,-⟩:=HR.out.at (j * 16+10) (by (try simp only [List.length_set]);omega)
        obtain ⟨⟨y11,q11⟩,f11,-⟩:=HR.out.at (j * 16+11) (by (try simp only [List.length_set]);omega)
        have q12:World.cell? _ ⟨g,j * 16+12,none⟩=some (.slice adq qw.length cpq):=(HR.out.at (j * 16+12) (by (try simp only [List.length_set]);omega)).2.2.trans (by (repeat rw [List.getElem?_set_ne (by omega)]);exact Hat.out 12 (by omega))
        have HRn:=hide (HR.out.set (.inl rfl) (j * 16+9) (.string (mtx (K1+5))))
        clear HR
        have HR:=HRn
        clear HRn
        have Xb:=hide (Xb.out.kept (Kept.set (g:=g) _ (j * 16+9) (.string (mtx (K1+5))) (by omega)))
        have Xq:=hide (Xq.out.kept (Kept.set (g:=g) _ (j * 16+9) (.string (mtx (K1+5))) (by omega)))
        have Xw:=hide (Xw.out.kept (Kept.set (g:=g) _ (j * 16+9) (.string (mtx (K1+5))) (by omega)))
        have Xh:=hide (Xh.out.kept (Kept.set (g:=g) _ (j * 16+9) (.string (mtx (K1+5))) (by omega)))
        have HRn:=hide (HR.out.set (.inl rfl) (j * 16+10) (.int .i64 ((K1:Int)+1+1+1+1+1+1)))
        clear HR
        have HR:=HRn
        clear HRn
        have Xb:=hide (Xb.out.kept (Kept.set (g:=g) _ (j * 16+10) (.int .i64 ((K1:Int)+1+1+1+1+1+1)) (by omega)))
        have Xq:=hide (Xq.out.kept (Kept.set (g:=g) _ (j * 16+10) (.int .i64 ((K1:Int)+1+1+1+1+1+1)) (by omega)))
        have Xw:=hide (Xw.out.kept (Kept.set (g:=g) _ (j * 16+10) (.int .i64 ((K1:Int)+1+1+1+1+1+1)) (by omega)))
        have Xh:=hide (Xh.out.kept (Kept.set (g:=g) _ (j * 16+10) (.int .i64 ((K1:Int)+1+1+1+1+1+1)) (by omega)))
        have HRn:=hide (HR.out.set (.inl rfl) (j * 16+11) (.int .i64 ((K1:Int)+1+1+1+1+1+1+1)))
        clear HR
        have HR:=HRn
        clear HRn
        have Xb:=hide (Xb.out.kept (Kept.set (g:=g) _ (j * 16+11) (.int .i64 ((K1:Int)+1+1+1+1+1+1+1)) (by omega)))
        have Xq:=hide (Xq.out.kept (Kept.set (g:=g) _ (j * 16+11) (.int .i64 ((K1:Int)+1+1+1+1+1+1+1)) (by omega)))
        have Xw:=hide (Xw.out.kept (Kept.set (g:=g) _ (j * 16+11) (.int .i64 ((K1:Int)+1+1+1+1+1+1+1)) (by omega)))
        have Xh:=hide (Xh.out.kept (Kept.set (g:=g) _ (j * 16+11) (.int .i64 ((K1:Int)+1+1+1+1+1+1+1)) (by omega)))
        have HA:=hide (mkuStr (.slice adq qw.length cpq) qw (K1+8) m1 m2 _ Xq.out hnq (by omega) (by omega))
        rw [show ((K1+8:Nat):Int)=(K1:Int)+1+1+1+1+1+1+1+1 from by omega] at HA
        go_wp2_with fail
        refine HA.out.mono ?_
        rintro e w2 ⟨rfl,hx,hoth⟩
        have HRn:=hide (HR.out.by_ hoth (by omega) (fun x hx=>.inr (by omega)))
        clear HR
        have HR:=HRn
        clear HRn
        have Xb:=hide (Xb.out.kept (Kept.of_oth hoth (fun k h1 h2=>by omega)))
        have Xw:=hide (Xw.out.kept (Kept.of_oth hoth (fun k h1 h2=>by omega)))
        have Xh:=hide (Xh.out.kept (Kept.of_oth hoth (fun k h1 h2=>by omega)))
        have Xn:=hide hx
        clear Xq
        have Xq:=Xn
        clear Xn
        obtain ⟨K2,hK2⟩:∃ x:Nat,K1+8+qw.length=x:=⟨_,rfl⟩
        have HK2:=hide hK2
        rw [hK2]
        have hle2:K2+1+tw.length+th.length<=40000000:=by omega
        have hK02:0 < K2:=by omega
        clear hx hoth HA q9 f9 q10 f10 q11 f11 q12 hK2 hle1 hK01 
        obtain ⟨⟨y13,q13⟩,f13,-⟩:=HR.out.at (j * 16+13) (by (try simp only [List.length_set]);omega)
        have q14:World.cell? _ ⟨g,j * 16+14,none⟩=some (.slice adw tw.length cpw):=(HR.out.at (j * 16+14) (by (try simp only [List.length_set]);omega)).2.2.trans (by (repeat rw [List.getElem?_set_ne (by omega)]);exact Hat.out 14 (by omega))
        have HRn:=hide (HR.out.set (.inl rfl) (j * 16+13) (.int .i64 (((K2:Nat):Int))))
        clear HR
        have HR:=HRn
        clear HRn
        have Xb:=hide (Xb.out.kept (Kept.set (g:=g) _ (j * 16+13) (.int .i64 (((K2:Nat):Int))) (by omega)))
        have Xq:=hide (Xq.out.kept (Kept.set (g:=g) _ (j * 16+13) (.int .i64 (((K2:Nat):Int))) (by omega)))
        have Xw:=hide (Xw.out.kept (Kept.set (g:=g) _ (j * 16+13) (.int .i64 (((K2:Nat):Int))) (by omega)))
        have Xh:=hide (Xh.out.kept (Kept.set (g:=g) _ (j * 16+13) (.int .i64 (((K2:Nat):Int))) (by omega)))
        have HA:=hide (mkuStrI (.slice adw tw.length cpw) (.slice adh th.length cph) tw th (K2+1) m2 m3 _ Xw.out Xh.out hnw (by omega) (by omega))
        rw [show ((K2+1:Nat):Int)=(K2:Int)+1 from by omega] at HA
        go_wp2_with fail
        refine HA.out.mono ?_
        rintro e w3 ⟨rfl,hx,hoth⟩
        have HRn:=hide (HR.out.by_ hoth (by omega) (fun x hx=>.inr (by omega)))
        clear HR
        have HR:=HRn
        clear HRn
        have Xb:=hide (Xb.out.kept (Kept.of_oth hoth (fun k h1 h2=>by omega)))
        have Xq:=hide (Xq.out.kept (Kept.of_oth hoth (fun k h1 h2=>by omega)))
        have Xn:=hide hx.1
        have Xo:=hide hx.2
        clear Xw Xh
        have Xw:=Xn
        have Xh:=Xo
        clear Xn Xo
        obtain ⟨K3,hK3⟩:∃ x:Nat,K2+1+tw.length=x:=⟨_,rfl⟩
        have HK3:=hide hK3
        rw [hK3]
        have hle3:K3+th.length<=40000000:=by omega
        have hK03:0 < K3:=by omega
        clear hx hoth HA q13 f13 q14 hK3 hle2 hK02 
        have q15:World.cell? _ ⟨g,j * 16+15,none⟩=some (.slice adh th.length cph):=(HR.out.at (j * 16+15) (by (try simp only [List.length_set]);omega)).2.2.trans (by (repeat rw [List.getElem?_set_ne (by omega)]);exact Hat.out 15 (by omega))
        have HA:=hide (mkuIntS (.slice adw tw.length cpw) (.slice adh th.length cph) (mkS (K2+1) tw.length) th (K3) m2 m3 _ Xw.out Xh.out hnh (by omega) (by omega))
        go_wp2_with fail
        refine HA.out.mono ?_
        rintro e w4 ⟨rfl,hx,hoth⟩
        have HRn:=hide (HR.out.by_ hoth (by omega) (fun x hx=>.inr (by omega)))
        clear HR
        have HR:=HRn
        clear HRn
        have Xb:=hide (Xb.out.kept (Kept.of_oth hoth (fun k h1 h2=>by omega)))
        have Xq:=hide (Xq.out.kept (Kept.of_oth hoth (fun k h1 h2=>by omega)))
        have Xn:=hide hx.1
        have Xo:=hide hx.2
        clear Xw Xh
        have Xw:=Xn
        have Xh:=Xo
        clear Xn Xo
        obtain ⟨K4,hK4⟩:∃ x:Nat,K3+th.length=x:=⟨_,rfl⟩
        have HK4:=hide hK4
        rw [hK4]
        have hle4:K4<=40000000:=by omega
        have hK04:0 < K4:=by omega
        clear hx hoth HA q15 hK4 hle3 hK03 
        have e1:mkMg K ⟨kd,tn,ep,bs,vr,vb,vw,gr,gh,gw,qr,qb,qw,tr,tw,th⟩=⟨(((K:Nat):Int)),mtx (K+1),((K:Int)+1+1),mkLk (K+3) bs,(((K1:Nat):Int)),((K1:Int)+1),mtx (K1+2),((K1:Int)+1+1+1),((K1:Int)+1+1+1+1),mtx (K1+5),((K1:Int)+1+1+1+1+1+1),((K1:Int)+1+1+1+1+1+1+1),mkS (K1+8) qw.length,(((K2:Nat):Int)),mkS (K2+1) tw.length,mkI (K3) th.length⟩:=by
          unfold mkMg
          (try simp only [HK1.out,HK2.out,HK3.out])
          rw [Mg.mk.injEq]
          exact ⟨by omega,congrArg mtx (by omega),by omega,rfl,by omega,by omega,congrArg mtx (by omega),by omega,by omega,congrArg mtx (by omega),by omega,by omega,rfl,by omega,rfl,rfl⟩
        have e2:nxMg K ⟨kd,tn,ep,bs,vr,vb,vw,gr,gh,gw,qr,qb,qw,tr,tw,th⟩=K4:=by
          unfold nxMg
          (try simp only [HK1.out,HK2.out,HK3.out,HK4.out])
        have e3:=HEnd.out _ rfl
        have HF:=hide (HC.out _ _ HR.out.row HR.out.oth (by
          rw [e1]
          exact ⟨m0,m1,m2,m3,b0,b1,b2,b3,b4,Xb.out,Xq.out,Xw.out,Xh.out⟩))
        rw [e1] at e3
        have HFO:=hide (Hot.out.trans (HR.out.oth.mono HSo.out))
        have e4:=setMg Y (j * 16) (.int .i64 (((K:Nat):Int))) (.string (mtx (K+1))) (.int .i64 ((K:Int)+1+1)) (.slice adb bs.length cpb) (.int .i64 (((K1:Nat):Int))) (.int .i64 ((K1:Int)+1)) (.string (mtx (K1+2))) (.int .i64 ((K1:Int)+1+1+1)) (.int .i64 ((K1:Int)+1+1+1+1)) (.string (mtx (K1+5))) (.int .i64 ((K1:Int)+1+1+1+1+1+1)) (.int .i64 ((K1:Int)+1+1+1+1+1+1+1)) (.slice adq qw.length cpq) (.int .i64 (((K2:Nat):Int))) (.slice adw tw.length cpw) (.slice adh th.length cph) (Hat.out 3 (by omega)) (Hat.out 12 (by omega)) (Hat.out 14 (by omega)) (Hat.out 15 (by omega))
        rw [e4] at HF
        have HF2:=hide (show MidR 104 16 (fun a b w (q:Mg × Mv)=>OwnMg a b w q.1 q.2) lo hi _ g n cap ((mixG mgQ mgN k Z (j+1)).map (fun q:Mg × Mv=>mgC q.1 q.2)).flatten (mixG mgQ mgN k Z (j+1)) from by rw [<- e3];exact HF.out)
        have Hn2:=hide (Hnx.out.trans e2)
        clear e1 e2 e3 e4 HF HR HEnd HC Hat Hnx Hot HSo Xb Xq Xw Xh
        go_wp2
        go_roundw
        case rel=>exact ⟨j+1,by omega,by go_num,(by rw [Hn2.out];try go_num),HF2.out,HFO.out⟩
        case measure=>simp [intOf];omega
      · have ej:j=Z.length:=by have:=Hn.out;omega
        have hot':=hide hot
        have HF2:Hid (OwnMx lo hi wr (.slice (some ⟨g,0,none⟩) n cap) (mkG mkMg nxMg k (Z.map (·.1)))):=hide (by
          have hl2:n=(mixG mgQ mgN k Z j).length:=by rw [mixG_len _ _ _ _ _ (by omega)];exact Hn.out.symm
          refine ⟨mixG mgQ mgN k Z j,?_,?_⟩
          · rw [ej,mixG_all,HEq.out]
          · have:=hm.to hl2
            rw [<- hl2] at this
            exact this)
        have HT:Hid (nxG mgN k (Z.take j)=nxG mgN k Z):=hide (by rw [ej,List.take_length])
        clear hm hot ej
        generalize nxG mgN k (Z.take j)=K at HT
        go_wp2
        go_ret
        exact ⟨ret_int (by rw [HT.out]),HF2.out,hot'.out⟩
end Go.Proofs.YthidkbhiikdokaaGreat
namespace Go.Proofs.YthidkbhiikdokaaGreat
open Go.RowKit
set_option linter.unusedVariables false
structure Sn where
  kd:Int
  ep:Int
  rd:Int
  wt:Int
  wo:ByteArray
structure Sv
def snC (p:Sn) (u:Sv):List Value:=[.int .i64 p.kd,.int .i64 p.ep,.int .i64 p.rd,.int .i64 p.wt,.string p.wo]
def snV (p:Sn) (u:Sv):Value:=.agg #[.int .i64 p.kd,.int .i64 p.ep,.int .i64 p.rd,.int .i64 p.wt,.string p.wo]
def snCZ:List Value:=[.int .i64 0,.int .i64 0,.int .i64 0,.int .i64 0,.string { data:=#[] }]
theorem snC_sz (q:Sn × Sv):(snC q.1 q.2).length=5:=rfl
structure RdSn (w:World) (p:Sn) (u:Sv):Prop
theorem RdSn.below {B:Nat} {w w':World} {p:Sn} {u:Sv} (h:RdSn w p u) (hb:Below B w w') (hB:w.heap.size<=B):RdSn w' p u:=⟨⟩
structure OwnSn (lo hi:Nat) (w:World) (p:Sn) (u:Sv):Prop where
  ex:∃ m0:Nat,lo<=m0/\m0<=hi/\True
theorem OwnSn.rd {lo hi:Nat} {w:World} {p:Sn} {u:Sv} (h:OwnSn lo hi w p u):RdSn w p u:=by
  obtain ⟨m0,k0,k1,xx⟩:=h.ex
  exact ⟨⟩
theorem OwnSn.kept {lo hi:Nat} {w w':World} {p:Sn} {u:Sv} (h:OwnSn lo hi w p u) (hk:Kept lo hi w w'):OwnSn lo hi w' p u:=by
  obtain ⟨m0,k0,k1,xx⟩:=h.ex
  exact ⟨m0,k0,k1,xx⟩
def RdSs (w:World) (v:Value) (l:List Sn):Prop:=∃ Z:List (Sn × Sv),Z.map (·.1)=l/\RdRow 5 (fun q=>snC q.1 q.2) (fun w q=>RdSn w q.1 q.2) w v Z
theorem RdSs.shape {w:World} {v:Value} {l:List Sn} (h:RdSs w v l):∃ a cap,v=.slice a l.length cap:=by
  obtain ⟨Z,rfl,h⟩:=h
  obtain ⟨a,cap,rfl⟩:=h.shape
  exact ⟨a,cap,by simp⟩
theorem RdSs.below {B:Nat} {w w':World} {v:Value} {l:List Sn} (h:RdSs w v l) (hb:Below B w w') (hB:w.heap.size<=B):RdSs w' v l:=by
  obtain ⟨Z,hZ,h⟩:=h
  exact ⟨Z,hZ,h.below hb hB (fun q hq=>hq.below hb hB)⟩
def OwnSx (lo hi:Nat) (w:World) (v:Value) (l:List Sn):Prop:=∃ Z:List (Sn × Sv),Z.map (·.1)=l/\OwnRow 97 5 (fun q=>snC q.1 q.2) (fun a b w q=>OwnSn a b w q.1 q.2) lo hi w v Z
theorem OwnSx.rd {lo hi:Nat} {w:World} {v:Value} {l:List Sn} (h:OwnSx lo hi w v l):RdSs w v l:=by
  obtain ⟨Z,hZ,h⟩:=h
  exact ⟨Z,hZ,h.rd snC_sz (fun a b q hq=>hq.rd)⟩
theorem OwnSx.kept {lo hi:Nat} {w w':World} {v:Value} {l:List Sn} (h:OwnSx lo hi w v l) (hk:Kept lo hi w w'):OwnSx lo hi w' v l:=by
  obtain ⟨Z,hZ,h⟩:=h
  exact ⟨Z,hZ,h.kept hk (fun a b q h1 h2 hq=>hq.kept (hk.mono h1 h2))⟩
end Go.Proofs.YthidkbhiikdokaaGreat
