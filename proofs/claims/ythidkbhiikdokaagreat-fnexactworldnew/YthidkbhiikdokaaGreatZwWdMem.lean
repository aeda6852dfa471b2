/- A world. -/
import Derived.Test.YthidkbhiikdokaaGreatZwSnTo
set_option maxRecDepth 20000
set_option maxHeartbeats 8000000
namespace Go.Proofs.YthidkbhiikdokaaGreat
open Go.RowKit Go.Sort
set_option linter.unusedVariables false
def nxSn (K:Nat) (p:Sn):Nat:=K+1+1+1+1+1
def mkSn (K:Nat) (p:Sn):Sn:=⟨((K:Nat):Int),((K+1:Nat):Int),((K+1+1:Nat):Int),((K+1+1+1:Nat):Int),mtx (K+1+1+1+1)⟩
theorem nxSn_ge (K:Nat) (p:Sn):K<=nxSn K p:=by
  unfold nxSn
  omega
def snQ (K:Nat) (q:Sn × Sv):Sn × Sv:=(mkSn K q.1,q.2)
def snN (K:Nat) (q:Sn × Sv):Nat:=nxSn K q.1
theorem snN_ge (K:Nat) (q:Sn × Sv):K<=snN K q:=nxSn_ge K q.1
theorem snG_fst (k:Nat) (Z:List (Sn × Sv)):(mkG snQ snN k Z).map (·.1)=mkG mkSn nxSn k (Z.map (·.1)):=mkG_map (fun q:Sn × Sv=>q.1) snQ mkSn nxSn (fun _ _=>rfl) k Z
theorem snG_nx (k:Nat) (Z:List (Sn × Sv)):nxG snN k Z=nxG nxSn k (Z.map (·.1)):=(nxG_map (fun q:Sn × Sv=>q.1) nxSn k Z).symm
theorem mapSn_sz (X:List (Sn × Sv)):∀ x ∈ X.map (fun q:Sn × Sv=>snC q.1 q.2),x.length=5:=mapC_sz snC_sz X
theorem setSn {α:Type} (X:List α) (o:Nat) (y0 y1 y2 y3 y4:α)  :
    (((((X.set (o) y0).set (o+1) y1).set (o+2) y2).set (o+3) y3).set (o+4) y4)=setAll X o [y0,y1,y2,y3,y4]:=by
  first
  | (simp only [setAll];done)
  | (simp only [setAll,Nat.add_assoc];done)
  | rfl
theorem mkuSig (v:Value) (l:List Sn) (k lo hi:Nat) (w:World) (ho:OwnSx lo hi w v l) (hl:l.length<=4000000) (hf:∀ q ∈ l,FewSn q) (hk:nxG nxSn k l<=40000000) (hk0:0 < k) :
    Calls Tryz.prog 38 #[v,.int .i64 (k:Int)] w (Mkd (nxG nxSn k l) lo hi (fun w'=>OwnSx lo hi w' v (mkG mkSn nxSn k l)) w):=by
  obtain ⟨Z,rfl,ho⟩:=ho
  by_cases hne:Z=[]
  · subst hne
    obtain ⟨a,c,rfl⟩:∃ a c,v=.slice a 0 c:=by
      rcases ho.1.2 with ⟨rfl,hn⟩ | ⟨g,cap,cur,rfl,-⟩
      · exact ⟨_,_,rfl⟩
      · exact ⟨_,_,rfl⟩
    have Ho:=hide ho
    clear ho
    go_enter Tryz.func38,Tryz.ntmps38
    go_wp2
    refine wp_loop_rounds 1 ?_
    rw [rounds_succ]
    go_wp2
    go_ret
    exact ⟨rfl,⟨[],rfl,Ho.out⟩,Oth.refl _ _⟩
  · obtain ⟨g,cap,rfl⟩:∃ g cap,v=.slice (some ⟨g,0,none⟩) Z.length cap:=by
      rcases ho.1.2 with ⟨rfl,hn⟩ | ⟨g,cap,cur,rfl,-⟩
      · exact absurd (List.length_eq_zero_iff.1 hn) hne
      · exact ⟨g,cap,rfl⟩
    rw [List.length_map] at hl
    rw [<- snG_nx] at hk ⊢
    have HEq:=hide (snG_fst k Z)
    have HF:=hide (show ∀ j (h:j < Z.length),FewSn Z[j].1 from fun j h=>hf _ (List.mem_map.2 ⟨_,List.getElem_mem h,rfl⟩))
    have HM0:=hide (MidR.of ho)
    obtain ⟨n,hn⟩:∃ n,Z.length=n:=⟨_,rfl⟩
    rw [hn] at HM0 hl ⊢
    have Hn:=hide hn
    have Hk:=hide hk
    clear ho hf hn hk hne
    go_enter Tryz.func38,Tryz.ntmps38
    go_wp2
    go_loopw [1,5] (fun kv iv wr=>∃ j:Nat,j<=n/\iv=.int .i64 (j:Int)/\kv=.int .i64 ((nxG snN k (Z.take j):Nat):Int)/\MidR 97 5 (fun a b w (q:Sn × Sv)=>OwnSn a b w q.1 q.2) lo hi wr g n cap ((mixG snQ snN k Z j).map (fun q:Sn × Sv=>snC q.1 q.2)).flatten (mixG snQ snN k Z j)/\Oth (fun x=>lo<=x/\x < hi) w wr)
      (fun _ iv _=>n - (intOf iv).toNat)
    case atStart=>exact ⟨0,Nat.zero_le _,rfl,by simp [nxG],by rw [mixG_zero];exact HM0.out,Oth.refl _ _⟩
    case round =>
      obtain ⟨j,hj,rfl,rfl,hm,hot⟩:=hrel
      clear HM0
      by_cases hlt:j < n
      · have hjZ:j < Z.length:=by have:=Hn.out;omega
        have hmx:=mixG_len snQ snN k Z j (by omega)
        have hjm:j < (mixG snQ snN k Z j).length:=by omega
        have hnow:=mixG_now snQ snN k Z j hjZ hjm
        have hYl:((mixG snQ snN k Z j).map (fun q:Sn × Sv=>snC q.1 q.2)).flatten.length=5 * n:=by rw [flat_len 5 _ (mapSn_sz _),List.length_map,hmx,Hn.out];omega
        have Hat:Hid (∀ t,t < 5->((mixG snQ snN k Z j).map (fun q:Sn × Sv=>snC q.1 q.2)).flatten[j * 5+t]?=(snC Z[j].1 Z[j].2)[t]?):=hide (fun t ht=>by
          rw [flat_get 5 _ j t (by simpa using hjm) (mapSn_sz _) ht]
          simp [hnow])
        have hfew:=HF.out j hjZ
        have hnx:nxG snN k (Z.take (j+1))=nxSn (nxG snN k (Z.take j)) Z[j].1:=nxG_take hjZ k
        have hle:nxG snN k (Z.take (j+1))<=40000000:=Nat.le_trans (nxG_le snN_ge k Z (j+1)) Hk.out
        have hK0:0 < nxG snN k (Z.take j):=Nat.lt_of_lt_of_le hk0 (nxG_ge snN_ge k _)
        rw [hnx] at hle
        have Hnx:=hide hnx
        have HEnd:Hid (∀ Y,Y=setAll ((mixG snQ snN k Z j).map (fun q:Sn × Sv=>snC q.1 q.2)).flatten (j * 5) (snC (mkSn (nxG snN k (Z.take j)) Z[j].1) Z[j].2)->Y=((mixG snQ snN k Z (j+1)).map (fun q:Sn × Sv=>snC q.1 q.2)).flatten):=hide (fun Y hY=>by
          rw [hY,setAll_flat 5 _ _ j (by simpa using hjm) (mapSn_sz _) rfl,<- mixG_next snQ snN k Z j hjZ,List.map_set]
          rfl)
        obtain ⟨a,b,ha1,ha2,ha3,ha4,ho,hcl⟩:=hm.at (fun a b q w w' hk hq=>hq.kept hk) hjm
        rw [hnow] at ho
        have HC:Hid (∀ (w':World) (Y':List Value),w'.ownsRow lo 97 5 (.slice (some ⟨g,0,none⟩) n cap) n Y'->Oth (fun x=>x=g\/a<=x/\x < b) wr w'->OwnSn a b w' (mkSn (nxG snN k (Z.take j)) Z[j].1) Z[j].2->MidR 97 5 (fun a b w (q:Sn × Sv)=>OwnSn a b w q.1 q.2) lo hi w' g n cap Y' (mixG snQ snN k Z (j+1))):=hide (fun w' Y' h1 h2 h3=>by
          rw [<- mixG_next snQ snN k Z j hjZ]
          exact hcl w' Y' (snQ (nxG snN k (Z.take j)) Z[j]) h1 h2 h3)
        have hgg:=hm.oth
        have HSo:=hide (show ∀ x,(x=g\/a<=x/\x < b)->lo<=x/\x < hi from fun x hx=>by rcases hx with rfl | ⟨h1,h2⟩ <;> omega)
        have HR:=hide (show RowSt lo 97 5 (fun x=>x=g\/a<=x/\x < b) wr wr g n cap ((mixG snQ snN k Z j).map (fun q:Sn × Sv=>snC q.1 q.2)).flatten from ⟨hm.row,Oth.refl _ _⟩)
        have Hot:=hide hot
        generalize nxG snN k (Z.take j)=K at Hnx hle hK0 HEnd HC ⊢
        generalize ((mixG snQ snN k Z j).map (fun q:Sn × Sv=>snC q.1 q.2)).flatten=Y at hYl Hat HEnd HR
        clear hm hot hcl hnow hjm hmx hgg HF hnx
        generalize Z[j]=zq at Hat hfew hle HEnd HC Hnx ho
        obtain ⟨p,u⟩:=zq
        obtain ⟨kd,ep,rd,wt,wo⟩:=p
        obtain ⟨⟩:=u
        obtain ⟨m0,b0,b1,-⟩:=ho.ex
        clear ho hfew
        (try (try simp only at *))
        unfold nxSn at hle
        (try simp only at hle)
        have hli:(j:Int) < (n:Int):=by omega
        obtain ⟨⟨y0,q0⟩,f0,-⟩:=HR.out.at (j * 5) (by (try simp only [List.length_set]);omega)
        obtain ⟨⟨y1,q1⟩,f1,-⟩:=HR.out.at (j * 5+1) (by (try simp only [List.length_set]);omega)
        obtain ⟨⟨y2,q2⟩,f2,-⟩:=HR.out.at (j * 5+2) (by (try simp only [List.length_set]);omega)
        obtain ⟨⟨y3,q3⟩,f3,-⟩:=HR.out.at (j * 5+3) (by (try simp only [List.length_set]);omega)
        have HRn:=hide (HR.out.set (.inl rfl) (j * 5) (.int .i64 (((K:Nat):Int))))
        clear HR
        have HR:=HRn
        clear HRn
        have HRn:=hide (HR.out.set (.inl rfl) (j * 5+1) (.int .i64 ((K:Int)+1)))
        clear HR
        have HR:=HRn
        clear HRn
        have HRn:=hide (HR.out.set (.inl rfl) (j * 5+2) (.int .i64 ((K:Int)+1+1)))
        clear HR
        have HR:=HRn
        clear HRn
        have HRn:=hide (HR.out.set (.inl rfl) (j * 5+3) (.int .i64 ((K:Int)+1+1+1)))
        clear HR
        have HR:=HRn
        clear HRn
        have HA:=hide (fun V=>markText_any (K+4) V (by omega) (by omega))
        rw [show ((K+4:Nat):Int)=(K:Int)+1+1+1+1 from by omega] at HA
        go_wp2_with fail
        refine (HA.out _).mono ?_
        rintro e wt4 ⟨rfl,hbt⟩
        have HRn:=hide (HR.out.below hbt)
        clear HR
        have HR:=HRn
        clear HRn
        clear hbt HA q0 f0 q1 f1 q2 f2 q3 f3
        obtain ⟨⟨y4,q4⟩,f4,-⟩:=HR.out.at (j * 5+4) (by (try simp only [List.length_set]);omega)
        have HRn:=hide (HR.out.set (.inl rfl) (j * 5+4) (.string (mtx (K+4))))
        clear HR
        have HR:=HRn
        clear HRn
        have e1:mkSn K ⟨kd,ep,rd,wt,wo⟩=⟨(((K:Nat):Int)),((K:Int)+1),((K:Int)+1+1),((K:Int)+1+1+1),mtx (K+4)⟩:=by
          unfold mkSn
          (try simp only [])
          rw [Sn.mk.injEq]
          exact ⟨by omega,by omega,by omega,by omega,congrArg mtx (by omega)⟩
        have e2:nxSn K ⟨kd,ep,rd,wt,wo⟩=K+5:=by
          unfold nxSn
          (try simp only [])
        have e3:=HEnd.out _ rfl
        have HF:=hide (HC.out _ _ HR.out.row HR.out.oth (by
          rw [e1]
          exact ⟨m0,b0,b1,trivial⟩))
        rw [e1] at e3
        have HFO:=hide (Hot.out.trans (HR.out.oth.mono HSo.out))
        have e4:=setSn Y (j * 5) (.int .i64 (((K:Nat):Int))) (.int .i64 ((K:Int)+1)) (.int .i64 ((K:Int)+1+1)) (.int .i64 ((K:Int)+1+1+1)) (.string (mtx (K+4))) 
        rw [e4] at HF
        have HF2:=hide (show MidR 97 5 (fun a b w (q:Sn × Sv)=>OwnSn a b w q.1 q.2) lo hi _ g n cap ((mixG snQ snN k Z (j+1)).map (fun q:Sn × Sv=>snC q.1 q.2)).flatten (mixG snQ snN k Z (j+1)) from by rw [<- e3];exact HF.out)
        have Hn2:=hide (Hnx.out.trans e2)
        clear e1 e2 e3 e4 HF HR HEnd HC Hat Hnx Hot HSo 
        go_wp2
        go_roundw
        case rel=>exact ⟨j+1,by omega,by go_num,(by rw [Hn2.out];try go_num),HF2.out,HFO.out⟩
        case measure=>simp [intOf];omega
      · have ej:j=Z.length:=by have:=Hn.out;omega
        have hot':=hide hot
        have HF2:Hid (OwnSx lo hi wr (.slice (some ⟨g,0,none⟩) n cap) (mkG mkSn nxSn k (Z.map (·.1)))):=hide (by
          have hl2:n=(mixG snQ snN k Z j).length:=by rw [mixG_len _ _ _ _ _ (by omega)];exact Hn.out.symm
          refine ⟨mixG snQ snN k Z j,?_,?_⟩
          · rw [ej,mixG_all,HEq.out]
          · have:=hm.to hl2
            rw [<- hl2] at this
            exact this)
        have HT:Hid (nxG snN k (Z.take j)=nxG snN k Z):=hide (by rw [ej,List.take_length])
        clear hm hot ej
        generalize nxG snN k (Z.take j)=K at HT
        go_wp2
        go_ret
        exact ⟨ret_int (by rw [HT.out]),HF2.out,hot'.out⟩
end Go.Proofs.YthidkbhiikdokaaGreat
namespace Go.Proofs.YthidkbhiikdokaaGreat
open Go.RowKit
set_option linter.unusedVariables false
structure Wd where
  ep:Int
  la:List Ac
  fo:List ByteArray
  ns:List Nd
  bs:List Bk
  sg:List Sn
  ms:List Mg
structure Wv where
  a:Value
  f:Value
  n:Value
  b:Value
  s:Value
  m:Value
def wdC (p:Wd) (u:Wv):List Value:=[.int .i64 p.ep,u.a,u.f,u.n,u.b,u.s,u.m]
def wdV (p:Wd) (u:Wv):Value:=.agg #[.int .i64 p.ep,u.a,u.f,u.n,u.b,u.s,u.m]
def wdCZ:List Value:=[.int .i64 0,.slice none 0 0,.slice none 0 0,.slice none 0 0,.slice none 0 0,.slice none 0 0,.slice none 0 0]
structure RdWd (w:World) (p:Wd) (u:Wv):Prop where
  ka:RdA w u.a p.la
  kf:RdS w u.f p.fo
  kn:RdNs w u.n p.ns
  kb:RdKs w u.b p.bs
  ks:RdSs w u.s p.sg
  km:RdMs w u.m p.ms
theorem RdWd.below {B:Nat} {w w':World} {p:Wd} {u:Wv} (h:RdWd w p u) (hb:Below B w w') (hB:w.heap.size<=B):RdWd w' p u:=⟨h.ka.below hb hB,h.kf.below hb hB,h.kn.below hb hB,h.kb.below hb hB,h.ks.below hb hB,h.km.below hb hB⟩
structure OwnWd (lo hi:Nat) (w:World) (p:Wd) (u:Wv):Prop where
  ex:∃ m0 m1 m2 m3 m4 m5 m6:Nat,lo<=m0/\m0<=m1/\m1<=m2/\m2<=m3/\m3<=m4/\m4<=m5/\m5<=m6/\m6<=hi/\OwnZ m0 m1 w u.a p.la/\InS m1 m2 w u.f p.fo/\OwnNx m2 m3 w u.n p.ns/\OwnKx m3 m4 w u.b p.bs/\OwnSx m4 m5 w u.s p.sg/\OwnMx m5 m6 w u.m p.ms
theorem OwnWd.rd {lo hi:Nat} {w:World} {p:Wd} {u:Wv} (h:OwnWd lo hi w p u):RdWd w p u:=by
  obtain ⟨m0,m1,m2,m3,m4,m5,m6,k0,k1,k2,k3,k4,k5,k6,k7,xa,xf,xn,xb,xs,xm⟩:=h.ex
  exact ⟨xa.rd,xf.rd,xn.rd,xb.rd,xs.rd,xm.rd⟩
theorem OwnWd.kept {lo hi:Nat} {w w':World} {p:Wd} {u:Wv} (h:OwnWd lo hi w p u) (hk:Kept lo hi w w'):OwnWd lo hi w' p u:=by
  obtain ⟨m0,m1,m2,m3,m4,m5,m6,k0,k1,k2,k3,k4,k5,k6,k7,xa,xf,xn,xb,xs,xm⟩:=h.ex
  exact ⟨m0,m1,m2,m3,m4,m5,m6,k0,k1,k2,k3,k4,k5,k6,k7,xa.kept (hk.mono (by omega) (by omega)),xf.kept (hk.mono (by omega) (by omega)),xn.kept (hk.mono (by omega) (by omega)),xb.kept (hk.mono (by omega) (by omega)),xs.kept (hk.mono (by omega) (by omega)),xm.kept (hk.mono (by omega) (by omega))⟩
theorem OwnWd.wide {lo hi lo' hi':Nat} {w:World} {p:Wd} {u:Wv} (h:OwnWd lo hi w p u) (h1:lo'<=lo) (h2:hi<=hi'):OwnWd lo' hi' w p u:=by
  obtain ⟨m0,m1,m2,m3,m4,m5,m6,k0,k1,k2,k3,k4,k5,k6,k7,xa,xf,xn,xb,xs,xm⟩:=h.ex
  exact ⟨m0,m1,m2,m3,m4,m5,m6,by omega,k1,k2,k3,k4,k5,k6,by omega,xa,xf,xn,xb,xs,xm⟩
def RdWs (w:World) (v:Value) (l:List Wd):Prop:=∃ Z:List (Wd × Wv),Z.map (·.1)=l/\RdRow 7 (fun q=>wdC q.1 q.2) (fun w q=>RdWd w q.1 q.2) w v Z
def OwnWx (lo hi:Nat) (w:World) (v:Value) (l:List Wd):Prop:=∃ Z:List (Wd × Wv),Z.map (·.1)=l/\OwnRow 36 7 (fun q=>wdC q.1 q.2) (fun a b w q=>OwnWd a b w q.1 q.2) lo hi w v Z
end Go.Proofs.YthidkbhiikdokaaGreat
