/- At all ledgers and all lists of names WorldNew of the program answers as the model's WorldNew, field by field; it writes into no argument and keeps nothing of one; its answer owns its memory: the law FnExactWorldNew returns true, with no condition. -/
import Derived.Test.YthidkbhiikdokaaGreatZwBkHeld
import Derived.Test.YthidkbhiikdokaaGreatZwSnHd
import Derived.Test.YthidkbhiikdokaaGreatZwWnNewS
import Derived.Below
set_option maxRecDepth 100000
set_option maxHeartbeats 8000000
namespace Go.Proofs.YthidkbhiikdokaaGreat
open Go.RowKit Go.Sort
set_option linter.unusedVariables false
theorem heldNodeS_any (v:Value) (l:List Nd) (k:Nat) (w:World) (hr:RdNs w v (mkG mkNd nxNd k l)) (hl:l.length<=4000000) (hf:∀ q ∈ l,FewNd q) (hk:nxG nxNd k l<=40000000) (hk0:0 < k) :
    Calls Tryz.prog 42 #[v,.int .i64 (k:Int)] w fun e w'=>e=.returned (.int .i64 ((nxG nxNd k l:Nat):Int))/\Below w.heap.size w w':=by
  obtain ⟨Z,hZ,hr⟩:=hr
  have hZl:Z.length=l.length:=by rw [<- mkG_len mkNd nxNd k l,<- hZ,List.length_map]
  rcases hr with ⟨a,cap,rfl,rfl,-⟩ | ⟨b,off,cap,h0,rfl,h1,h2,h3,h4⟩
  · have e:l=[]:=List.length_eq_zero_iff.1 (by rw [<- hZl];rfl)
    subst e
    go_enter Tryz.func42,Tryz.ntmps42
    go_wp2
    refine wp_loop_rounds 1 ?_
    rw [rounds_succ]
    go_wp2
    go_ret
    exact ⟨rfl,Below.refl _ _⟩
  · have H4 := hide (show ∀ i (h:i < Z.length) (h2:i < l.length),∃ u,w.rangeAt b (off+i * 20) (noC (mkNd (nxG nxNd k (l.take i)) l[i]) u)/\RdNd w (mkNd (nxG nxNd k (l.take i)) l[i]) u from fun i h h2=>by
      have e:Z[i].1=mkNd (nxG nxNd k (l.take i)) l[i]:=by
        rw [<- mkG_at mkNd nxNd k l i (by rw [mkG_len];exact h2) h2]
        simp only [<- hZ,List.getElem_map]
      have q:w.rangeAt b (off+i * 20) (noC Z[i].1 Z[i].2)/\RdNd w Z[i].1 Z[i].2:=h4 i h
      rw [e] at q
      exact ⟨_,q⟩)
    have HF:=hide hf
    have Hk:=hide hk
    rw [hZl] at h1 ⊢
    have HZl:=hide hZl
    clear h4 hf hk hZ hZl h0
    go_enter Tryz.func42,Tryz.ntmps42
    go_wp2
    go_loopw [1,5] (fun kv iv wr=>∃ j:Nat,j<=l.length/\iv=.int .i64 (j:Int)/\kv=.int .i64 ((nxG nxNd k (l.take j):Nat):Int)/\Below w.heap.size w wr) (fun _ iv _=>l.length - (intOf iv).toNat)
    case atStart=>exact ⟨0,Nat.zero_le _,rfl,rfl,Below.refl _ _⟩
    case round =>
      obtain ⟨j,hj,rfl,rfl,hb⟩:=hrel
      by_cases hlt:j < l.length
      · obtain ⟨u,hat,hrl⟩:=H4.out j (by rw [HZl.out];exact hlt) hlt
        have hfew:=HF.out l[j] (List.getElem_mem hlt)
        have hnx:nxG nxNd k (l.take (j+1))=nxNd (nxG nxNd k (l.take j)) l[j]:=nxG_take hlt k
        have hle:nxG nxNd k (l.take (j+1))<=40000000:=Nat.le_trans (nxG_le nxNd_ge k l (j+1)) Hk.out
        have hK0:0 < nxG nxNd k (l.take j):=Nat.lt_of_lt_of_le hk0 (nxG_ge nxNd_ge k _)
        rw [hnx] at hle
        have Hnx:=hide hnx
        clear hnx
        generalize nxG nxNd k (l.take j)=K at Hnx hle hK0 hat hrl ⊢
        generalize l[j]=p at hat hrl hfew hle Hnx
        have Hb:=hide hb
        clear hb
        have hna:=hfew.na
        have hfa:=hfew.fa
        have hns:=hfew.ns
        have hnt:=hfew.nt
        have hft:=hfew.ft
        have hnw:=hfew.nw
        have hnx:=hfew.nx
        have hnh:=hfew.nh
        have hnv:=hfew.nv
        have hng:=hfew.ng
        have hnd:=hfew.nd
        have hnp:=hfew.np
        have hnq:=hfew.nq
        have hfq:=hfew.fq
        obtain ⟨nm,ep,be,la,st,tt,rd,vd,hr,hb,hw,tr,tw,th,ld,vo,go,dn,pl,ps⟩:=p
        obtain ⟨ya,ys,yt,yw,yx,yh,yv,yg,yd,yp,yq⟩:=u
        obtain ⟨hra,hrs,hrt,hrw,hrx,hrh,hrv,hrg,hrd,hrp,hrq⟩:=hrl
        clear hfew
        (try simp only at *)
        obtain ⟨ada,cpa,eb⟩:=hra.shape
        subst eb
        have hra:RdA w (.slice ada (mkAs (K+1+1+1) la).length cpa) (mkAs (K+1+1+1) la):=hra
        obtain ⟨na,hma⟩:∃ x,(mkAs (K+1+1+1) la).length=x:=⟨_,rfl⟩
        obtain ⟨ads,cps,eb⟩:=hrs.shape
        subst eb
        have hrs:RdV w (.slice ads (mkV (nxs (K+1+1+1) la) st.length).length cps) (mkV (nxs (K+1+1+1) la) st.length):=hrs
        obtain ⟨ns,hms⟩:∃ x,(mkV (nxs (K+1+1+1) la) st.length).length=x:=⟨_,rfl⟩
        obtain ⟨adt,cpt,eb⟩:=hrt.shape
        subst eb
        have hrt:RdKs w (.slice adt (mkLk (nxs (K+1+1+1) la+2 * st.length) tt).length cpt) (mkLk (nxs (K+1+1+1) la+2 * st.length) tt):=hrt
        obtain ⟨nt,hmt⟩:∃ x,(mkLk (nxs (K+1+1+1) la+2 * st.length) tt).length=x:=⟨_,rfl⟩
        obtain ⟨adw,cpw,eb⟩:=hrw.shape
        subst eb
        have hrw:RdS w (.slice adw (mkS (nxs (K+1+1+1) la+2 * st.length+totM tt+1+1+1+1) hw.length).length cpw) (mkS (nxs (K+1+1+1) la+2 * st.length+totM tt+1+1+1+1) hw.length):=hrw
        obtain ⟨nw,hmw⟩:∃ x,(mkS (nxs (K+1+1+1) la+2 * st.length+totM tt+1+1+1+1) hw.length).length=x:=⟨_,rfl⟩
        obtain ⟨adx,cpx,eb⟩:=hrx.shape
        subst eb
        have hrx:RdS w (.slice adx (mkS (nxs (K+1+1+1) la+2 * st.length+totM tt+1+1+1+1+hw.length+1) tw.length).length cpx) (mkS (nxs (K+1+1+1) la+2 * st.length+totM tt+1+1+1+1+hw.length+1) tw.length):=hrx
        obtain ⟨nx,hmx⟩:∃ x,(mkS (nxs (K+1+1+1) la+2 * st.length+totM tt+1+1+1+1+hw.length+1) tw.length).length=x:=⟨_,rfl⟩
        obtain ⟨adh,cph,eb⟩:=hrh.shape
        subst eb
        have hrh:RdI w (.slice adh (mkI (nxs (K+1+1+1) la+2 * st.length+totM tt+1+1+1+1+hw.length+1+tw.length) th.length).length cph) (mkI (nxs (K+1+1+1) la+2 * st.length+totM tt+1+1+1+1+hw.length+1+tw.length) th.length):=hrh
        obtain ⟨nh,hmh⟩:∃ x,(mkI (nxs (K+1+1+1) la+2 * st.length+totM tt+1+1+1+1+hw.length+1+tw.length) th.length).length=x:=⟨_,rfl⟩
        obtain ⟨adv,cpv,eb⟩:=hrv.shape
        subst eb
        have hrv:RdR w (.slice adv (mkR (nxs (K+1+1+1) la+2 * st.length+totM tt+1+1+1+1+hw.length+1+tw.length+th.length+1) vo.length).length cpv) (mkR (nxs (K+1+1+1) la+2 * st.length+totM tt+1+1+1+1+hw.length+1+tw.length+th.length+1) vo.length):=hrv
        obtain ⟨nv,hmv⟩:∃ x,(mkR (nxs (K+1+1+1) la+2 * st.length+totM tt+1+1+1+1+hw.length+1+tw.length+th.length+1) vo.length).length=x:=⟨_,rfl⟩
        obtain ⟨adg,cpg,eb⟩:=hrg.shape
        subst eb
        have hrg:RdR w (.slice adg (mkR (nxs (K+1+1+1) la+2 * st.length+totM tt+1+1+1+1+hw.length+1+tw.length+th.length+1+3 * vo.length) go.length).length cpg) (mkR (nxs (K+1+1+1) la+2 * st.length+totM tt+1+1+1+1+hw.length+1+tw.length+th.length+1+3 * vo.length) go.length):=hrg
        obtain ⟨ng,hmg⟩:∃ x,(mkR (nxs (K+1+1+1) la+2 * st.length+totM tt+1+1+1+1+hw.length+1+tw.length+th.length+1+3 * vo.length) go.length).length=x:=⟨_,rfl⟩
        obtain ⟨add,cpd,eb⟩:=hrd.shape
        subst eb
        have hrd:RdI w (.slice add (mkI (nxs (K+1+1+1) la+2 * st.length+totM tt+1+1+1+1+hw.length+1+tw.length+th.length+1+3 * vo.length+3 * go.length) dn.length).length cpd) (mkI (nxs (K+1+1+1) la+2 * st.length+totM tt+1+1+1+1+hw.length+1+tw.length+th.length+1+3 * vo.length+3 * go.length) dn.length):=hrd
        obtain ⟨nd,hmd⟩:∃ x,(mkI (nxs (K+1+1+1) la+2 * st.length+totM tt+1+1+1+1+hw.length+1+tw.length+th.length+1+3 * vo.length+3 * go.length) dn.length).length=x:=⟨_,rfl⟩
        obtain ⟨adp,cpp,eb⟩:=hrp.shape
        subst eb
        have hrp:RdT w (.slice adp (mkT (nxs (K+1+1+1) la+2 * st.length+totM tt+1+1+1+1+hw.length+1+tw.length+th.length+1+3 * vo.length+3 * go.length+dn.length) pl.length).length cpp) (mkT (nxs (K+1+1+1) la+2 * st.length+totM tt+1+1+1+1+hw.length+1+tw.length+th.length+1+3 * vo.length+3 * go.length+dn.length) pl.length):=hrp
        obtain ⟨np,hmp⟩:∃ x,(mkT (nxs (K+1+1+1) la+2 * st.length+totM tt+1+1+1+1+hw.length+1+tw.length+th.length+1+3 * vo.length+3 * go.length+dn.length) pl.length).length=x:=⟨_,rfl⟩
        obtain ⟨adq,cpq,eb⟩:=hrq.shape
        subst eb
        have hrq:RdPs w (.slice adq (mkG mkPf nxPf (nxs (K+1+1+1) la+2 * st.length+totM tt+1+1+1+1+hw.length+1+tw.length+th.length+1+3 * vo.length+3 * go.length+dn.length+5 * pl.length) ps).length cpq) (mkG mkPf nxPf (nxs (K+1+1+1) la+2 * st.length+totM tt+1+1+1+1+hw.length+1+tw.length+th.length+1+3 * vo.length+3 * go.length+dn.length+5 * pl.length) ps):=hrq
        obtain ⟨nq,hmq⟩:∃ x,(mkG mkPf nxPf (nxs (K+1+1+1) la+2 * st.length+totM tt+1+1+1+1+hw.length+1+tw.length+th.length+1+3 * vo.length+3 * go.length+dn.length+5 * pl.length) ps).length=x:=⟨_,rfl⟩
        change nxG nxPf (nxs (K+1+1+1) la+2 * st.length+totM tt+1+1+1+1+hw.length+1+tw.length+th.length+1+3 * vo.length+3 * go.length+dn.length+5 * pl.length) ps<=40000000 at hle
        have hli:(j:Int) < (l.length:Int):=by omega
        have hge3:=nxs_ge (K+1+1+1) la
        obtain ⟨K1,hK1⟩:∃ x:Nat,nxs (K+1+1+1) la=x:=⟨_,rfl⟩
        obtain ⟨K2,hK2⟩:∃ x:Nat,K1+2 * st.length=x:=⟨_,rfl⟩
        obtain ⟨K3,hK3⟩:∃ x:Nat,K2+totM tt=x:=⟨_,rfl⟩
        obtain ⟨K4,hK4⟩:∃ x:Nat,K3+1+1+1+1+hw.length=x:=⟨_,rfl⟩
        obtain ⟨K5,hK5⟩:∃ x:Nat,K4+1+tw.length=x:=⟨_,rfl⟩
        obtain ⟨K6,hK6⟩:∃ x:Nat,K5+th.length=x:=⟨_,rfl⟩
        obtain ⟨K7,hK7⟩:∃ x:Nat,K6+1+3 * vo.length=x:=⟨_,rfl⟩
        obtain ⟨K8,hK8⟩:∃ x:Nat,K7+3 * go.length=x:=⟨_,rfl⟩
        obtain ⟨K9,hK9⟩:∃ x:Nat,K8+dn.length=x:=⟨_,rfl⟩
        obtain ⟨K10,hK10⟩:∃ x:Nat,K9+5 * pl.length=x:=⟨_,rfl⟩
        have hge19:=nxG_ge nxPf_ge (K10) ps
        obtain ⟨K11,hK11⟩:∃ x:Nat,nxG nxPf (K10) ps=x:=⟨_,rfl⟩
        rw [hK1,hK2,hK3,hK4,hK5,hK6,hK7,hK8,hK9,hK10,hK11] at hle
        have y0:K=K:=by rfl
        have y1:K+1=K+1:=by rfl
        have z1:((K+1:Nat):Int)=(K:Int)+1:=by rw [y1] <;> omega
        have y2:K+1+1=K+1+1:=by rfl
        have z2:((K+1+1:Nat):Int)=(K:Int)+1+1:=by rw [y2] <;> omega
        have y3:K+1+1+1=K+1+1+1:=by rfl
        have y4:nxs (K+1+1+1) la=K1:=by rw [hK1]
        have y5:nxs (K+1+1+1) la+2 * st.length=K2:=by rw [hK1,hK2]
        have y6:nxs (K+1+1+1) la+2 * st.length+totM tt=K3:=by rw [hK1,hK2,hK3]
        have z6:((nxs (K+1+1+1) la+2 * st.length+totM tt:Nat):Int)=((K3:Nat):Int):=by rw [y6] <;> omega
        have y7:nxs (K+1+1+1) la+2 * st.length+totM tt+1=K3+1:=by rw [hK1,hK2,hK3]
        have z7:((nxs (K+1+1+1) la+2 * st.length+totM tt+1:Nat):Int)=(K3:Int)+1:=by rw [y7] <;> omega
        have y8:nxs (K+1+1+1) la+2 * st.length+totM tt+1+1=K3+1+1:=by rw [hK1,hK2,hK3]
        have z8:((nxs (K+1+1+1) la+2 * st.length+totM tt+1+1:Nat):Int)=(K3:Int)+1+1:=by rw [y8] <;> omega
        have y9:nxs (K+1+1+1) la+2 * st.length+totM tt+1+1+1=K3+1+1+1:=by rw [hK1,hK2,hK3]
        have z9:((nxs (K+1+1+1) la+2 * st.length+totM tt+1+1+1:Nat):Int)=(K3:Int)+1+1+1:=by rw [y9] <;> omega
        have y10:nxs (K+1+1+1) la+2 * st.length+totM tt+1+1+1+1=K3+1+1+1+1:=by rw [hK1,hK2,hK3]
        have y11:nxs (K+1+1+1) la+2 * st.length+totM tt+1+1+1+1+hw.length=K4:=by rw [hK1,hK2,hK3,hK4]
        have z11:((nxs (K+1+1+1) la+2 * st.length+totM tt+1+1+1+1+hw.length:Nat):Int)=((K4:Nat):Int):=by rw [y11] <;> omega
        have y12:nxs (K+1+1+1) la+2 * st.length+totM tt+1+1+1+1+hw.length+1=K4+1:=by rw [hK1,hK2,hK3,hK4]
        have y13:nxs (K+1+1+1) la+2 * st.length+totM tt+1+1+1+1+hw.length+1+tw.length=K5:=by rw [hK1,hK2,hK3,hK4,hK5]
        have y14:nxs (K+1+1+1) la+2 * st.length+totM tt+1+1+1+1+hw.length+1+tw.length+th.length=K6:=by rw [hK1,hK2,hK3,hK4,hK5,hK6]
        have z14:((nxs (K+1+1+1) la+2 * st.length+totM tt+1+1+1+1+hw.length+1+tw.length+th.length:Nat):Int)=((K6:Nat):Int):=by rw [y14] <;> omega
        have y15:nxs (K+1+1+1) la+2 * st.length+totM tt+1+1+1+1+hw.length+1+tw.length+th.length+1=K6+1:=by rw [hK1,hK2,hK3,hK4,hK5,hK6]
        have y16:nxs (K+1+1+1) la+2 * st.length+totM tt+1+1+1+1+hw.length+1+tw.length+th.length+1+3 * vo.length=K7:=by rw [hK1,hK2,hK3,hK4,hK5,hK6,hK7]
        have y17:nxs (K+1+1+1) la+2 * st.length+totM tt+1+1+1+1+hw.length+1+tw.length+th.length+1+3 * vo.length+3 * go.length=K8:=by rw [hK1,hK2,hK3,hK4,hK5,hK6,hK7,hK8]
        have y18:nxs (K+1+1+1) la+2 * st.length+totM tt+1+1+1+1+hw.length+1+tw.length+th.length+1+3 * vo.length+3 * go.length+dn.length=K9:=by rw [hK1,hK2,hK3,hK4,hK5,hK6,hK7,hK8,hK9]
        have y19:nxs (K+1+1+1) la+2 * st.length+totM tt+1+1+1+1+hw.length+1+tw.length+th.length+1+3 * vo.length+3 * go.length+dn.length+5 * pl.length=K10:=by rw [hK1,hK2,hK3,hK4,hK5,hK6,hK7,hK8,hK9,hK10]
        have HC:=hide (fun V (hV:Below w.heap.size w V)=>(show V.cell? ⟨b,off+j * 20,none⟩=some (.string (mtx (K)))/\V.cell? ⟨b,off+j * 20+1,none⟩=some (.int .i64 ((K:Int)+1))/\V.cell? ⟨b,off+j * 20+2,none⟩=some (.int .i64 ((K:Int)+1+1))/\V.cell? ⟨b,off+j * 20+3,none⟩=some (.slice ada na cpa)/\V.cell? ⟨b,off+j * 20+4,none⟩=some (.slice ads ns cps)/\V.cell? ⟨b,off+j * 20+5,none⟩=some (.slice adt nt cpt)/\V.cell? ⟨b,off+j * 20+6,none⟩=some (.int .i64 (((K3:Nat):Int)))/\V.cell? ⟨b,off+j * 20+7,none⟩=some (.int .i64 ((K3:Int)+1))/\V.cell? ⟨b,off+j * 20+8,none⟩=some (.int .i64 ((K3:Int)+1+1))/\V.cell? ⟨b,off+j * 20+9,none⟩=some (.int .i64 ((K3:Int)+1+1+1))/\V.cell? ⟨b,off+j * 20+10,none⟩=some (.slice adw nw cpw)/\V.cell? ⟨b,off+j * 20+11,none⟩=some (.int .i64 (((K4:Nat):Int)))/\V.cell? ⟨b,off+j * 20+12,none⟩=some (.slice adx nx cpx)/\V.cell? ⟨b,off+j * 20+13,none⟩=some (.slice adh nh cph)/\V.cell? ⟨b,off+j * 20+14,none⟩=some (.int .i64 (((K6:Nat):Int)))/\V.cell? ⟨b,off+j * 20+15,none⟩=some (.slice adv nv cpv)/\V.cell? ⟨b,off+j * 20+16,none⟩=some (.slice adg ng cpg)/\V.cell? ⟨b,off+j * 20+17,none⟩=some (.slice add nd cpd)/\V.cell? ⟨b,off+j * 20+18,none⟩=some (.slice adp np cpp)/\V.cell? ⟨b,off+j * 20+19,none⟩=some (.slice adq nq cpq) from by
          have r:=range_below hat hV h3
          have r0:=r 0 _ rfl
          rw [Nat.add_zero] at r0
          have r1:=r 1 _ rfl
          have r2:=r 2 _ rfl
          have r3:=r 3 _ rfl
          have r4:=r 4 _ rfl
          have r5:=r 5 _ rfl
          have r6:=r 6 _ rfl
          have r7:=r 7 _ rfl
          have r8:=r 8 _ rfl
          have r9:=r 9 _ rfl
          have r10:=r 10 _ rfl
          have r11:=r 11 _ rfl
          have r12:=r 12 _ rfl
          have r13:=r 13 _ rfl
          have r14:=r 14 _ rfl
          have r15:=r 15 _ rfl
          have r16:=r 16 _ rfl
          have r17:=r 17 _ rfl
          have r18:=r 18 _ rfl
          have r19:=r 19 _ rfl
          exact ⟨by rw [<- y0];exact r0,by rw [<- z1];exact r1,by rw [<- z2];exact r2,by rw [<- hma];exact r3,by rw [<- hms];exact r4,by rw [<- hmt];exact r5,by rw [<- z6];exact r6,by rw [<- z7];exact r7,by rw [<- z8];exact r8,by rw [<- z9];exact r9,by rw [<- hmw];exact r10,by rw [<- z11];exact r11,by rw [<- hmx];exact r12,by rw [<- hmh];exact r13,by rw [<- z14];exact r14,by rw [<- hmv];exact r15,by rw [<- hmg];exact r16,by rw [<- hmd];exact r17,by rw [<- hmp];exact r18,by rw [<- hmq];exact r19⟩))
        rw [hma] at hra
        rw [hms] at hrs
        rw [y4] at hrs
        rw [hmt] at hrt
        rw [y5] at hrt
        rw [hmw] at hrw
        rw [y10] at hrw
        rw [hmx] at hrx
        rw [y12] at hrx
        rw [hmh] at hrh
        rw [y13] at hrh
        rw [hmv] at hrv
        rw [y15] at hrv
        rw [hmg] at hrg
        rw [y16] at hrg
        rw [hmd] at hrd
        rw [y17] at hrd
        rw [hmp] at hrp
        rw [y18] at hrp
        rw [hmq] at hrq
        rw [y19] at hrq
        have Hn2:=hide (show nxG nxNd k (l.take (j+1))=K11 from by rw [Hnx.out];exact (show nxG nxPf (nxs (K+1+1+1) la+2 * st.length+totM tt+1+1+1+1+hw.length+1+tw.length+th.length+1+3 * vo.length+3 * go.length+dn.length+5 * pl.length) ps=K11 from by rw [hK1,hK2,hK3,hK4,hK5,hK6,hK7,hK8,hK9,hK10,hK11]))
        have hb_K:K<=40000000:=by omega
        have hb_K1:K1<=40000000:=by omega
        have hb_K2:K2<=40000000:=by omega
        have hb_K3:K3<=40000000:=by omega
        have hb_K4:K4<=40000000:=by omega
        have hb_K5:K5<=40000000:=by omega
        have hb_K6:K6<=40000000:=by omega
        have hb_K7:K7<=40000000:=by omega
        have hb_K8:K8<=40000000:=by omega
        have hb_K9:K9<=40000000:=by omega
        have hb_K10:K10<=40000000:=by omega
        have hb_K11:K11<=40000000:=by omega
        have hp_K1:0 < K1:=by omega
        have hp_K2:0 < K2:=by omega
        have hp_K3:0 < K3:=by omega
        have hp_K4:0 < K4:=by omega
        have hp_K5:0 < K5:=by omega
        have hp_K6:0 < K6:=by omega
        have hp_K7:0 < K7:=by omega
        have hp_K8:0 < K8:=by omega
        have hp_K9:0 < K9:=by omega
        have hp_K10:0 < K10:=by omega
        have hp_K11:0 < K11:=by omega
        have HA1:=hide (fun V (hV:Below w.heap.size w V)=>heldAcctS_any (.slice ada na cpa) la (K+1+1+1) V (hra.below hV (Nat.le_refl _)) (by omega) (fun a ha=>by have:=hfa a ha;omega) (by omega) (by omega))
        rw [hK1,show ((K+1+1+1:Nat):Int)=(K:Int)+1+1+1 from by omega] at HA1
        have HA2:=hide (fun V (hV:Below w.heap.size w V)=>heldValS_any (.slice ads ns cps) (K1) st.length V (hrs.below hV (Nat.le_refl _)) (by omega) (by omega) (by omega))
        rw [hK2] at HA2
        have HA3:=hide (fun V (hV:Below w.heap.size w V)=>heldBlockS_any (.slice adt nt cpt) tt (K2) V (hrt.below hV (Nat.le_refl _)) (by omega) (fun b hb=>by have f:=hft b hb;exact ⟨f.q,f.w,f.h,f.t,f.n⟩) (by omega) (by omega))
        rw [hK3] at HA3
        have HA4:=hide (fun V (hV:Below w.heap.size w V)=>heldStringS_any (.slice adw nw cpw) (K3+1+1+1+1) hw.length V (hrw.below hV (Nat.le_refl _)) (by omega) (by omega) (by omega))
        rw [hK4,show ((K3+1+1+1+1:Nat):Int)=(K3:Int)+1+1+1+1 from by omega] at HA4
        have HA5:=hide (fun V (hV:Below w.heap.size w V)=>heldStringS_any (.slice adx nx cpx) (K4+1) tw.length V (hrx.below hV (Nat.le_refl _)) (by omega) (by omega) (by omega))
        rw [hK5,show ((K4+1:Nat):Int)=(K4:Int)+1 from by omega] at HA5
        have HA6:=hide (fun V (hV:Below w.heap.size w V)=>heldIntS_any (.slice adh nh cph) (K5) th.length V (hrh.below hV (Nat.le_refl _)) (by omega) (by omega) (by omega))
        rw [hK6] at HA6
        have HA7:=hide (fun V (hV:Below w.heap.size w V)=>heldVoteS_any (.slice adv nv cpv) (K6+1) vo.length V (hrv.below hV (Nat.le_refl _)) (by omega) (by omega) (by omega))
        rw [hK7,show ((K6+1:Nat):Int)=(K6:Int)+1 from by omega] at HA7
        have HA8:=hide (fun V (hV:Below w.heap.size w V)=>heldGoneS_any (.slice adg ng cpg) (K7) go.length V (hrg.below hV (Nat.le_refl _)) (by omega) (by omega) (by omega))
        rw [hK8] at HA8
        have HA9:=hide (fun V (hV:Below w.heap.size w V)=>heldIntS_any (.slice add nd cpd) (K8) dn.length V (hrd.below hV (Nat.le_refl _)) (by omega) (by omega) (by omega))
        rw [hK9] at HA9
        have HA10:=hide (fun V (hV:Below w.heap.size w V)=>heldTxS_any (.slice adp np cpp) (K9) pl.length V (hrp.below hV (Nat.le_refl _)) (by omega) (by omega) (by omega))
        rw [hK10] at HA10
        have HA11:=hide (fun V (hV:Below w.heap.size w V)=>heldProofS_any (.slice adq nq cpq) ps (K10) V (hrq.below hV (Nat.le_refl _)) hnq hfq (by omega) (by omega))
        rw [hK11] at HA11
        clear hat hra hma hrs hms hrt hmt hrw hmw hrx hmx hrh hmh hrv hmv hrg hmg hrd hmd hrp hmp hrq hmq hle Hnx z1 z2 z6 z7 z8 z9 z11 z14 y0 y1 y2 y3 y4 y5 y6 y7 y8 y9 y10 y11 y12 y13 y14 y15 y16 y17 y18 y19 hge3 hge19
        clear hK1 hK2 hK3 hK4 hK5 hK6 hK7 hK8 hK9 hK10 hK11
        obtain ⟨c0,c1,c2,c3,c4,c5,c6,c7,c8,c9,c10,c11,c12,c13,c14,c15,c16,c17,c18,c19⟩:=HC.out wr Hb.out
        have Hm:=hide (fun V=>markText_any (K) V (by omega) (by omega))
        have hbw:b < wr.heap.size:=by have:=Hb.out.size;omega
        have HC0:=hide c0
        go_wp2_with fail
        go_cut [19] from 6 to 200 (fun bv wc=>bv=.bool false/\Below w.heap.size w wc)
        case first =>
          go_region_with (go_at_call 35;refine (Hm.out _).mono ?_;rintro e wt ⟨rfl,hbt⟩;have hct:=(hbt.cell (p:=⟨b,off+j * 20,none⟩) (by exact hbw)).trans (by exact HC0.out))
          all_goals
            rename Go.RowKit.Below _ _ _=>hbt
            go_wp2_with fail
            go_meet
            case rel=>exact ⟨by simp,Hb.out.drew.trans (hbt.mono Hb.out.size)⟩
        obtain ⟨w1,rfl⟩:∃ x,x=wc:=⟨_,rfl⟩
        obtain ⟨rfl,hbc⟩:=hcut
        have Hb1:=hide hbc
        clear Hm hbw HC0 hbc Hb c0 c1 c2 c3 c4 c5 c6 c7 c8 c9 c10 c11 c12 c13 c14 c15 c16 c17 c18 c19
        obtain ⟨c0,c1,c2,c3,c4,c5,c6,c7,c8,c9,c10,c11,c12,c13,c14,c15,c16,c17,c18,c19⟩:=HC.out w1 Hb1.out
        have HX:=hide (HA1.out w1 Hb1.out)
        clear HA1
        go_wp2_with fail
        refine HX.out.mono ?_
        rintro e w2 ⟨rfl,hb2⟩
        have Hb2:=hide (Hb1.out.trans (hb2.mono Hb1.out.size))
        clear HX hb2 Hb1 c0 c1 c2 c3 c4 c5 c6 c7 c8 c9 c10 c11 c12 c13 c14 c15 c16 c17 c18 c19
        obtain ⟨c0,c1,c2,c3,c4,c5,c6,c7,c8,c9,c10,c11,c12,c13,c14,c15,c16,c17,c18,c19⟩:=HC.out w2 Hb2.out
        have HX:=hide (HA2.out w2 Hb2.out)
        clear HA2
        go_wp2_with fail
        refine HX.out.mono ?_
        rintro e w3 ⟨rfl,hb3⟩
        have Hb3:=hide (Hb2.out.trans (hb3.mono Hb2.out.size))
        clear HX hb3 Hb2 c0 c1 c2 c3 c4 c5 c6 c7 c8 c9 c10 c11 c12 c13 c14 c15 c16 c17 c18 c19
        obtain ⟨c0,c1,c2,c3,c4,c5,c6,c7,c8,c9,c10,c11,c12,c13,c14,c15,c16,c17,c18,c19⟩:=HC.out w3 Hb3.out
        have HX:=hide (HA3.out w3 Hb3.out)
        clear HA3
        go_wp2_with fail
        refine HX.out.mono ?_
        rintro e w4 ⟨rfl,hb4⟩
        have Hb4:=hide (Hb3.out.trans (hb4.mono Hb3.out.size))
        clear HX hb4 Hb3 c0 c1 c2 c3 c4 c5 c6 c7 c8 c9 c10 c11 c12 c13 c14 c15 c16 c17 c18 c19
        obtain ⟨c0,c1,c2,c3,c4,c5,c6,c7,c8,c9,c10,c11,c12,c13,c14,c15,c16,c17,c18,c19⟩:=HC.out w4 Hb4.out
        have HX:=hide (HA4.out w4 Hb4.out)
        clear HA4
        go_wp2_with fail
        refine HX.out.mono ?_
        rintro e w5 ⟨rfl,hb5⟩
        have Hb5:=hide (Hb4.out.trans (hb5.mono Hb4.out.size))
        clear HX hb5 Hb4 c0 c1 c2 c3 c4 c5 c6 c7 c8 c9 c10 c11 c12 c13 c14 c15 c16 c17 c18 c19
        obtain ⟨c0,c1,c2,c3,c4,c5,c6,c7,c8,c9,c10,c11,c12,c13,c14,c15,c16,c17,c18,c19⟩:=HC.out w5 Hb5.out
        have HX:=hide (HA5.out w5 Hb5.out)
        clear HA5
        go_wp2_with fail
        refine HX.out.mono ?_
        rintro e w6 ⟨rfl,hb6⟩
        have Hb6:=hide (Hb5.out.trans (hb6.mono Hb5.out.size))
        clear HX hb6 Hb5 c0 c1 c2 c3 c4 c5 c6 c7 c8 c9 c10 c11 c12 c13 c14 c15 c16 c17 c18 c19
        obtain ⟨c0,c1,c2,c3,c4,c5,c6,c7,c8,c9,c10,c11,c12,c13,c14,c15,c16,c17,c18,c19⟩:=HC.out w6 Hb6.out
        have HX:=hide (HA6.out w6 Hb6.out)
        clear HA6
        go_wp2_with fail
        refine HX.out.mono ?_
        rintro e w7 ⟨rfl,hb7⟩
        have Hb7:=hide (Hb6.out.trans (hb7.mono Hb6.out.size))
        clear HX hb7 Hb6 c0 c1 c2 c3 c4 c5 c6 c7 c8 c9 c10 c11 c12 c13 c14 c15 c16 c17 c18 c19
        obtain ⟨c0,c1,c2,c3,c4,c5,c6,c7,c8,c9,c10,c11,c12,c13,c14,c15,c16,c17,c18,c19⟩:=HC.out w7 Hb7.out
        have HX:=hide (HA7.out w7 Hb7.out)
        clear HA7
        go_wp2_with fail
        refine HX.out.mono ?_
        rintro e w8 ⟨rfl,hb8⟩
        have Hb8:=hide (Hb7.out.trans (hb8.mono Hb7.out.size))
        clear HX hb8 Hb7 c0 c1 c2 c3 c4 c5 c6 c7 c8 c9 c10 c11 c12 c13 c14 c15 c16 c17 c18 c19
        obtain ⟨c0,c1,c2,c3,c4,c5,c6,c7,c8,c9,c10,c11,c12,c13,c14,c15,c16,c17,c18,c19⟩:=HC.out w8 Hb8.out
        have HX:=hide (HA8.out w8 Hb8.out)
        clear HA8
        go_wp2_with fail
        refine HX.out.mono ?_
        rintro e w9 ⟨rfl,hb9⟩
        have Hb9:=hide (Hb8.out.trans (hb9.mono Hb8.out.size))
        clear HX hb9 Hb8 c0 c1 c2 c3 c4 c5 c6 c7 c8 c9 c10 c11 c12 c13 c14 c15 c16 c17 c18 c19
        obtain ⟨c0,c1,c2,c3,c4,c5,c6,c7,c8,c9,c10,c11,c12,c13,c14,c15,c16,c17,c18,c19⟩:=HC.out w9 Hb9.out
        have HX:=hide (HA9.out w9 Hb9.out)
        clear HA9
        go_wp2_with fail
        refine HX.out.mono ?_
        rintro e w10 ⟨rfl,hb10⟩
        have Hb10:=hide (Hb9.out.trans (hb10.mono Hb9.out.size))
        clear HX hb10 Hb9 c0 c1 c2 c3 c4 c5 c6 c7 c8 c9 c10 c11 c12 c13 c14 c15 c16 c17 c18 c19
        obtain ⟨c0,c1,c2,c3,c4,c5,c6,c7,c8,c9,c10,c11,c12,c13,c14,c15,c16,c17,c18,c19⟩:=HC.out w10 Hb10.out
        have HX:=hide (HA10.out w10 Hb10.out)
        clear HA10
        go_wp2_with fail
        refine HX.out.mono ?_
        rintro e w11 ⟨rfl,hb11⟩
        have Hb11:=hide (Hb10.out.trans (hb11.mono Hb10.out.size))
        clear HX hb11 Hb10 c0 c1 c2 c3 c4 c5 c6 c7 c8 c9 c10 c11 c12 c13 c14 c15 c16 c17 c18 c19
        obtain ⟨c0,c1,c2,c3,c4,c5,c6,c7,c8,c9,c10,c11,c12,c13,c14,c15,c16,c17,c18,c19⟩:=HC.out w11 Hb11.out
        have HX:=hide (HA11.out w11 Hb11.out)
        clear HA11
        go_wp2_with fail
        refine HX.out.mono ?_
        rintro e w12 ⟨rfl,hb12⟩
        have Hb12:=hide (Hb11.out.trans (hb12.mono Hb11.out.size))
        clear HX hb12 Hb11 c0 c1 c2 c3 c4 c5 c6 c7 c8 c9 c10 c11 c12 c13 c14 c15 c16 c17 c18 c19
        go_wp2
        go_roundw
        case rel=>exact ⟨j+1,by omega,by go_num,(by rw [Hn2.out];try go_num),Hb12.out⟩
        case measure=>simp [intOf];omega
      · have e:j=l.length:=by omega
        have HT:Hid (nxG nxNd k (l.take j)=nxG nxNd k l):=hide (by rw [e,List.take_length])
        clear e
        generalize nxG nxNd k (l.take j)=K at HT
        go_wp2
        go_ret
        exact ⟨ret_int (by rw [HT.out]),hb⟩
end Go.Proofs.YthidkbhiikdokaaGreat
namespace Go.Proofs.YthidkbhiikdokaaGreat
open Go.RowKit Go.Sort
set_option linter.unusedVariables false
theorem heldWorld_own (p:Wd) (u:Wv) (K:Nat) (w:World) (hr:RdWd w (mlWd K p) u) (hf:FewWd p) (hle:nlWd K p<=40000000) (hK0:0 < K) :
    Calls Tryz.prog 16 #[wdV p u,.int .i64 (K:Int)] w fun e w'=>e=.returned (.int .i64 ((nlWd K p:Nat):Int))/\Below w.heap.size w w':=by
  have hna:=hf.na
  have hfa:=hf.fa
  have hnf:=hf.nf
  have hnn:=hf.nn
  have hfn:=hf.fn
  have hnb:=hf.nb
  have hfb:=hf.fb
  have hng:=hf.ns
  have hfg:=hf.fs
  have hnm:=hf.nm
  have hfm:=hf.fm
  obtain ⟨hra,hrf,hrn,hrb,hrg,hrm⟩:=hr
  obtain ⟨ep,la,fo,ns,bs,sg,ms⟩:=p
  obtain ⟨ya,yf,yn,yb,yg,ym⟩:=u
  clear hf
  simp only at *
  have HT:=hide (show nlWd K ⟨ep,la,fo,ns,bs,sg,ms⟩=nxG nxMg (nxG nxSn (nxG nxNd (nxs (K) la+fo.length) ns+totM bs) sg) ms from rfl)
  rw [HT.out] at hle ⊢
  clear HT
  obtain ⟨ada,cpa,eb⟩:=hra.shape
  subst eb
  have hra:RdA w (.slice ada (mkAs (K) la).length cpa) (mkAs (K) la):=hra
  obtain ⟨na,hma⟩:∃ x,(mkAs (K) la).length=x:=⟨_,rfl⟩
  rw [hma] at hra
  have hva:(Value.slice ada (mlWd K ⟨ep,la,fo,ns,bs,sg,ms⟩).la.length cpa)=.slice ada na cpa:=by rw [<- hma];rfl
  obtain ⟨adf,cpf,eb⟩:=hrf.shape
  subst eb
  have hrf:RdS w (.slice adf (mkS (nxs (K) la) fo.length).length cpf) (mkS (nxs (K) la) fo.length):=hrf
  obtain ⟨nf,hmf⟩:∃ x,(mkS (nxs (K) la) fo.length).length=x:=⟨_,rfl⟩
  rw [hmf] at hrf
  have hvf:(Value.slice adf (mlWd K ⟨ep,la,fo,ns,bs,sg,ms⟩).fo.length cpf)=.slice adf nf cpf:=by rw [<- hmf];rfl
  obtain ⟨adn,cpn,eb⟩:=hrn.shape
  subst eb
  have hrn:RdNs w (.slice adn (mkG mkNd nxNd (nxs (K) la+fo.length) ns).length cpn) (mkG mkNd nxNd (nxs (K) la+fo.length) ns):=hrn
  obtain ⟨nn,hmn⟩:∃ x,(mkG mkNd nxNd (nxs (K) la+fo.length) ns).length=x:=⟨_,rfl⟩
  rw [hmn] at hrn
  have hvn:(Value.slice adn (mlWd K ⟨ep,la,fo,ns,bs,sg,ms⟩).ns.length cpn)=.slice adn nn cpn:=by rw [<- hmn];rfl
  obtain ⟨adb,cpb,eb⟩:=hrb.shape
  subst eb
  have hrb:RdKs w (.slice adb (mkLk (nxG nxNd (nxs (K) la+fo.length) ns) bs).length cpb) (mkLk (nxG nxNd (nxs (K) la+fo.length) ns) bs):=hrb
  obtain ⟨nb,hmb⟩:∃ x,(mkLk (nxG nxNd (nxs (K) la+fo.length) ns) bs).length=x:=⟨_,rfl⟩
  rw [hmb] at hrb
  have hvb:(Value.slice adb (mlWd K ⟨ep,la,fo,ns,bs,sg,ms⟩).bs.length cpb)=.slice adb nb cpb:=by rw [<- hmb];rfl
  obtain ⟨adg,cpg,eb⟩:=hrg.shape
  subst eb
  have hrg:RdSs w (.slice adg (mkG mkSn nxSn (nxG nxNd (nxs (K) la+fo.length) ns+totM bs) sg).length cpg) (mkG mkSn nxSn (nxG nxNd (nxs (K) la+fo.length) ns+totM bs) sg):=hrg
  obtain ⟨ng,hmg⟩:∃ x,(mkG mkSn nxSn (nxG nxNd (nxs (K) la+fo.length) ns+totM bs) sg).length=x:=⟨_,rfl⟩
  rw [hmg] at hrg
  have hvg:(Value.slice adg (mlWd K ⟨ep,la,fo,ns,bs,sg,ms⟩).sg.length cpg)=.slice adg ng cpg:=by rw [<- hmg];rfl
  obtain ⟨adm,cpm,eb⟩:=hrm.shape
  subst eb
  have hrm:RdMs w (.slice adm (mkG mkMg nxMg (nxG nxSn (nxG nxNd (nxs (K) la+fo.length) ns+totM bs) sg) ms).length cpm) (mkG mkMg nxMg (nxG nxSn (nxG nxNd (nxs (K) la+fo.length) ns+totM bs) sg) ms):=hrm
  obtain ⟨nm,hmm⟩:∃ x,(mkG mkMg nxMg (nxG nxSn (nxG nxNd (nxs (K) la+fo.length) ns+totM bs) sg) ms).length=x:=⟨_,rfl⟩
  rw [hmm] at hrm
  have hvm:(Value.slice adm (mlWd K ⟨ep,la,fo,ns,bs,sg,ms⟩).ms.length cpm)=.slice adm nm cpm:=by rw [<- hmm];rfl
  simp only [wdV] at *
  rw [hva]
  clear hva hma
  rw [hvf]
  clear hvf hmf
  rw [hvn]
  clear hvn hmn
  rw [hvb]
  clear hvb hmb
  rw [hvg]
  clear hvg hmg
  rw [hvm]
  clear hvm hmm
  obtain ⟨w0,hw0⟩:∃ x,w.alloc (.cells #[.int .i64 ep,.slice ada na cpa,.slice adf nf cpf,.slice adn nn cpn,.slice adb nb cpb,.slice adg ng cpg,.slice adm nm cpm] 36)=x:=⟨_,rfl⟩
  have b0:Below w.heap.size w w0:=by rw [<- hw0];exact (Below.refl _ w).alloc (Nat.le_refl _) _
  have K0:=hide (show Blk w0 w.heap.size 36 [.int .i64 ep,.slice ada na cpa,.slice adf nf cpf,.slice adn nn cpn,.slice adb nb cpb,.slice adg ng cpg,.slice adm nm cpm] from by rw [<- hw0];exact Blk.new w _ _)
  have gea:=nxs_ge (K) la
  have gen:=nxG_ge nxNd_ge (nxs (K) la+fo.length) ns
  have geg:=nxG_ge nxSn_ge (nxG nxNd (nxs (K) la+fo.length) ns+totM bs) sg
  have gem:=nxG_ge nxMg_ge (nxG nxSn (nxG nxNd (nxs (K) la+fo.length) ns+totM bs) sg) ms
  have HA1:=hide (fun V (hV:Below w.heap.size w V)=>heldLedger_any ep (.slice ada na cpa) la (K) V (hra.below hV (Nat.le_refl _)) (by omega) (fun a ha=>by have:=hfa a ha;omega) (by omega) (by omega))
  simp only [lgV] at HA1
  have HA2:=hide (fun V (hV:Below w.heap.size w V)=>heldStringS_any (.slice adf nf cpf) (nxs (K) la) fo.length V (hrf.below hV (Nat.le_refl _)) (by omega) (by omega) (by omega))
  have HA3:=hide (fun V (hV:Below w.heap.size w V)=>heldNodeS_any (.slice adn nn cpn) ns (nxs (K) la+fo.length) V (hrn.below hV (Nat.le_refl _)) hnn hfn (by omega) (by omega))
  have HA4:=hide (fun V (hV:Below w.heap.size w V)=>heldBlockS_any (.slice adb nb cpb) bs (nxG nxNd (nxs (K) la+fo.length) ns) V (hrb.below hV (Nat.le_refl _)) (by omega) (fun b hb=>by have f:=hfb b hb;exact ⟨f.q,f.w,f.h,f.t,f.n⟩) (by omega) (by omega))
  have HA5:=hide (fun V (hV:Below w.heap.size w V)=>heldSigS_any (.slice adg ng cpg) sg (nxG nxNd (nxs (K) la+fo.length) ns+totM bs) V (hrg.below hV (Nat.le_refl _)) hng hfg (by omega) (by omega))
  have HA6:=hide (fun V (hV:Below w.heap.size w V)=>heldMsgS_any (.slice adm nm cpm) ms (nxG nxSn (nxG nxNd (nxs (K) la+fo.length) ns+totM bs) sg) V (hrm.below hV (Nat.le_refl _)) hnm hfm (by omega) (by omega))
  have Hb:=hide b0
  clear b0 hra hrf hrn hrb hrg hrm gea
  obtain ⟨Q1,hQ1⟩:∃ x:Nat,nxs (K) la=x:=⟨_,rfl⟩
  rw [hQ1] at hle HA1 HA2 HA3 HA4 HA5 HA6 ⊢
  have hb1:Q1<=40000000:=by have:=nxG_ge nxNd_ge (Q1+fo.length) ns;have:=nxG_ge nxSn_ge (nxG nxNd (Q1+fo.length) ns+totM bs) sg;have:=nxG_ge nxMg_ge (nxG nxSn (nxG nxNd (Q1+fo.length) ns+totM bs) sg) ms;omega
  clear hQ1
  obtain ⟨Q2,hQ2⟩:∃ x:Nat,Q1+fo.length=x:=⟨_,rfl⟩
  rw [hQ2] at hle HA2 HA3 HA4 HA5 HA6 ⊢
  have hb2:Q2<=40000000:=by have:=nxG_ge nxNd_ge (Q2) ns;have:=nxG_ge nxSn_ge (nxG nxNd (Q2) ns+totM bs) sg;have:=nxG_ge nxMg_ge (nxG nxSn (nxG nxNd (Q2) ns+totM bs) sg) ms;omega
  clear hQ2
  obtain ⟨Q3,hQ3⟩:∃ x:Nat,nxG nxNd (Q2) ns=x:=⟨_,rfl⟩
  rw [hQ3] at hle HA3 HA4 HA5 HA6 ⊢
  have hb3:Q3<=40000000:=by have:=nxG_ge nxSn_ge (Q3+totM bs) sg;have:=nxG_ge nxMg_ge (nxG nxSn (Q3+totM bs) sg) ms;omega
  clear hQ3
  obtain ⟨Q4,hQ4⟩:∃ x:Nat,Q3+totM bs=x:=⟨_,rfl⟩
  rw [hQ4] at hle HA4 HA5 HA6 ⊢
  have hb4:Q4<=40000000:=by have:=nxG_ge nxSn_ge (Q4) sg;have:=nxG_ge nxMg_ge (nxG nxSn (Q4) sg) ms;omega
  clear hQ4
  obtain ⟨Q5,hQ5⟩:∃ x:Nat,nxG nxSn (Q4) sg=x:=⟨_,rfl⟩
  rw [hQ5] at hle HA5 HA6 ⊢
  have hb5:Q5<=40000000:=by have:=nxG_ge nxMg_ge (Q5) ms;omega
  clear hQ5
  obtain ⟨Q6,hQ6⟩:∃ x:Nat,nxG nxMg (Q5) ms=x:=⟨_,rfl⟩
  rw [hQ6] at hle HA6 ⊢
  have hb6:Q6<=40000000:=by omega
  clear hQ6
  go_enter Tryz.func16,Tryz.ntmps16
  have kk:=K0.out
  have c0:=kk.cell 0
  have c1:=kk.cell 1
  simp only [List.getElem?_cons_zero,List.getElem?_cons_succ] at c0 c1
  clear kk
  have HX:=hide (HA1.out _ Hb.out)
  clear HA1
  go_wp2_with fail
  (try rw [hw0])
  clear hw0
  refine HX.out.mono ?_
  rintro e w1 ⟨rfl,hx⟩
  have Kn:=hide (K0.out.below hx K0.out.lt)
  clear K0
  have K0:=Kn
  clear Kn
  have Hn:=hide (Hb.out.trans (hx.mono Hb.out.size))
  clear Hb
  have Hb:=Hn
  clear Hn
  clear hx HX c0 c1
  have kk:=K0.out
  have c2:=kk.cell 2
  simp only [List.getElem?_cons_zero,List.getElem?_cons_succ] at c2
  clear kk
  have HX:=hide (HA2.out _ Hb.out)
  clear HA2
  go_wp2_with fail
  refine HX.out.mono ?_
  rintro e w2 ⟨rfl,hx⟩
  have Kn:=hide (K0.out.below hx K0.out.lt)
  clear K0
  have K0:=Kn
  clear Kn
  have Hn:=hide (Hb.out.trans (hx.mono Hb.out.size))
  clear Hb
  have Hb:=Hn
  clear Hn
  clear hx HX c2
  have kk:=K0.out
  have c3:=kk.cell 3
  simp only [List.getElem?_cons_zero,List.getElem?_cons_succ] at c3
  clear kk
  have HX:=hide (HA3.out _ Hb.out)
  clear HA3
  go_wp2_with fail
  refine HX.out.mono ?_
  rintro e w3 ⟨rfl,hx⟩
  have Kn:=hide (K0.out.below hx K0.out.lt)
  clear K0
  have K0:=Kn
  clear Kn
  have Hn:=hide (Hb.out.trans (hx.mono Hb.out.size))
  clear Hb
  have Hb:=Hn
  clear Hn
  clear hx HX c3
  have kk:=K0.out
  have c4:=kk.cell 4
  simp only [List.getElem?_cons_zero,List.getElem?_cons_succ] at c4
  clear kk
  have HX:=hide (HA4.out _ Hb.out)
  clear HA4
  go_wp2_with fail
  refine HX.out.mono ?_
  rintro e w4 ⟨rfl,hx⟩
  have Kn:=hide (K0.out.below hx K0.out.lt)
  clear K0
  have K0:=Kn
  clear Kn
  have Hn:=hide (Hb.out.trans (hx.mono Hb.out.size))
  clear Hb
  have Hb:=Hn
  clear Hn
  clear hx HX c4
  have kk:=K0.out
  have c5:=kk.cell 5
  simp only [List.getElem?_cons_zero,List.getElem?_cons_succ] at c5
  clear kk
  have HX:=hide (HA5.out _ Hb.out)
  clear HA5
  go_wp2_with fail
  refine HX.out.mono ?_
  rintro e w5 ⟨rfl,hx⟩
  have Kn:=hide (K0.out.below hx K0.out.lt)
  clear K0
  have K0:=Kn
  clear Kn
  have Hn:=hide (Hb.out.trans (hx.mono Hb.out.size))
  clear Hb
  have Hb:=Hn
  clear Hn
  clear hx HX c5
  have kk:=K0.out
  have c6:=kk.cell 6
  simp only [List.getElem?_cons_zero,List.getElem?_cons_succ] at c6
  clear kk
  have HX:=hide (HA6.out _ Hb.out)
  clear HA6
  go_wp2_with fail
  refine HX.out.mono ?_
  rintro e w6 ⟨rfl,hx⟩
  have Kn:=hide (K0.out.below hx K0.out.lt)
  clear K0
  have K0:=Kn
  clear Kn
  have Hn:=hide (Hb.out.trans (hx.mono Hb.out.size))
  clear Hb
  have Hb:=Hn
  clear Hn
  clear hx HX c6
  go_wp2
  go_ret
  exact ⟨rfl,Hb.out⟩
end Go.Proofs.YthidkbhiikdokaaGreat
namespace Go.Proofs.YthidkbhiikdokaaGreat
open Go.ChangeShapes Go.WideShapes Go.ChangeAt Go.RowKit
open Go.ChangeMaps (open_string shut_string)
set_option linter.unusedVariables false
theorem fnExactWorldNew_own:ownKnob Tryz.prog.godebug=none:=by kernel_rfl
theorem fnExactWorldNew_laidOut:laidOutB Tryz.prog=true:=by kernel_rfl
def ldC (e:Int) (v:Value):List Value:=[.int .i64 e,v]
theorem ldC_one {w:World} {e:Int} {v:Value} {l:List Ac} (h:RdA w v l):(ldC e v).all (·.oneCell')=true:=by
  obtain ⟨a,c,rfl⟩:=h.shape
  rfl
theorem wdC_one {w:World} {p:Wd} {u:Wv} (h:RdWd w p u):(wdC p u).all (·.oneCell')=true:=by
  obtain ⟨ada,cpa,eqa⟩:=h.ka.shape
  obtain ⟨adf,cpf,eqf⟩:=h.kf.shape
  obtain ⟨adn,cpn,eqn⟩:=h.kn.shape
  obtain ⟨adb,cpb,eqb⟩:=h.kb.shape
  obtain ⟨ads,cps,eqs⟩:=h.ks.shape
  obtain ⟨adm,cpm,eqm⟩:=h.km.shape
  simp [wdC,Value.oneCell',eqa,eqf,eqn,eqb,eqs,eqm]
theorem Tryz.infoALd:(Tryz.prog.info? 24).map (·.size)=some 2:=by kernel_rfl
theorem Tryz.infoBWd:(Tryz.prog.info? 36).map (·.size)=some 7:=by kernel_rfl
theorem Tryz.infoLd:(Tryz.prog.info? 30).map (·.size)=some 2:=by kernel_rfl
theorem wpList_load_guard {P:Program} {ops:Array Oper} {rest:List Oper} {op:Oper} {a:Act} {w:World} {Q:Exit->Act->World->Prop} (hw:Region.wanted op (yielded ops a.tmps)=true) (ty:TypeId) (x:Operand) (ho:op.op=.load ty x)
    (b o:Nat) (hx:a.eval x=.pointer (some ⟨b,o,none⟩)) (cs:List Value) (d:TypeDesc) (hc:w.rangeAt b o cs)
    (hu:P.underlying ty=some d) (hd:d.isRow=true) (hi:(P.info? ty).map (·.size)=some cs.length)
    (h:wpList P ops Q rest (a.put op.dst (.agg cs.toArray)) w):wpList P ops Q (op :: rest) a w :=
  wpList_step fun K hK=>by rw [if_pos hw];exact wp_load_mid ty x ho b o hx cs d hc hu hd hi (hK _ _ h)
theorem szR_okN (l:List ByteArray) (m:Nat) (h:0<=szR l m):l.length+tot l<=m:=by
  unfold szR at h
  split at h
  · assumption
  · omega
theorem fnExactWorldNew_walk (a0:Int) (y0:Value) (z0:List Ac) (a1:Option Addr) (len1 cap1:Nat) (z1:List ByteArray) (w:World) (w0:RdA w y0 z0/\z0.length<=maxLen/\∀ q ∈ z0,q.1.size<=maxLen/\q.2.2.2.2.length<=maxLen) (w1:IsRowS w a1 len1 cap1 z1) :
    Calls Tryz.prog 3 #[lgV a0 y0,.slice a1 len1 cap1] w fun e w'=>e=.returned (.bool true)/\Below w.heap.size w w':=by
  obtain ⟨hr,hlm,hsm⟩:=w0
  obtain ⟨s1,rfl,hd,hlm1,hsm1⟩:=w1.rd
  clear w1 z1
  obtain ⟨w1,hw1⟩:∃ x,w.alloc (.cells (ldC a0 y0).toArray 24)=x:=⟨_,rfl⟩
  have b1:Below w.heap.size w w1:=by rw [<- hw1];exact (Below.refl _ w).alloc (Nat.le_refl _) _
  have KA1:=hide (show Blk w1 w.heap.size 24 (ldC a0 y0) from by rw [<- hw1];exact Blk.new w _ _)
  have z0z:=hide KA1.out.lt
  have Hz:=hide (szLedger_any a0 y0 z0 1048576 w1 (hr.below b1 (Nat.le_refl _)) (by omega) (by unfold maxLen at hlm;omega) (fun q hq=>by have:=hsm q hq;unfold maxLen at this;omega))
  have Hx:=hide (fun (m:Nat) (hm:m<=100000000) V (hV:Below w.heap.size w V)=>(szStringS_any (.slice a1 s1.length cap1) s1 m V (hd.below hV (Nat.le_refl _)) hm (by unfold maxLen at hlm1;omega) (fun q hq=>by have:=hsm1 q hq;unfold maxLen at this;omega)).mono (R':=fun e w'=>e=.returned (.int .i64 (szR s1 m))/\Below V.heap.size V w') (fun e w' h=>⟨h.1,by rw [h.2];exact Below.refl _ _⟩))
  have HT:=hide (fun (hl:z0.length<=4000000) (hv:∀ a ∈ z0,a.2.2.2.2.length<=4000000) V (hV:Below w.heap.size w V)=>toLedger_any a0 y0 z0 V (hr.below hV (Nat.le_refl _)) hl hv)
  have HD:=hide (fun (hl:s1.length<=4000000) V (hV:Below w.heap.size w V)=>toStringS_any (.slice a1 s1.length cap1) s1 V (hd.below hV (Nat.le_refl _)) hl)
  have HS:=hide (fun (hl:z0.length<=4000000) (hv:∀ a ∈ z0,a.1.size<=maxLen/\a.2.2.2.2.length<=4000000) (hl1:s1.length<=4000000) u t V (h1:RdA V u z0) (h2:RdS V t s1)=>specWorldNew_any a0 u z0 t s1 V h1 h2 hl hv hl1 hsm1)
  have HI:=hide (fun (hl:z0.length<=4000000) (hv:∀ a ∈ z0,a.1.size<=maxLen/\a.2.2.2.2.length<=4000000) (hl1:s1.length<=4000000) u t V (h1:RdA V u z0) (h2:RdS V t s1)=>implWorldNew_any a0 u z0 t s1 V h1 h2 hl hv hl1 hsm1)
  have Hsm:=hide hsm
  have Hok:=hide (szR_okN s1)
  have IA:=hide (show (Tryz.prog.info? 24).map (·.size)=some (ldC a0 y0).length from Tryz.infoALd)
  have B1:=hide b1
  rw [show lgV a0 y0=.agg (ldC a0 y0).toArray from rfl] at Hz HT ⊢
  clear hr hlm hsm b1 hd hlm1 hsm1
  generalize ldC a0 y0=cs at KA1 Hz HT IA hw1 ⊢
  have RA1:=hide (blk_range KA1.out)
  go_enter Tryz.func3,Tryz.ntmps3
  go_upto_region 1 with fail
  (try rw [hw1])
  clear hw1
  obtain ⟨y1,hy1⟩:∃ v:Value,.slice a1 s1.length cap1=v:=⟨_,rfl⟩
  rw [hy1] at Hx HD ⊢
  clear hy1
  go_wp2_with (first
    | (refine wpList_load_mid rfl 24 _ rfl w.heap.size 0 rfl cs _ RA1.out Tryz.underlying24 rfl IA.out ?_)
    | fail)
  refine Hz.out.mono ?_
  rintro e w2 ⟨r,rfl,hfit,hb2⟩
  have Hfit:=hide hfit
  clear hfit Hz
  have KA2:=hide (KA1.out.below hb2 KA1.out.lt)
  have B2:=hide (B1.out.trans (hb2.mono B1.out.size))
  have z2:=hide hb2.size
  clear RA1 KA1 B1  hb2
  have RA2:=hide (blk_range KA2.out)
  by_cases hneg:r < 0
  · clear Hfit Hx HT HD HS HI Hsm Hok
    go_wp2
    go_ret
    exact ⟨rfl,B2.out⟩
  obtain ⟨n,rfl⟩:=Int.eq_ofNat_of_zero_le (show 0<=r by omega)
  obtain ⟨hle,hrm⟩:=Hfit.out (by omega)
  have hn1:n<=1048576:=by omega
  have Hle:=hide hle
  have Hn1:=hide hn1
  have HZ:=hide (Hx.out n (by omega) w2 B2.out)
  have HOk:=hide (Hok.out n)
  clear Hok Hfit hle hrm hn1 Hx
  generalize szR s1 n=q at HZ HOk
  go_wp2_with (first
    | (refine wpList_load_mid rfl 24 _ rfl w.heap.size 0 rfl cs _ RA2.out Tryz.underlying24 rfl IA.out ?_)
    | fail)
  refine HZ.out.mono ?_
  rintro e w3 ⟨rfl,hb3⟩
  clear HZ
  have KA3:=hide (KA2.out.below hb3 KA2.out.lt)
  have B3:=hide (B2.out.trans (hb3.mono B2.out.size))
  have z3:=hide hb3.size
  clear RA2 KA2 B2  hb3
  have RA3:=hide (blk_range KA3.out)
  by_cases hneg2:q < 0
  · clear HT HD HS HI Hsm HOk Hle Hn1
    go_wp2
    go_ret
    exact ⟨rfl,B3.out⟩
  have hle:=Hle.out
  have hn1:=Hn1.out
  have hl2:=HOk.out (by omega)
  have hl:z0.length<=4000000:=by omega
  have hlv:∀ a ∈ z0,a.2.2.2.2.length<=4000000:=fun a ha=>by have h1:=totA_at z0 a ha;unfold wgA at h1;omega
  have hnl:∀ a ∈ z0,a.1.size<=maxLen/\a.2.2.2.2.length<=4000000:=fun a ha=>⟨(Hsm.out a ha).1,hlv a ha⟩
  have hl1:s1.length<=4000000:=by omega
  have hn3:nxs 1 z0<=6291457:=by have:=nxs_tot 1 z0;omega
  have hn4:1<=nxs 1 z0:=nxs_ge 1 z0
  have HT:=hide (HT.out hl hlv)
  have HD:=hide (HD.out hl1)
  have HS:=hide (HS.out hl hnl hl1)
  have HI:=hide (HI.out hl hnl hl1)
  have HEx:=hide (fun u t V (h1:RdA V u z0) (h2:RdA V t z0)=>equLedger a0 u t z0 V h1 h2 hl hlv)
  have HEd:=hide (fun u t V (h1:RdS V u s1) (h2:RdS V t s1)=>equString u t s1 V h1 h2 hl1)
  have HMx:=hide (fun u lo hi V (h:OwnX lo hi V u z0)=>mkuLedger a0 u z0 1 lo hi V h hl hlv (by omega) (by omega))
  have HMd:=hide (fun u lo hi V (h:InS lo hi V u s1)=>mkuStr u s1 (nxs 1 z0) lo hi V h hl1 (by omega) (by omega))
  have hfw:=few_wn a0 z0 s1
  have hnw:=nl_wn a0 z0 s1
  have HEr:=hide (fun u t V (h1:RdWd V (wnW a0 z0 s1) u) (h2:RdWd V (wnW a0 z0 s1) t)=>eqWorld_same (wnW a0 z0 s1) u t V h1 h2 hfw)
  have HMr:=hide (fun u lo hi V (h:OwnWd lo hi V (wnW a0 z0 s1) u) (h1:hi<=V.heap.size)=>markWorld_own (wnW a0 z0 s1) u 1 lo hi V h h1 hfw hnw (by omega))
  have HHr:=hide (fun u V (h:RdWd V (mlWd 1 (wnW a0 z0 s1)) u)=>heldWorld_own (wnW a0 z0 s1) u 1 V h hfw hnw (by omega))
  clear Hle Hn1 hle hn1 HOk hl2 hl hlv hnl hl1 hn3 hn4 hfw hnw Hsm
  generalize wnW a0 z0 s1=QW at HS HI HEr HMr HHr
  generalize mlWd 1 QW=QM at HMr HHr
  generalize nlWd 1 QW=nR at HMr HHr
  generalize nxs 1 z0+s1.length=nY at HMd
  generalize nxs 1 z0=nX at HMx HMd
  generalize mkS nX s1.length=XI at HMd
  generalize mkAs 1 z0=XM at HMx
  have hnY:¬ ((nY:Int) < 0):=by omega
  have hnR:¬ ((nR:Int) < 0):=by omega
  go_wp2_with (first
    | (refine wpList_load_mid rfl 24 _ rfl w.heap.size 0 rfl cs _ RA3.out Tryz.underlying24 rfl IA.out ?_)
    | fail)
  refine (HT.out w3 B3.out).mono ?_
  rintro e w4 ⟨u4,rfl,o4,hb4⟩
  have DT4:=hide o4.rd
  have KA4:=hide (KA3.out.below hb4 KA3.out.lt)
  have B4:=hide (B3.out.trans (hb4.mono B3.out.size))
  have z4:=hide hb4.size
  clear RA3 KA3 B3  hb4
  have RA4:=hide (blk_range KA4.out)
  rw [show lgV a0 u4=.agg (ldC a0 u4).toArray from rfl]
  clear o4
  go_wp2_with (first
    | (refine wpList_load_mid rfl 24 _ rfl w.heap.size 0 rfl cs _ RA4.out Tryz.underlying24 rfl IA.out ?_)
    | fail)
  refine (HD.out w4 B4.out).mono ?_
  rintro e w5 ⟨d5,rfl,o5,hb5⟩
  have r5:=o5.rd
  clear o5
  have KA5:=hide (KA4.out.below hb5 KA4.out.lt)
  have B5:=hide (B4.out.trans (hb5.mono B4.out.size))
  have z5:=hide hb5.size
  have DT5:=hide (DT4.out.below hb5 (Nat.le_refl _))
  clear RA4 KA4 B4 DT4 hb5
  have RA5:=hide (blk_range KA5.out)
  have C5:=hide (HS.out u4 d5 w5 DT5.out r5)
  rw [show lgV a0 u4=.agg (ldC a0 u4).toArray from rfl] at C5
  clear r5 DT5 HS
  generalize ldC a0 u4=c4 at C5 ⊢
  go_wp2_with (first
    | (refine wpList_load_mid rfl 24 _ rfl w.heap.size 0 rfl cs _ RA5.out Tryz.underlying24 rfl IA.out ?_)
    | fail)
  refine C5.out.mono ?_
  rintro e w6 ⟨uW,rfl,oW,hb6⟩
  have DW6:=hide oW.rd
  clear C5
  have KA6:=hide (KA5.out.below hb6 KA5.out.lt)
  have B6:=hide (B5.out.trans (hb6.mono B5.out.size))
  have z6:=hide hb6.size
  clear RA5 KA5 B5  hb6
  have RA6:=hide (blk_range KA6.out)
  obtain ⟨cW,hcW⟩:∃ c,wdC QW uW=c:=⟨_,rfl⟩
  have ecW:=hide (show wdV QW uW=.agg cW.toArray from by rw [<- hcW];rfl)
  rw [ecW.out]
  have bz6:Blk (w6.alloc (.cells #[.int .i64 0,.slice none 0 0,.slice none 0 0,.slice none 0 0,.slice none 0 0,.slice none 0 0,.slice none 0 0] 36)) w6.heap.size 36 [.int .i64 0,.slice none 0 0,.slice none 0 0,.slice none 0 0,.slice none 0 0,.slice none 0 0,.slice none 0 0]:=Blk.new w6 _ _
  have oneW:=hide (show cW.toArray.all (·.oneCell')=true from by rw [List.all_toArray,<- hcW];exact wdC_one oW.rd)
  have IW:=hide (show (Tryz.prog.info? 36).map (·.size)=some cW.length from by rw [<- hcW];exact Tryz.infoBWd)
  have HtW:=hide (show (w6.alloc (.cells #[.int .i64 0,.slice none 0 0,.slice none 0 0,.slice none 0 0,.slice none 0 0,.slice none 0 0,.slice none 0 0] 36)).there w6.heap.size 0 cW.toArray.size from bz6.there (by rw [List.size_toArray,<- hcW];rfl))
  obtain ⟨w7,hw7⟩:∃ x,(w6.alloc (.cells #[.int .i64 0,.slice none 0 0,.slice none 0 0,.slice none 0 0,.slice none 0 0,.slice none 0 0,.slice none 0 0] 36)).setCells w6.heap.size 0 cW=x:=⟨_,rfl⟩
  have KW7:=hide (show Blk w7 w6.heap.size 36 cW from by rw [<- hw7];exact blk_all bz6 (by rw [<- hcW];rfl))
  have hb7:Below w6.heap.size w6 w7:=by rw [<- hw7];exact ((Below.refl _ w6).alloc (Nat.le_refl _) _).trans (putC_below (Nat.le_refl _) _ _ _)
  have Hw7:=hide hw7
  have y7:=hide (KW7.out.lt)
  clear bz6 hw7
  have KA7:=hide (KA6.out.below hb7 KA6.out.lt)
  have B7:=hide (B6.out.trans (hb7.mono B6.out.size))
  have z7:=hide hb7.size
  have DW7:=hide (DW6.out.below hb7 (Nat.le_refl _))
  clear RA6 KA6 B6 DW6 hb7
  have RA7:=hide (blk_range KA7.out)
  have RW7:=hide (blk_range KW7.out)
  have RW:=DW7
  have D7:=hide (Below.refl w7.heap.size w7)
  clear DW7 oW hcW
  go_wp2_with (first
    | (refine wpList_load_mid rfl 24 _ rfl w.heap.size 0 rfl cs _ RA7.out Tryz.underlying24 rfl IA.out ?_)
    | (refine wpList_load_mid rfl 36 _ rfl w6.heap.size 0 rfl cW _ RW7.out Tryz.underlying36 rfl IW.out ?_)
    | (refine wpList_store_mid rfl 36 _ _ rfl w6.heap.size 0 cW.toArray rfl rfl HtW.out (by simpa using IW.out) oneW.out ?_;rw [Hw7.out])
    | fail)
  refine (HT.out w7 B7.out).mono ?_
  rintro e w8 ⟨uX,rfl,oX,hb8⟩
  have DX8:=hide oX.ox
  have KA8:=hide (KA7.out.below hb8 KA7.out.lt)
  have KW8:=hide (KW7.out.below hb8 KW7.out.lt)
  have B8:=hide (B7.out.trans (hb8.mono B7.out.size))
  have z8:=hide hb8.size
  have D8:=hide (D7.out.trans (hb8.mono D7.out.size))
  clear RA7 KA7 RW7 KW7 B7 D7  hb8
  have RA8:=hide (blk_range KA8.out)
  have RW8:=hide (blk_range KW8.out)
  obtain ⟨cX,hcX⟩:∃ c,ldC a0 uX=c:=⟨_,rfl⟩
  have ecX:=hide (show lgV a0 uX=.agg cX.toArray from by rw [<- hcX];rfl)
  rw [ecX.out]
  clear oneW HtW Hw7
  have bz8:Blk (w8.alloc (.cells #[.int .i64 0,.slice none 0 0] 30)) w8.heap.size 30 [.int .i64 0,.slice none 0 0]:=Blk.new w8 _ _
  have oneX:=hide (show cX.toArray.all (·.oneCell')=true from by rw [List.all_toArray,<- hcX];exact ldC_one oX.rd)
  have IX:=hide (show (Tryz.prog.info? 30).map (·.size)=some cX.length from by rw [<- hcX];exact Tryz.infoLd)
  have HtX:=hide (show (w8.alloc (.cells #[.int .i64 0,.slice none 0 0] 30)).there w8.heap.size 0 cX.toArray.size from bz8.there (by rw [List.size_toArray,<- hcX];rfl))
  obtain ⟨w9,hw9⟩:∃ x,(w8.alloc (.cells #[.int .i64 0,.slice none 0 0] 30)).setCells w8.heap.size 0 cX=x:=⟨_,rfl⟩
  have KX9:=hide (show Blk w9 w8.heap.size 30 cX from by rw [<- hw9];exact blk_all bz8 (by rw [<- hcX];rfl))
  have hb9:Below w8.heap.size w8 w9:=by rw [<- hw9];exact ((Below.refl _ w8).alloc (Nat.le_refl _) _).trans (putC_below (Nat.le_refl _) _ _ _)
  have Hw9:=hide hw9
  have y9:=hide (KX9.out.lt)
  clear bz8 hw9
  have KA9:=hide (KA8.out.below hb9 KA8.out.lt)
  have KW9:=hide (KW8.out.below hb9 KW8.out.lt)
  have B9:=hide (B8.out.trans (hb9.mono B8.out.size))
  have z9:=hide hb9.size
  have D9:=hide (D8.out.trans (hb9.mono D8.out.size))
  have DX9:=hide (DX8.out.kept (Kept.of_oth (Oth.of_below (S:=fun _=>False) hb9) (fun _ _ _ e=>e)))
  clear RA8 KA8 RW8 KW8 B8 D8 DX8 hb9
  have RA9:=hide (blk_range KA9.out)
  have RW9:=hide (blk_range KW9.out)
  have RX9:=hide (blk_range KX9.out)
  clear oX hcX
  go_wp2_with (first
    | (refine wpList_load_mid rfl 24 _ rfl w.heap.size 0 rfl cs _ RA9.out Tryz.underlying24 rfl IA.out ?_)
    | (refine wpList_load_mid rfl 36 _ rfl w6.heap.size 0 rfl cW _ RW9.out Tryz.underlying36 rfl IW.out ?_)
    | (refine wpList_load_mid rfl 30 _ rfl w8.heap.size 0 rfl cX _ RX9.out Tryz.underlying30 rfl IX.out ?_)
    | (refine wpList_store_mid rfl 30 _ _ rfl w8.heap.size 0 cX.toArray rfl rfl HtX.out (by simpa using IX.out) oneX.out ?_;rw [Hw9.out])
    | fail)
  refine (HD.out w9 B9.out).mono ?_
  rintro e w10 ⟨uD,rfl,oD,hb10⟩
  have DD10:=hide (InS.of oD)
  clear oD
  have KA10:=hide (KA9.out.below hb10 KA9.out.lt)
  have KW10:=hide (KW9.out.below hb10 KW9.out.lt)
  have KX10:=hide (KX9.out.below hb10 KX9.out.lt)
  have B10:=hide (B9.out.trans (hb10.mono B9.out.size))
  have z10:=hide hb10.size
  have D10:=hide (D9.out.trans (hb10.mono D9.out.size))
  have DX10:=hide (DX9.out.kept (Kept.of_oth (Oth.of_below (S:=fun _=>False) hb10) (fun _ _ _ e=>e)))
  clear RA9 KA9 RW9 KW9 RX9 KX9 B9 D9 DX9 hb10
  have RA10:=hide (blk_range KA10.out)
  have RW10:=hide (blk_range KW10.out)
  have RX10:=hide (blk_range KX10.out)
  have C11:=hide (HI.out uX uD w10 DX10.out.rd DD10.out.rd)
  rw [ecX.out] at C11
  clear oneX HtX Hw9
  go_wp2_with (first
    | (refine wpList_load_mid rfl 24 _ rfl w.heap.size 0 rfl cs _ RA10.out Tryz.underlying24 rfl IA.out ?_)
    | (refine wpList_load_mid rfl 36 _ rfl w6.heap.size 0 rfl cW _ RW10.out Tryz.underlying36 rfl IW.out ?_)
    | (refine wpList_load_mid rfl 30 _ rfl w8.heap.size 0 rfl cX _ RX10.out Tryz.underlying30 rfl IX.out ?_)
    | fail)
  refine C11.out.mono ?_
  rintro e w11 ⟨uG,rfl,oG,hb11⟩
  have DG11:=hide oG
  have KA11:=hide (KA10.out.below hb11 KA10.out.lt)
  have KW11:=hide (KW10.out.below hb11 KW10.out.lt)
  have KX11:=hide (KX10.out.below hb11 KX10.out.lt)
  have B11:=hide (B10.out.trans (hb11.mono B10.out.size))
  have z11:=hide hb11.size
  have D11:=hide (D10.out.trans (hb11.mono D10.out.size))
  have DX11:=hide (DX10.out.kept (Kept.of_oth (Oth.of_below (S:=fun _=>False) hb11) (fun _ _ _ e=>e)))
  have DD11:=hide (DD10.out.kept (Kept.of_oth (Oth.of_below (S:=fun _=>False) hb11) (fun _ _ _ e=>e)))
  clear RA10 KA10 RW10 KW10 RX10 KX10 B10 D10 DX10 DD10 hb11
  have RA11:=hide (blk_range KA11.out)
  have RW11:=hide (blk_range KW11.out)
  have RX11:=hide (blk_range KX11.out)
  obtain ⟨cG,hcG⟩:∃ c,wdC QW uG=c:=⟨_,rfl⟩
  have ecG:=hide (show wdV QW uG=.agg cG.toArray from by rw [<- hcG];rfl)
  rw [ecG.out]
  clear C11
  have bz11:Blk (w11.alloc (.cells #[.int .i64 0,.slice none 0 0,.slice none 0 0,.slice none 0 0,.slice none 0 0,.slice none 0 0,.slice none 0 0] 36)) w11.heap.size 36 [.int .i64 0,.slice none 0 0,.slice none 0 0,.slice none 0 0,.slice none 0 0,.slice none 0 0,.slice none 0 0]:=Blk.new w11 _ _
  have oneG:=hide (show cG.toArray.all (·.oneCell')=true from by rw [List.all_toArray,<- hcG];exact wdC_one oG.rd)
  have IG:=hide (show (Tryz.prog.info? 36).map (·.size)=some cG.length from by rw [<- hcG];exact Tryz.infoBWd)
  have HtG:=hide (show (w11.alloc (.cells #[.int .i64 0,.slice none 0 0,.slice none 0 0,.slice none 0 0,.slice none 0 0,.slice none 0 0,.slice none 0 0] 36)).there w11.heap.size 0 cG.toArray.size from bz11.there (by rw [List.size_toArray,<- hcG];rfl))
  obtain ⟨w12,hw12⟩:∃ x,(w11.alloc (.cells #[.int .i64 0,.slice none 0 0,.slice none 0 0,.slice none 0 0,.slice none 0 0,.slice none 0 0,.slice none 0 0] 36)).setCells w11.heap.size 0 cG=x:=⟨_,rfl⟩
  have KG12:=hide (show Blk w12 w11.heap.size 36 cG from by rw [<- hw12];exact blk_all bz11 (by rw [<- hcG];rfl))
  have hb12:Below w11.heap.size w11 w12:=by rw [<- hw12];exact ((Below.refl _ w11).alloc (Nat.le_refl _) _).trans (putC_below (Nat.le_refl _) _ _ _)
  have Hw12:=hide hw12
  have y12:=hide (KG12.out.lt)
  clear bz11 hw12
  have KA12:=hide (KA11.out.below hb12 KA11.out.lt)
  have KW12:=hide (KW11.out.below hb12 KW11.out.lt)
  have KX12:=hide (KX11.out.below hb12 KX11.out.lt)
  have B12:=hide (B11.out.trans (hb12.mono B11.out.size))
  have z12:=hide hb12.size
  have D12:=hide (D11.out.trans (hb12.mono D11.out.size))
  have DX12:=hide (DX11.out.kept (Kept.of_oth (Oth.of_below (S:=fun _=>False) hb12) (fun _ _ _ e=>e)))
  have DD12:=hide (DD11.out.kept (Kept.of_oth (Oth.of_below (S:=fun _=>False) hb12) (fun _ _ _ e=>e)))
  have DG12:=hide (DG11.out.kept (Kept.of_oth (Oth.of_below (S:=fun _=>False) hb12) (fun _ _ _ e=>e)))
  clear RA11 KA11 RW11 KW11 RX11 KX11 B11 D11 DX11 DD11 DG11 hb12
  have RA12:=hide (blk_range KA12.out)
  have RW12:=hide (blk_range KW12.out)
  have RX12:=hide (blk_range KX12.out)
  have RG12:=hide (blk_range KG12.out)
  have C13:=hide (HEr.out uG uW w12 DG12.out.rd (RW.out.below D12.out (Nat.le_refl _)))
  rw [ecG.out,ecW.out] at C13
  clear oG hcG
  go_wp2_with (first
    | (refine wpList_load_mid rfl 24 _ rfl w.heap.size 0 rfl cs _ RA12.out Tryz.underlying24 rfl IA.out ?_)
    | (refine wpList_load_mid rfl 36 _ rfl w6.heap.size 0 rfl cW _ RW12.out Tryz.underlying36 rfl IW.out ?_)
    | (refine wpList_load_mid rfl 30 _ rfl w8.heap.size 0 rfl cX _ RX12.out Tryz.underlying30 rfl IX.out ?_)
    | (refine wpList_load_mid rfl 36 _ rfl w11.heap.size 0 rfl cG _ RG12.out Tryz.underlying36 rfl IG.out ?_)
    | (refine wpList_store_mid rfl 36 _ _ rfl w11.heap.size 0 cG.toArray rfl rfl HtG.out (by simpa using IG.out) oneG.out ?_;rw [Hw12.out])
    | fail)
  refine C13.out.mono ?_
  rintro e w13 ⟨rfl,hb13⟩
  have KA13:=hide (KA12.out.below hb13 KA12.out.lt)
  have KW13:=hide (KW12.out.below hb13 KW12.out.lt)
  have KX13:=hide (KX12.out.below hb13 KX12.out.lt)
  have KG13:=hide (KG12.out.below hb13 KG12.out.lt)
  have B13:=hide (B12.out.trans (hb13.mono B12.out.size))
  have z13:=hide hb13.size
  have D13:=hide (D12.out.trans (hb13.mono D12.out.size))
  have DX13:=hide (DX12.out.kept (Kept.of_oth (Oth.of_below (S:=fun _=>False) hb13) (fun _ _ _ e=>e)))
  have DD13:=hide (DD12.out.kept (Kept.of_oth (Oth.of_below (S:=fun _=>False) hb13) (fun _ _ _ e=>e)))
  have DG13:=hide (DG12.out.kept (Kept.of_oth (Oth.of_below (S:=fun _=>False) hb13) (fun _ _ _ e=>e)))
  clear RA12 KA12 RW12 KW12 RX12 KX12 RG12 KG12 B12 D12 DX12 DD12 DG12 hb13
  have RA13:=hide (blk_range KA13.out)
  have RW13:=hide (blk_range KW13.out)
  have RX13:=hide (blk_range KX13.out)
  have RG13:=hide (blk_range KG13.out)
  clear C13 oneG HtG Hw12
  have HEX:=hide (fun t V (h1:RdA V uX z0) (h2:RdA V t z0)=>HEx.out uX t V h1 h2)
  rw [ecX.out] at HEX
  have HSS:=hide (fun V (hV:Below w13.heap.size w13 V)=>(show V.rangeAt w8.heap.size 0 cX/\V.rangeAt w.heap.size 0 cs from ⟨range_below RX13.out hV KX13.out.lt,range_below RA13.out hV KA13.out.lt⟩))
  have bD:Below w13.heap.size w13 w13.drew:=(Below.refl _ w13).drew
  have hS0:=HSS.out _ bD
  go_wp2
  refine wp_region_held_drew (S:=fun W=>W.rangeAt w8.heap.size 0 cX/\W.rangeAt w.heap.size 0 cs) (by kernel_rfl) hS0 (fun hHeld=>?_)
  refine wpAnyH_take (i:=0) (v:=.agg cX.toArray) rfl (by kernel_rfl) (by kernel_rfl) (by kernel_rfl) (fun _ _ _ h=>h) (yieldsIf_load_mid (by rfl) 30 _ rfl w8.heap.size 0 rfl cX _ (fun W hW=>hW.1) Tryz.underlying30 rfl IX.out) (by assumption) ?_
  change wpAnyH Tryz.prog _ _ _ _ _ _ (Act.put _ (some 40) _) _
  simp only [Act.put,List.setIfInBounds_toArray,List.set_cons_zero,List.set_cons_succ]
  refine wpAnyH_take (i:=1) (v:=.agg cs.toArray) rfl (by kernel_rfl) (by kernel_rfl) (by kernel_rfl) (fun _ _ _ h=>h) (yieldsIf_load_mid (by rfl) 24 _ rfl w.heap.size 0 rfl cs _ (fun W hW=>hW.2) Tryz.underlying24 rfl IA.out) (by assumption) ?_
  change wpAnyH Tryz.prog _ _ _ _ _ _ (Act.put _ (some 41) _) _
  simp only [Act.put,List.setIfInBounds_toArray,List.set_cons_zero,List.set_cons_succ]
  refine wpAnyH_ready (rs:=[2]) (by kernel_rfl) (by simp) ?_
  refine AllReadyH.cons rfl (fun K hK=>?_) AllReadyH.nil
  go_simp
  go_wp2_with (go_at_call 7;(with_reducible refine (HT.out _ (B13.out.trans (bD.mono B13.out.size))).mono ?_);rintro e w14 ⟨u14,rfl,o14,hb14⟩;have c14:=bD.trans (hb14.mono bD.size);have hS14:=HSS.out _ c14;have r14:=o14.rd)
  refine hK.out _ _ hS14 (fun hHeld=>?_)
  try simp only [Act.put,List.setIfInBounds_toArray,List.set_cons_zero,List.set_cons_succ]
  refine wpAnyH_ready (rs:=[3]) (by kernel_rfl) (by simp) ?_
  refine AllReadyH.cons rfl (fun K hK=>?_) AllReadyH.nil
  go_simp
  go_wp2_with (go_at_call 11;(with_reducible refine (HEX.out _ _ (DX13.out.rd.below c14 (Nat.le_refl _)) r14).mono ?_);rintro e w15 ⟨rfl,hb15⟩;have c15:=c14.trans (hb15.mono c14.size);have hS15:=HSS.out _ c15)
  refine hK.out _ _ hS15 (fun hHeld=>?_)
  try simp only [Act.put,List.setIfInBounds_toArray,List.set_cons_zero,List.set_cons_succ]
  refine wpAnyH_take (i:=4) (v:=.bool false) rfl (by kernel_rfl) (by kernel_rfl) (by kernel_rfl) (fun _ _ _ h=>h) (Or.inl ⟨by rfl,fun W hW=>by go_simp⟩) (by assumption) ?_
  change wpAnyH Tryz.prog _ _ _ _ _ _ (Act.put _ (some 44) _) _
  simp only [Act.put,List.setIfInBounds_toArray,List.set_cons_zero,List.set_cons_succ]
  refine wpAnyH_done (by kernel_rfl) ?_ _
  clear hS0 hS14 hS15 o14 r14 hb14 hb15 c14 HSS HEX HEx bD
  have KA15:=hide (KA13.out.below c15 KA13.out.lt)
  have KW15:=hide (KW13.out.below c15 KW13.out.lt)
  have KX15:=hide (KX13.out.below c15 KX13.out.lt)
  have KG15:=hide (KG13.out.below c15 KG13.out.lt)
  have B15:=hide (B13.out.trans (c15.mono B13.out.size))
  have z15:=hide c15.size
  have D15:=hide (D13.out.trans (c15.mono D13.out.size))
  have DX15:=hide (DX13.out.kept (Kept.of_oth (Oth.of_below (S:=fun _=>False) c15) (fun _ _ _ e=>e)))
  have DD15:=hide (DD13.out.kept (Kept.of_oth (Oth.of_below (S:=fun _=>False) c15) (fun _ _ _ e=>e)))
  have DG15:=hide (DG13.out.kept (Kept.of_oth (Oth.of_below (S:=fun _=>False) c15) (fun _ _ _ e=>e)))
  clear RA13 KA13 RW13 KW13 RX13 KX13 RG13 KG13 B13 D13 DX13 DD13 DG13
  have RA15:=hide (blk_range KA15.out)
  have RW15:=hide (blk_range KW15.out)
  have RX15:=hide (blk_range KX15.out)
  have RG15:=hide (blk_range KG15.out)
  clear c15
  go_wp2_with (first
    | (refine wpList_load_mid rfl 24 _ rfl w.heap.size 0 rfl cs _ RA15.out Tryz.underlying24 rfl IA.out ?_)
    | (refine wpList_load_mid rfl 36 _ rfl w6.heap.size 0 rfl cW _ RW15.out Tryz.underlying36 rfl IW.out ?_)
    | (refine wpList_load_mid rfl 30 _ rfl w8.heap.size 0 rfl cX _ RX15.out Tryz.underlying30 rfl IX.out ?_)
    | (refine wpList_load_mid rfl 36 _ rfl w11.heap.size 0 rfl cG _ RG15.out Tryz.underlying36 rfl IG.out ?_)
    | fail)
  refine (HD.out w15 B15.out).mono ?_
  rintro e w16 ⟨d16,rfl,o16,hb16⟩
  have r16:=o16.rd
  clear o16
  have KA16:=hide (KA15.out.below hb16 KA15.out.lt)
  have KW16:=hide (KW15.out.below hb16 KW15.out.lt)
  have KX16:=hide (KX15.out.below hb16 KX15.out.lt)
  have KG16:=hide (KG15.out.below hb16 KG15.out.lt)
  have B16:=hide (B15.out.trans (hb16.mono B15.out.size))
  have z16:=hide hb16.size
  have D16:=hide (D15.out.trans (hb16.mono D15.out.size))
  have DX16:=hide (DX15.out.kept (Kept.of_oth (Oth.of_below (S:=fun _=>False) hb16) (fun _ _ _ e=>e)))
  have DD16:=hide (DD15.out.kept (Kept.of_oth (Oth.of_below (S:=fun _=>False) hb16) (fun _ _ _ e=>e)))
  have DG16:=hide (DG15.out.kept (Kept.of_oth (Oth.of_below (S:=fun _=>False) hb16) (fun _ _ _ e=>e)))
  clear RA15 KA15 RW15 KW15 RX15 KX15 RG15 KG15 B15 D15 DX15 DD15 DG15 hb16
  have RA16:=hide (blk_range KA16.out)
  have RW16:=hide (blk_range KW16.out)
  have RX16:=hide (blk_range KX16.out)
  have RG16:=hide (blk_range KG16.out)
  have C17:=hide (HEd.out uD d16 w16 DD16.out.rd r16)
  clear r16 HEd
  go_wp2_with (first
    | (refine wpList_load_mid rfl 24 _ rfl w.heap.size 0 rfl cs _ RA16.out Tryz.underlying24 rfl IA.out ?_)
    | (refine wpList_load_mid rfl 36 _ rfl w6.heap.size 0 rfl cW _ RW16.out Tryz.underlying36 rfl IW.out ?_)
    | (refine wpList_load_mid rfl 30 _ rfl w8.heap.size 0 rfl cX _ RX16.out Tryz.underlying30 rfl IX.out ?_)
    | (refine wpList_load_mid rfl 36 _ rfl w11.heap.size 0 rfl cG _ RG16.out Tryz.underlying36 rfl IG.out ?_)
    | fail)
  refine C17.out.mono ?_
  rintro e w17 ⟨rfl,hb17⟩
  clear C17
  have KA17:=hide (KA16.out.below hb17 KA16.out.lt)
  have KW17:=hide (KW16.out.below hb17 KW16.out.lt)
  have KX17:=hide (KX16.out.below hb17 KX16.out.lt)
  have KG17:=hide (KG16.out.below hb17 KG16.out.lt)
  have B17:=hide (B16.out.trans (hb17.mono B16.out.size))
  have z17:=hide hb17.size
  have D17:=hide (D16.out.trans (hb17.mono D16.out.size))
  have DX17:=hide (DX16.out.kept (Kept.of_oth (Oth.of_below (S:=fun _=>False) hb17) (fun _ _ _ e=>e)))
  have DD17:=hide (DD16.out.kept (Kept.of_oth (Oth.of_below (S:=fun _=>False) hb17) (fun _ _ _ e=>e)))
  have DG17:=hide (DG16.out.kept (Kept.of_oth (Oth.of_below (S:=fun _=>False) hb17) (fun _ _ _ e=>e)))
  clear RA16 KA16 RW16 KW16 RX16 KX16 RG16 KG16 B16 D16 DX16 DD16 DG16 hb17
  have RA17:=hide (blk_range KA17.out)
  have RW17:=hide (blk_range KW17.out)
  have RX17:=hide (blk_range KX17.out)
  have RG17:=hide (blk_range KG17.out)
  have C18:=hide (HMx.out uX w7.heap.size w8.heap.size w17 DX17.out)
  rw [ecX.out] at C18
  clear DX17 HMx
  go_wp2_with (first
    | (refine wpList_load_mid rfl 24 _ rfl w.heap.size 0 rfl cs _ RA17.out Tryz.underlying24 rfl IA.out ?_)
    | (refine wpList_load_mid rfl 36 _ rfl w6.heap.size 0 rfl cW _ RW17.out Tryz.underlying36 rfl IW.out ?_)
    | (refine wpList_load_mid rfl 30 _ rfl w8.heap.size 0 rfl cX _ RX17.out Tryz.underlying30 rfl IX.out ?_)
    | (refine wpList_load_mid rfl 36 _ rfl w11.heap.size 0 rfl cG _ RG17.out Tryz.underlying36 rfl IG.out ?_)
    | fail)
  refine C18.out.mono ?_
  rintro e w18 ⟨rfl,-,hO⟩
  have KA18:=hide (KA17.out.othM hO (by have:=z0z.out;have:=z2.out;have:=z3.out;have:=z4.out;have:=z5.out;have:=z6.out;have:=y7.out;have:=z7.out;have:=z8.out;have:=y9.out;have:=z9.out;have:=z10.out;have:=z11.out;have:=y12.out;have:=z12.out;have:=z13.out;have:=z15.out;have:=z16.out;have:=z17.out;omega))
  have KW18:=hide (KW17.out.othM hO (by have:=z0z.out;have:=z2.out;have:=z3.out;have:=z4.out;have:=z5.out;have:=z6.out;have:=y7.out;have:=z7.out;have:=z8.out;have:=y9.out;have:=z9.out;have:=z10.out;have:=z11.out;have:=y12.out;have:=z12.out;have:=z13.out;have:=z15.out;have:=z16.out;have:=z17.out;omega))
  have KX18:=hide (KX17.out.othM hO (by have:=z0z.out;have:=z2.out;have:=z3.out;have:=z4.out;have:=z5.out;have:=z6.out;have:=y7.out;have:=z7.out;have:=z8.out;have:=y9.out;have:=z9.out;have:=z10.out;have:=z11.out;have:=y12.out;have:=z12.out;have:=z13.out;have:=z15.out;have:=z16.out;have:=z17.out;omega))
  have KG18:=hide (KG17.out.othM hO (by have:=z0z.out;have:=z2.out;have:=z3.out;have:=z4.out;have:=z5.out;have:=z6.out;have:=y7.out;have:=z7.out;have:=z8.out;have:=y9.out;have:=z9.out;have:=z10.out;have:=z11.out;have:=y12.out;have:=z12.out;have:=z13.out;have:=z15.out;have:=z16.out;have:=z17.out;omega))
  have hm18:Below w7.heap.size w17 w18:=hO.below (fun k hk=>by have:=z0z.out;have:=z2.out;have:=z3.out;have:=z4.out;have:=z5.out;have:=z6.out;have:=y7.out;have:=z7.out;have:=z8.out;have:=y9.out;have:=z9.out;have:=z10.out;have:=z11.out;have:=y12.out;have:=z12.out;have:=z13.out;have:=z15.out;have:=z16.out;have:=z17.out;omega) D17.out.size
  have B18:=hide (B17.out.trans (hm18.mono (by have:=z0z.out;have:=z2.out;have:=z3.out;have:=z4.out;have:=z5.out;have:=z6.out;have:=y7.out;have:=z7.out;have:=z8.out;have:=y9.out;have:=z9.out;have:=z10.out;have:=z11.out;have:=y12.out;have:=z12.out;have:=z13.out;have:=z15.out;have:=z16.out;have:=z17.out;omega)))
  have D18:=hide (D17.out.trans hm18)
  have DD18:=hide (DD17.out.kept (Kept.of_oth hO (fun k h1 h2=>by have:=z0z.out;have:=z2.out;have:=z3.out;have:=z4.out;have:=z5.out;have:=z6.out;have:=y7.out;have:=z7.out;have:=z8.out;have:=y9.out;have:=z9.out;have:=z10.out;have:=z11.out;have:=y12.out;have:=z12.out;have:=z13.out;have:=z15.out;have:=z16.out;have:=z17.out;omega)))
  have DG18:=hide (DG17.out.kept (Kept.of_oth hO (fun k h1 h2=>by have:=z0z.out;have:=z2.out;have:=z3.out;have:=z4.out;have:=z5.out;have:=z6.out;have:=y7.out;have:=z7.out;have:=z8.out;have:=y9.out;have:=z9.out;have:=z10.out;have:=z11.out;have:=y12.out;have:=z12.out;have:=z13.out;have:=z15.out;have:=z16.out;have:=z17.out;omega)))
  have z18:=hide hO.size
  clear RA17 KA17 RW17 KW17 RX17 KX17 RG17 KG17 B17 D17 hm18 DD17 DG17
  have RA18:=hide (blk_range KA18.out)
  have RW18:=hide (blk_range KW18.out)
  have RX18:=hide (blk_range KX18.out)
  have RG18:=hide (blk_range KG18.out)
  clear hO C18
  have C19:=hide (HMd.out uD w9.heap.size w10.heap.size w18 DD18.out)
  clear DD18 HMd
  go_wp2_with (first
    | (refine wpList_load_mid rfl 24 _ rfl w.heap.size 0 rfl cs _ RA18.out Tryz.underlying24 rfl IA.out ?_)
    | (refine wpList_load_mid rfl 36 _ rfl w6.heap.size 0 rfl cW _ RW18.out Tryz.underlying36 rfl IW.out ?_)
    | (refine wpList_load_mid rfl 30 _ rfl w8.heap.size 0 rfl cX _ RX18.out Tryz.underlying30 rfl IX.out ?_)
    | (refine wpList_load_mid rfl 36 _ rfl w11.heap.size 0 rfl cG _ RG18.out Tryz.underlying36 rfl IG.out ?_)
    | fail)
  refine C19.out.mono ?_
  rintro e w19 ⟨rfl,-,hO⟩
  have KA19:=hide (KA18.out.othM hO (by have:=z0z.out;have:=z2.out;have:=z3.out;have:=z4.out;have:=z5.out;have:=z6.out;have:=y7.out;have:=z7.out;have:=z8.out;have:=y9.out;have:=z9.out;have:=z10.out;have:=z11.out;have:=y12.out;have:=z12.out;have:=z13.out;have:=z15.out;have:=z16.out;have:=z17.out;have:=z18.out;omega))
  have KW19:=hide (KW18.out.othM hO (by have:=z0z.out;have:=z2.out;have:=z3.out;have:=z4.out;have:=z5.out;have:=z6.out;have:=y7.out;have:=z7.out;have:=z8.out;have:=y9.out;have:=z9.out;have:=z10.out;have:=z11.out;have:=y12.out;have:=z12.out;have:=z13.out;have:=z15.out;have:=z16.out;have:=z17.out;have:=z18.out;omega))
  have KX19:=hide (KX18.out.othM hO (by have:=z0z.out;have:=z2.out;have:=z3.out;have:=z4.out;have:=z5.out;have:=z6.out;have:=y7.out;have:=z7.out;have:=z8.out;have:=y9.out;have:=z9.out;have:=z10.out;have:=z11.out;have:=y12.out;have:=z12.out;have:=z13.out;have:=z15.out;have:=z16.out;have:=z17.out;have:=z18.out;omega))
  have KG19:=hide (KG18.out.othM hO (by have:=z0z.out;have:=z2.out;have:=z3.out;have:=z4.out;have:=z5.out;have:=z6.out;have:=y7.out;have:=z7.out;have:=z8.out;have:=y9.out;have:=z9.out;have:=z10.out;have:=z11.out;have:=y12.out;have:=z12.out;have:=z13.out;have:=z15.out;have:=z16.out;have:=z17.out;have:=z18.out;omega))
  have hm19:Below w7.heap.size w18 w19:=hO.below (fun k hk=>by have:=z0z.out;have:=z2.out;have:=z3.out;have:=z4.out;have:=z5.out;have:=z6.out;have:=y7.out;have:=z7.out;have:=z8.out;have:=y9.out;have:=z9.out;have:=z10.out;have:=z11.out;have:=y12.out;have:=z12.out;have:=z13.out;have:=z15.out;have:=z16.out;have:=z17.out;have:=z18.out;omega) D18.out.size
  have B19:=hide (B18.out.trans (hm19.mono (by have:=z0z.out;have:=z2.out;have:=z3.out;have:=z4.out;have:=z5.out;have:=z6.out;have:=y7.out;have:=z7.out;have:=z8.out;have:=y9.out;have:=z9.out;have:=z10.out;have:=z11.out;have:=y12.out;have:=z12.out;have:=z13.out;have:=z15.out;have:=z16.out;have:=z17.out;have:=z18.out;omega)))
  have D19:=hide (D18.out.trans hm19)
  have DG19:=hide (DG18.out.kept (Kept.of_oth hO (fun k h1 h2=>by have:=z0z.out;have:=z2.out;have:=z3.out;have:=z4.out;have:=z5.out;have:=z6.out;have:=y7.out;have:=z7.out;have:=z8.out;have:=y9.out;have:=z9.out;have:=z10.out;have:=z11.out;have:=y12.out;have:=z12.out;have:=z13.out;have:=z15.out;have:=z16.out;have:=z17.out;have:=z18.out;omega)))
  have z19:=hide hO.size
  clear RA18 KA18 RW18 KW18 RX18 KX18 RG18 KG18 B18 D18 hm19 DG18
  have RA19:=hide (blk_range KA19.out)
  have RW19:=hide (blk_range KW19.out)
  have RX19:=hide (blk_range KX19.out)
  have RG19:=hide (blk_range KG19.out)
  clear hO C19
  have C20:=hide (HEr.out uG uW w19 DG19.out.rd (RW.out.below D19.out (Nat.le_refl _)))
  rw [ecG.out,ecW.out] at C20
  go_wp2_with (first
    | (refine wpList_load_mid rfl 24 _ rfl w.heap.size 0 rfl cs _ RA19.out Tryz.underlying24 rfl IA.out ?_)
    | (refine wpList_load_mid rfl 36 _ rfl w6.heap.size 0 rfl cW _ RW19.out Tryz.underlying36 rfl IW.out ?_)
    | (refine wpList_load_mid rfl 30 _ rfl w8.heap.size 0 rfl cX _ RX19.out Tryz.underlying30 rfl IX.out ?_)
    | (refine wpList_load_mid rfl 36 _ rfl w11.heap.size 0 rfl cG _ RG19.out Tryz.underlying36 rfl IG.out ?_)
    | (refine wpList_load_guard (by kernel_rfl) 36 _ rfl w6.heap.size 0 rfl cW _ RW19.out Tryz.underlying36 rfl IW.out ?_)
    | (refine wpList_load_guard (by kernel_rfl) 36 _ rfl w11.heap.size 0 rfl cG _ RG19.out Tryz.underlying36 rfl IG.out ?_)
    | fail)
  refine C20.out.mono ?_
  rintro e w20 ⟨rfl,hb20⟩
  have KA20:=hide (KA19.out.below hb20 KA19.out.lt)
  have KW20:=hide (KW19.out.below hb20 KW19.out.lt)
  have KX20:=hide (KX19.out.below hb20 KX19.out.lt)
  have KG20:=hide (KG19.out.below hb20 KG19.out.lt)
  have B20:=hide (B19.out.trans (hb20.mono B19.out.size))
  have z20:=hide hb20.size
  have D20:=hide (D19.out.trans (hb20.mono D19.out.size))
  have DG20:=hide (DG19.out.kept (Kept.of_oth (Oth.of_below (S:=fun _=>False) hb20) (fun _ _ _ e=>e)))
  clear RA19 KA19 RW19 KW19 RX19 KX19 RG19 KG19 B19 D19 DG19 hb20
  have RA20:=hide (blk_range KA20.out)
  have RW20:=hide (blk_range KW20.out)
  have RX20:=hide (blk_range KX20.out)
  have RG20:=hide (blk_range KG20.out)
  clear C20
  have C21:=hide (HMr.out uG w10.heap.size w11.heap.size w20 DG20.out (Nat.le_of_lt KG20.out.lt))
  rw [ecG.out] at C21
  clear DG20 HMr
  go_wp2_with (first
    | (refine wpList_load_mid rfl 24 _ rfl w.heap.size 0 rfl cs _ RA20.out Tryz.underlying24 rfl IA.out ?_)
    | (refine wpList_load_mid rfl 36 _ rfl w6.heap.size 0 rfl cW _ RW20.out Tryz.underlying36 rfl IW.out ?_)
    | (refine wpList_load_mid rfl 30 _ rfl w8.heap.size 0 rfl cX _ RX20.out Tryz.underlying30 rfl IX.out ?_)
    | (refine wpList_load_mid rfl 36 _ rfl w11.heap.size 0 rfl cG _ RG20.out Tryz.underlying36 rfl IG.out ?_)
    | fail)
  refine C21.out.mono ?_
  rintro e w21 ⟨rfl,oM,hO⟩
  have KA21:=hide (KA20.out.othM hO (by have:=z0z.out;have:=z2.out;have:=z3.out;have:=z4.out;have:=z5.out;have:=z6.out;have:=y7.out;have:=z7.out;have:=z8.out;have:=y9.out;have:=z9.out;have:=z10.out;have:=z11.out;have:=y12.out;have:=z12.out;have:=z13.out;have:=z15.out;have:=z16.out;have:=z17.out;have:=z18.out;have:=z19.out;have:=z20.out;omega))
  have KW21:=hide (KW20.out.othM hO (by have:=z0z.out;have:=z2.out;have:=z3.out;have:=z4.out;have:=z5.out;have:=z6.out;have:=y7.out;have:=z7.out;have:=z8.out;have:=y9.out;have:=z9.out;have:=z10.out;have:=z11.out;have:=y12.out;have:=z12.out;have:=z13.out;have:=z15.out;have:=z16.out;have:=z17.out;have:=z18.out;have:=z19.out;have:=z20.out;omega))
  have KX21:=hide (KX20.out.othM hO (by have:=z0z.out;have:=z2.out;have:=z3.out;have:=z4.out;have:=z5.out;have:=z6.out;have:=y7.out;have:=z7.out;have:=z8.out;have:=y9.out;have:=z9.out;have:=z10.out;have:=z11.out;have:=y12.out;have:=z12.out;have:=z13.out;have:=z15.out;have:=z16.out;have:=z17.out;have:=z18.out;have:=z19.out;have:=z20.out;omega))
  have KG21:=hide (KG20.out.othM hO (by have:=z0z.out;have:=z2.out;have:=z3.out;have:=z4.out;have:=z5.out;have:=z6.out;have:=y7.out;have:=z7.out;have:=z8.out;have:=y9.out;have:=z9.out;have:=z10.out;have:=z11.out;have:=y12.out;have:=z12.out;have:=z13.out;have:=z15.out;have:=z16.out;have:=z17.out;have:=z18.out;have:=z19.out;have:=z20.out;omega))
  have hm21:Below w7.heap.size w20 w21:=hO.below (fun k hk=>by have:=z0z.out;have:=z2.out;have:=z3.out;have:=z4.out;have:=z5.out;have:=z6.out;have:=y7.out;have:=z7.out;have:=z8.out;have:=y9.out;have:=z9.out;have:=z10.out;have:=z11.out;have:=y12.out;have:=z12.out;have:=z13.out;have:=z15.out;have:=z16.out;have:=z17.out;have:=z18.out;have:=z19.out;have:=z20.out;omega) D20.out.size
  have B21:=hide (B20.out.trans (hm21.mono (by have:=z0z.out;have:=z2.out;have:=z3.out;have:=z4.out;have:=z5.out;have:=z6.out;have:=y7.out;have:=z7.out;have:=z8.out;have:=y9.out;have:=z9.out;have:=z10.out;have:=z11.out;have:=y12.out;have:=z12.out;have:=z13.out;have:=z15.out;have:=z16.out;have:=z17.out;have:=z18.out;have:=z19.out;have:=z20.out;omega)))
  have D21:=hide (D20.out.trans hm21)
  have z21:=hide hO.size
  clear RA20 KA20 RW20 KW20 RX20 KX20 RG20 KG20 B20 D20 hm21 
  have RA21:=hide (blk_range KA21.out)
  have RW21:=hide (blk_range KW21.out)
  have RX21:=hide (blk_range KX21.out)
  have RG21:=hide (blk_range KG21.out)
  have DM21:=hide oM.rd
  clear hO C21 oM
  have C22:=hide (HHr.out uG w21 DM21.out)
  rw [ecG.out] at C22
  go_wp2_with (first
    | (refine wpList_load_mid rfl 24 _ rfl w.heap.size 0 rfl cs _ RA21.out Tryz.underlying24 rfl IA.out ?_)
    | (refine wpList_load_mid rfl 36 _ rfl w6.heap.size 0 rfl cW _ RW21.out Tryz.underlying36 rfl IW.out ?_)
    | (refine wpList_load_mid rfl 30 _ rfl w8.heap.size 0 rfl cX _ RX21.out Tryz.underlying30 rfl IX.out ?_)
    | (refine wpList_load_mid rfl 36 _ rfl w11.heap.size 0 rfl cG _ RG21.out Tryz.underlying36 rfl IG.out ?_)
    | fail)
  refine C22.out.mono ?_
  rintro e w22 ⟨rfl,hb22⟩
  have KA22:=hide (KA21.out.below hb22 KA21.out.lt)
  have KW22:=hide (KW21.out.below hb22 KW21.out.lt)
  have KX22:=hide (KX21.out.below hb22 KX21.out.lt)
  have KG22:=hide (KG21.out.below hb22 KG21.out.lt)
  have B22:=hide (B21.out.trans (hb22.mono B21.out.size))
  have z22:=hide hb22.size
  have D22:=hide (D21.out.trans (hb22.mono D21.out.size))
  have DM22:=hide (DM21.out.below hb22 (Nat.le_refl _))
  clear RA21 KA21 RW21 KW21 RX21 KX21 RG21 KG21 B21 D21 DM21 hb22
  have RA22:=hide (blk_range KA22.out)
  have RW22:=hide (blk_range KW22.out)
  have RX22:=hide (blk_range KX22.out)
  have RG22:=hide (blk_range KG22.out)
  clear C22
  go_wp2_with (first
    | (refine wpList_load_mid rfl 24 _ rfl w.heap.size 0 rfl cs _ RA22.out Tryz.underlying24 rfl IA.out ?_)
    | (refine wpList_load_mid rfl 36 _ rfl w6.heap.size 0 rfl cW _ RW22.out Tryz.underlying36 rfl IW.out ?_)
    | (refine wpList_load_mid rfl 30 _ rfl w8.heap.size 0 rfl cX _ RX22.out Tryz.underlying30 rfl IX.out ?_)
    | (refine wpList_load_mid rfl 36 _ rfl w11.heap.size 0 rfl cG _ RG22.out Tryz.underlying36 rfl IG.out ?_)
    | fail)
  refine (HT.out w22 B22.out).mono ?_
  rintro e w23 ⟨u23,rfl,o23,hb23⟩
  have DT23:=hide o23.rd
  have KA23:=hide (KA22.out.below hb23 KA22.out.lt)
  have KW23:=hide (KW22.out.below hb23 KW22.out.lt)
  have KX23:=hide (KX22.out.below hb23 KX22.out.lt)
  have KG23:=hide (KG22.out.below hb23 KG22.out.lt)
  have B23:=hide (B22.out.trans (hb23.mono B22.out.size))
  have z23:=hide hb23.size
  have D23:=hide (D22.out.trans (hb23.mono D22.out.size))
  have DM23:=hide (DM22.out.below hb23 (Nat.le_refl _))
  clear RA22 KA22 RW22 KW22 RX22 KX22 RG22 KG22 B22 D22 DM22 hb23
  have RA23:=hide (blk_range KA23.out)
  have RW23:=hide (blk_range KW23.out)
  have RX23:=hide (blk_range KX23.out)
  have RG23:=hide (blk_range KG23.out)
  rw [show lgV a0 u23=.agg (ldC a0 u23).toArray from rfl]
  clear o23
  go_wp2_with (first
    | (refine wpList_load_mid rfl 24 _ rfl w.heap.size 0 rfl cs _ RA23.out Tryz.underlying24 rfl IA.out ?_)
    | (refine wpList_load_mid rfl 36 _ rfl w6.heap.size 0 rfl cW _ RW23.out Tryz.underlying36 rfl IW.out ?_)
    | (refine wpList_load_mid rfl 30 _ rfl w8.heap.size 0 rfl cX _ RX23.out Tryz.underlying30 rfl IX.out ?_)
    | (refine wpList_load_mid rfl 36 _ rfl w11.heap.size 0 rfl cG _ RG23.out Tryz.underlying36 rfl IG.out ?_)
    | fail)
  refine (HD.out w23 B23.out).mono ?_
  rintro e w24 ⟨d24,rfl,o24,hb24⟩
  have r24:=o24.rd
  clear o24
  have KA24:=hide (KA23.out.below hb24 KA23.out.lt)
  have KW24:=hide (KW23.out.below hb24 KW23.out.lt)
  have KX24:=hide (KX23.out.below hb24 KX23.out.lt)
  have KG24:=hide (KG23.out.below hb24 KG23.out.lt)
  have B24:=hide (B23.out.trans (hb24.mono B23.out.size))
  have z24:=hide hb24.size
  have D24:=hide (D23.out.trans (hb24.mono D23.out.size))
  have DM24:=hide (DM23.out.below hb24 (Nat.le_refl _))
  have DT24:=hide (DT23.out.below hb24 (Nat.le_refl _))
  clear RA23 KA23 RW23 KW23 RX23 KX23 RG23 KG23 B23 D23 DM23 DT23 hb24
  have RA24:=hide (blk_range KA24.out)
  have RW24:=hide (blk_range KW24.out)
  have RX24:=hide (blk_range KX24.out)
  have RG24:=hide (blk_range KG24.out)
  have C25:=hide (HI.out u23 d24 w24 DT24.out r24)
  rw [show lgV a0 u23=.agg (ldC a0 u23).toArray from rfl] at C25
  clear r24 DT24
  generalize ldC a0 u23=c23 at C25 ⊢
  go_wp2_with (first
    | (refine wpList_load_mid rfl 24 _ rfl w.heap.size 0 rfl cs _ RA24.out Tryz.underlying24 rfl IA.out ?_)
    | (refine wpList_load_mid rfl 36 _ rfl w6.heap.size 0 rfl cW _ RW24.out Tryz.underlying36 rfl IW.out ?_)
    | (refine wpList_load_mid rfl 30 _ rfl w8.heap.size 0 rfl cX _ RX24.out Tryz.underlying30 rfl IX.out ?_)
    | (refine wpList_load_mid rfl 36 _ rfl w11.heap.size 0 rfl cG _ RG24.out Tryz.underlying36 rfl IG.out ?_)
    | fail)
  refine C25.out.mono ?_
  rintro e w25 ⟨uH,rfl,oH,hb25⟩
  have DH25:=hide oH
  clear C25
  have KA25:=hide (KA24.out.below hb25 KA24.out.lt)
  have KW25:=hide (KW24.out.below hb25 KW24.out.lt)
  have KX25:=hide (KX24.out.below hb25 KX24.out.lt)
  have KG25:=hide (KG24.out.below hb25 KG24.out.lt)
  have B25:=hide (B24.out.trans (hb25.mono B24.out.size))
  have z25:=hide hb25.size
  have D25:=hide (D24.out.trans (hb25.mono D24.out.size))
  have DM25:=hide (DM24.out.below hb25 (Nat.le_refl _))
  clear RA24 KA24 RW24 KW24 RX24 KX24 RG24 KG24 B24 D24 DM24 hb25
  have RA25:=hide (blk_range KA25.out)
  have RW25:=hide (blk_range KW25.out)
  have RX25:=hide (blk_range KX25.out)
  have RG25:=hide (blk_range KG25.out)
  obtain ⟨cH,hcH⟩:∃ c,wdC QW uH=c:=⟨_,rfl⟩
  have ecH:=hide (show wdV QW uH=.agg cH.toArray from by rw [<- hcH];rfl)
  rw [ecH.out]
  have bz25:Blk (w25.alloc (.cells #[.int .i64 0,.slice none 0 0,.slice none 0 0,.slice none 0 0,.slice none 0 0,.slice none 0 0,.slice none 0 0] 36)) w25.heap.size 36 [.int .i64 0,.slice none 0 0,.slice none 0 0,.slice none 0 0,.slice none 0 0,.slice none 0 0,.slice none 0 0]:=Blk.new w25 _ _
  have oneH:=hide (show cH.toArray.all (·.oneCell')=true from by rw [List.all_toArray,<- hcH];exact wdC_one oH.rd)
  have IH:=hide (show (Tryz.prog.info? 36).map (·.size)=some cH.length from by rw [<- hcH];exact Tryz.infoBWd)
  have HtH:=hide (show (w25.alloc (.cells #[.int .i64 0,.slice none 0 0,.slice none 0 0,.slice none 0 0,.slice none 0 0,.slice none 0 0,.slice none 0 0] 36)).there w25.heap.size 0 cH.toArray.size from bz25.there (by rw [List.size_toArray,<- hcH];rfl))
  obtain ⟨w26,hw26⟩:∃ x,(w25.alloc (.cells #[.int .i64 0,.slice none 0 0,.slice none 0 0,.slice none 0 0,.slice none 0 0,.slice none 0 0,.slice none 0 0] 36)).setCells w25.heap.size 0 cH=x:=⟨_,rfl⟩
  have KH26:=hide (show Blk w26 w25.heap.size 36 cH from by rw [<- hw26];exact blk_all bz25 (by rw [<- hcH];rfl))
  have hb26:Below w25.heap.size w25 w26:=by rw [<- hw26];exact ((Below.refl _ w25).alloc (Nat.le_refl _) _).trans (putC_below (Nat.le_refl _) _ _ _)
  have Hw26:=hide hw26
  have y26:=hide (KH26.out.lt)
  clear bz25 hw26
  have KA26:=hide (KA25.out.below hb26 KA25.out.lt)
  have KW26:=hide (KW25.out.below hb26 KW25.out.lt)
  have KX26:=hide (KX25.out.below hb26 KX25.out.lt)
  have KG26:=hide (KG25.out.below hb26 KG25.out.lt)
  have B26:=hide (B25.out.trans (hb26.mono B25.out.size))
  have z26:=hide hb26.size
  have D26:=hide (D25.out.trans (hb26.mono D25.out.size))
  have DM26:=hide (DM25.out.below hb26 (Nat.le_refl _))
  have DH26:=hide (DH25.out.kept (Kept.of_oth (Oth.of_below (S:=fun _=>False) hb26) (fun _ _ _ e=>e)))
  clear RA25 KA25 RW25 KW25 RX25 KX25 RG25 KG25 B25 D25 DM25 DH25 hb26
  have RA26:=hide (blk_range KA26.out)
  have RW26:=hide (blk_range KW26.out)
  have RX26:=hide (blk_range KX26.out)
  have RG26:=hide (blk_range KG26.out)
  have RH26:=hide (blk_range KH26.out)
  have C27:=hide (HEr.out uH uW w26 DH26.out.rd (RW.out.below D26.out (Nat.le_refl _)))
  rw [ecH.out,ecW.out] at C27
  clear oH hcH DH26
  go_wp2_with (first
    | (refine wpList_load_mid rfl 24 _ rfl w.heap.size 0 rfl cs _ RA26.out Tryz.underlying24 rfl IA.out ?_)
    | (refine wpList_load_mid rfl 36 _ rfl w6.heap.size 0 rfl cW _ RW26.out Tryz.underlying36 rfl IW.out ?_)
    | (refine wpList_load_mid rfl 30 _ rfl w8.heap.size 0 rfl cX _ RX26.out Tryz.underlying30 rfl IX.out ?_)
    | (refine wpList_load_mid rfl 36 _ rfl w11.heap.size 0 rfl cG _ RG26.out Tryz.underlying36 rfl IG.out ?_)
    | (refine wpList_load_mid rfl 36 _ rfl w25.heap.size 0 rfl cH _ RH26.out Tryz.underlying36 rfl IH.out ?_)
    | (refine wpList_store_mid rfl 36 _ _ rfl w25.heap.size 0 cH.toArray rfl rfl HtH.out (by simpa using IH.out) oneH.out ?_;rw [Hw26.out])
    | fail)
  refine C27.out.mono ?_
  rintro e w27 ⟨rfl,hb27⟩
  have KA27:=hide (KA26.out.below hb27 KA26.out.lt)
  have KW27:=hide (KW26.out.below hb27 KW26.out.lt)
  have KX27:=hide (KX26.out.below hb27 KX26.out.lt)
  have KG27:=hide (KG26.out.below hb27 KG26.out.lt)
  have KH27:=hide (KH26.out.below hb27 KH26.out.lt)
  have B27:=hide (B26.out.trans (hb27.mono B26.out.size))
  have z27:=hide hb27.size
  have D27:=hide (D26.out.trans (hb27.mono D26.out.size))
  have DM27:=hide (DM26.out.below hb27 (Nat.le_refl _))
  clear RA26 KA26 RW26 KW26 RX26 KX26 RG26 KG26 RH26 KH26 B26 D26 DM26 hb27
  have RA27:=hide (blk_range KA27.out)
  have RW27:=hide (blk_range KW27.out)
  have RX27:=hide (blk_range KX27.out)
  have RG27:=hide (blk_range KG27.out)
  have RH27:=hide (blk_range KH27.out)
  clear C27 oneH HtH Hw26
  have C28:=hide (HHr.out uG w27 DM27.out)
  rw [ecG.out] at C28
  go_wp2_with (first
    | (refine wpList_load_mid rfl 24 _ rfl w.heap.size 0 rfl cs _ RA27.out Tryz.underlying24 rfl IA.out ?_)
    | (refine wpList_load_mid rfl 36 _ rfl w6.heap.size 0 rfl cW _ RW27.out Tryz.underlying36 rfl IW.out ?_)
    | (refine wpList_load_mid rfl 30 _ rfl w8.heap.size 0 rfl cX _ RX27.out Tryz.underlying30 rfl IX.out ?_)
    | (refine wpList_load_mid rfl 36 _ rfl w11.heap.size 0 rfl cG _ RG27.out Tryz.underlying36 rfl IG.out ?_)
    | (refine wpList_load_mid rfl 36 _ rfl w25.heap.size 0 rfl cH _ RH27.out Tryz.underlying36 rfl IH.out ?_)
    | fail)
  refine C28.out.mono ?_
  rintro e w28 ⟨rfl,hb28⟩
  have B28:=hide (B27.out.trans (hb28.mono B27.out.size))
  clear hb28
  go_wp2
  go_ret
  exact ⟨rfl,B28.out⟩
theorem fnExactWorldNew_lifted (os:Os) (started:os.Started) (H:Type) (enc:TypeId × Value->H) :
    ReturnsInHanded {} Tryz.checked os 3 .any (Rows.fnExactWorldNewSpec.pre6 enc Tryz.prog Tryz.f3 Rows.fnExactWorldNewRow.domain false) (Rows.fnExactWorldNewSpec.post enc Tryz.prog Tryz.f3 false true false false):=by
  refine returnsInHanded_of_change (C:=Tryz.checked) fnExactWorldNew_own started (by kernel_rfl) Tryz.func3
    (ChangeSpec.witness6 (enc:=enc) (C:=Tryz.checked) false ⟨#[],#[.agg #[.int .i64 0,.slice none 0 0],.slice none 0 0],[]⟩ 8 (by kernel_rfl) (by kernel_rfl) (by kernel_rfl) (by kernel_rfl)) ?_
  intro W base args ds gs before hval0 hW hcnd _
  have hval:∀ (j:Nat) t v,Tryz.f3.params[j]?=some t->args[j]?=some v->Value.okWide Tryz.prog W .any base t v:=hval0
  have hW':=hW
  obtain ⟨p,q,hA0,hV,rfl,hfz,hnd⟩:=hW
  have hA:DataW.TrodAll enc Tryz.prog W 0 (fun _=>true) true Tryz.f3.params.toList args.toList ds p:=hA0
  rw [Tryz.params3] at hA hval
  obtain ⟨v0,vs0,d0,ds0,p0,q0,hargs,rfl,rfl,h0,r0⟩:=trodAll_cons hA
  obtain ⟨v1,vs1,d1,ds1,p1,q1,rfl,rfl,rfl,h1,r1⟩:=trodAll_cons r0
  obtain ⟨rfl,rfl,rfl⟩:=trodAll_nil r1
  obtain rfl:args=#[v0,v1]:=by cases args;simp_all
  obtain ⟨rfl,rfl⟩:=trodVars_none hV
  have k0:=h0
  have lt0:∀ x ∈ p0,x.block < W.heap.size:=by obtain ⟨m,hm⟩:=k0;exact DataW.trod_lt m _ _ _ hm
  obtain ⟨a0,y0,z0,rfl,w0⟩:∃ (e:Int) (v:Value) (l:List Ac),v0=lgV e v/\RdA W v l/\l.length<=maxLen/\∀ q ∈ l,q.1.size<=maxLen/\q.2.2.2.2.length<=maxLen:=by
    obtain ⟨cs,rfl,hsz⟩:=okWide_struct Tryz.underlying24 (hval 0 24 _ rfl rfl)
    obtain ⟨fuel,hf⟩:=h0
    obtain ⟨e,v,l,q,r⟩:=open_ledger (by simpa [Value.cells] using hf)
    exact ⟨e,v,l,by cases cs;simp at q;subst q;rfl,r⟩
  obtain ⟨a1,len1,cap1,rfl⟩:=okWide_slice Tryz.underlying25 (hval 1 25 v1 rfl rfl)
  have k1:=h1
  have lt1:∀ x ∈ p1,x.block < W.heap.size:=by obtain ⟨m,hm⟩:=k1;exact DataW.trod_lt m _ _ _ hm
  obtain ⟨z1,w1⟩:∃ zs,IsRowS W a1 len1 cap1 zs:=by
    obtain ⟨fuel,hf⟩:=h1
    rcases open_strings Tryz.underlying25 Tryz.underlying9 (by kernel_rfl) hf with ⟨hcs,_⟩ | ⟨x,l,c,zs,hcs,_,hl,hm,hz,_,hcell,hwz⟩
    · simp [Value.cells] at hcs
      obtain ⟨rfl,rfl,rfl⟩:=hcs
      exact ⟨[],.inl ⟨rfl,rfl,rfl,rfl⟩⟩
    · simp [Value.cells] at hcs
      obtain ⟨rfl,rfl,rfl⟩:=hcs
      exact ⟨zs,.inr ⟨_,rfl,hl,hm,by simpa using hz,hcell,hwz⟩⟩
  clear hA0 hval0
  refine (fnExactWorldNew_walk a0 y0 z0 a1 len1 cap1 z1 W w0 w1).mono fun e W' ⟨he,bel⟩=>?_
  subst he
  exact ⟨_,rfl,_,_,_,[],_,[],hW',trodAll_mk1 (shut_bool Tryz.underlying4 _),(trodAll_cons_mk (Below.trod fnExactWorldNew_laidOut (by kernel_rfl) (of_decide_eq_true (by kernel_rfl)) k0 bel lt0) (trodAll_cons_mk (Below.trod fnExactWorldNew_laidOut (by kernel_rfl) (of_decide_eq_true (by kernel_rfl)) k1 bel lt1) trodAll_mk0)),rfl,bel.frame _,fun h=>by cases h⟩
theorem fnExactWorldNew_holds:Rows.FnExactWorldNewSaid :=
  OpenClaim.holds_of_wide 3 Tryz.f3 rfl rfl rfl rfl rfl rfl rfl ⟨rfl,rfl,rfl,rfl,rfl⟩ rfl rfl rfl rfl rfl (by kernel_rfl) Tryz.func3 (by kernel_rfl)
    (of_decide_eq_true (by kernel_rfl)) (by unfold Func.isWrapper;first | (rw [if_pos (by decide +kernel)];kernel_rfl) | (rw [if_neg (by decide +kernel)];exact ⟨rfl,rfl⟩))
    (fun os started H enc _=>fnExactWorldNew_lifted os started H enc)
end Go.Proofs.YthidkbhiikdokaaGreat
