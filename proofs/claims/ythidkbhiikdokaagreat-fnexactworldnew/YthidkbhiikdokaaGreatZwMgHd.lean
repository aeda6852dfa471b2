/- Words held against their marks. -/
import Derived.Test.YthidkbhiikdokaaGreatZwSnMem
import Derived.Deep.CutRange
set_option maxRecDepth 20000
set_option maxHeartbeats 8000000
namespace Go.Proofs.YthidkbhiikdokaaGreat
open Go.RowKit Go.Sort
set_option linter.unusedVariables false
theorem rdKs_parts {w:World} {a:Option Addr} {n cap:Nat} {M:List Bk} (h:RdKs w (.slice a n cap) M) (hp:0 < M.length):∃ b off,a=some ⟨b,off,none⟩/\b < w.heap.size/\∀ i (hi:i < M.length),∃ lv,BkAt w b (off+i * 14) M[i] lv/\RdK w M[i] lv:=by
  rcases h with ⟨a',cap',hv,rfl,-⟩ | ⟨b,off,cap',h0,hv,h1,h2,h3,h4⟩
  · simp at hp
  · simp only [Value.slice.injEq] at hv
    exact ⟨b,off,hv.1,h3,h4⟩
theorem totM_snocH (l:List Bk) (k:Nat) (h:k < l.length):totM (l.take (k+1))=totM (l.take k)+mkN l[k]:=by
  unfold totM
  rw [List.take_succ_eq_append_getElem h,List.map_append,List.sum_append]
  simp
theorem totM_leH (l:List Bk) (k:Nat) (h:k < l.length):totM (l.take k)+mkN l[k]<=totM l:=by
  rw [<- totM_snocH l k h]
  unfold totM
  have:(l.map mkN).sum=((l.take (k+1)).map mkN).sum+((l.drop (k+1)).map mkN).sum:=by
    rw [<- List.sum_append,<- List.map_append,List.take_append_drop]
  omega
theorem heldBlockS_any (v:Value) (l:List Bk) (k:Nat) (w:World) (hr:RdKs w v (mkLk k l)) (hl:l.length<=10000000) (hl1:∀ b ∈ l,b.qw.length<=4000000/\b.tw.length<=4000000/\b.th.length<=4000000/\b.ts.length<=4000000/\b.nx.length<=4000000) (hk:k+totM l<=80000000) (hk0:0 < k) :
    Calls Tryz.prog 43 #[v,.int .i64 (k:Int)] w fun e w'=>e=.returned (.int .i64 ((k+totM l:Nat):Int))/\Below w.heap.size w w':=by
  have hML:=mkLk_len l k
  obtain ⟨a,cap,hv⟩:=hr.shape
  rw [hML] at hv
  subst hv
  have Hr:=hide hr
  have Hl1:=hide hl1
  have HML:=hide hML
  clear hr hl1 hML
  go_enter Tryz.func43,Tryz.ntmps43
  go_wp2
  go_loopw [1,5] (fun kv iv wr=>∃ j:Nat,j<=l.length/\iv=.int .i64 (j:Int)/\kv=.int .i64 ((k+totM (l.take j):Nat):Int)/\Below w.heap.size w wr) (fun _ iv _=>l.length - (intOf iv).toNat)
  case atStart=>exact ⟨0,Nat.zero_le _,rfl,rfl,Below.refl _ _⟩
  case round =>
    obtain ⟨j,hj,rfl,rfl,hb⟩:=hrel
    by_cases hlt:j < l.length
    · obtain ⟨b,off,hv,h3,hcell⟩:=rdKs_parts (Hr.out) (by rw [HML.out];omega)
      subst hv
      obtain ⟨lv,hat,hrl⟩:=hcell j (by rw [HML.out];exact hlt)
      rw [mkLk_at l k j (by rw [HML.out];exact hlt) hlt] at hat hrl
      have hl5:=Hl1.out l[j] (List.getElem_mem hlt)
      have hsn:=totM_snocH l j hlt
      have htm:=totM_leH l j hlt
      have hki:(j:Int) < (l.length:Int):=by omega
      have hk00:(0:Int)<=(j:Int):=by omega
      obtain ⟨K,hK⟩:∃ K:Nat,k+totM (l.take j)=K:=⟨_,rfl⟩
      rw [hK] at hat hrl ⊢
      have Hsn:Hid (k+totM (l.take (j+1))=K+mkN l[j]):=hide (by omega)
      have hK2:K+mkN l[j]<=80000000:=by omega
      have hK0:0 < K:=by omega
      clear hK hsn htm hcell
      generalize l[j]=x at hat hrl hl5 Hsn hK2
      obtain ⟨aq,cq,aw,cw,ah,ch,at_,ct,an,cn,rfl⟩:=hrl.shapes9
      obtain ⟨id,ep,rd,md,qr,qb,qw,tr,tw,th,ts,en,nx,rt⟩:=x
      obtain ⟨hq,hp,hh,ht,hn⟩:=hrl
      unfold mkN at Hsn hK2
      simp only [mkB,mkS_len,mkI_len,mkT_len,mkV_len] at hat hq hp hh ht hn hl5 Hsn hK2
      obtain ⟨A,hA⟩:∃ A:Nat,K+6+qw.length=A:=⟨_,rfl⟩
      rw [hA] at hat hp hh ht hn
      obtain ⟨B,hB⟩:∃ B:Nat,A+1+tw.length=B:=⟨_,rfl⟩
      rw [hB] at hat hh ht hn
      obtain ⟨C,hC⟩:∃ C:Nat,B+th.length=C:=⟨_,rfl⟩
      rw [hC] at hat ht hn
      obtain ⟨D,hD⟩:∃ D:Nat,C+5 * ts.length=D:=⟨_,rfl⟩
      rw [hD] at hat hn
      obtain ⟨E,hE⟩:∃ E:Nat,D+1+2 * nx.length=E:=⟨_,rfl⟩
      rw [hE] at hat
      have Hsn:Hid (k+totM (l.take (j+1))=E+1):=hide (by have:=Hsn.out;omega)
      have hE2:E+1<=80000000:=by omega
      have hD2:D<=80000000:=by omega
      have hC2:C<=80000000:=by omega
      have hB2:B<=80000000:=by omega
      have hA2:A<=80000000:=by omega
      have hKb:K<=80000000:=by omega
      have HQ:=hide (fun V (hV:Below w.heap.size w V)=>heldStringS_any _ (K+6) qw.length V (hq.below hV (Nat.le_refl _)) (by omega) (by omega) (by omega))
      have HP:=hide (fun V (hV:Below w.heap.size w V)=>heldStringS_any _ (A+1) tw.length V (hp.below hV (Nat.le_refl _)) (by omega) (by omega) (by omega))
      have HH:=hide (fun V (hV:Below w.heap.size w V)=>heldIntS_any _ B th.length V (hh.below hV (Nat.le_refl _)) (by omega) (by omega) (by omega))
      have HX:=hide (fun V (hV:Below w.heap.size w V)=>heldTxS_any _ C ts.length V (ht.below hV (Nat.le_refl _)) (by omega) (by omega) (by omega))
      have HV:=hide (fun V (hV:Below w.heap.size w V)=>heldValS_any _ (D+1) nx.length V (hn.below hV (Nat.le_refl _)) (by omega) (by omega) (by omega))
      have HM1:=hide (fun V=>markText_any (K+3) V (by omega) (by omega))
      have HM2:=hide (fun V=>markText_any E V (by omega) (by omega))
      rw [hA] at HQ
      rw [hB] at HP
      rw [hC] at HH
      rw [hD] at HX
      rw [hE] at HV
      have e1:((K+1:Nat):Int)=(K:Int)+1:=by omega
      have e2:((K+2:Nat):Int)=(K:Int)+1+1:=by omega
      have e3:((K+3:Nat):Int)=(K:Int)+1+1+1:=by omega
      have e4:((K+4:Nat):Int)=(K:Int)+1+1+1+1:=by omega
      have e5:((K+5:Nat):Int)=(K:Int)+1+1+1+1+1:=by omega
      have e6:((K+6:Nat):Int)=(K:Int)+1+1+1+1+1+1:=by omega
      have eA:((A+1:Nat):Int)=(A:Int)+1:=by omega
      have eD:((D+1:Nat):Int)=(D:Int)+1:=by omega
      rw [e1,e2,e4,e5] at hat
      rw [e3] at HM1
      rw [e6] at HQ
      rw [eA] at HP
      rw [eD] at HV
      obtain ⟨en2,hen⟩:∃ x,decide ((D:Int) % 3=0)=x:=⟨_,rfl⟩
      rw [hen] at hat
      have hen2:((D:Int) % 3 == 0)=en2:=by rw [<- hen,Bool.beq_eq_decide_eq]
      generalize mtx (K+3)=m1 at hat HM1
      generalize mtx E=m2 at hat HM2
      have HC:=hide (fun V (hV:Below w.heap.size w V)=>(hat.below hV h3).cells)
      simp only at HC
      have Hb:=hide hb
      have hEn:Hid (E+1=E+1):=hide rfl
      clear hq hp hh ht hn hat e1 e2 e3 e4 e5 e6 eA eD hA hB hC hD hE hb hl5 hK2
      obtain ⟨c0,c1,c2,c3,-,-,-,-,-,-,-,-,-,-⟩:=HC.out wr Hb.out
      have g3:=cell_regrown c3
      have HR1:=hide (fun (d:Nat) (os:Array Obj)=>Calls.regrown_of (HM1.out (grow (redrawn wr d) os)))
      clear HM1 c3
      go_wp2
      refine wp_region_quiet_below (by kernel_rfl) (by kernel_rfl) ?_
      repeat (go_big_quiet_step ((go_at_call 35;exact HR1.out _ _)))
      refine wpQuiet_nil ?_
      intro _ hw'
      obtain ⟨⟨dq,osq⟩,hw''⟩:=hw'
      subst hw''
      have hb2:=Hb.out.trans ((below_regrown wr dq osq).mono Hb.out.size)
      generalize grow (redrawn wr dq) osq=w2 at hb2 ⊢
      clear g3 HR1 c0 c1 c2 Hb
      obtain ⟨-,-,-,-,c4,c5,c6,-,-,-,-,-,-,-⟩:=HC.out w2 hb2
      have HQ2:=hide (HQ.out w2 hb2)
      have Hb2:=hide hb2
      clear hb2 HQ
      go_wp2_with fail
      refine HQ2.out.mono ?_
      rintro e w3 ⟨rfl,hb3⟩
      have hB3:=Hb2.out.trans (hb3.mono Hb2.out.size)
      clear c4 c5 c6 HQ2 hb3 Hb2
      obtain ⟨-,-,-,-,-,-,-,c7,c8,-,-,-,-,-⟩:=HC.out w3 hB3
      have HP3:=hide (HP.out w3 hB3)
      have Hb3:=hide hB3
      have hnA:¬ ((A:Int) < 0):=by omega
      clear hB3 HP
      go_wp2_with fail
      refine HP3.out.mono ?_
      rintro e w4 ⟨rfl,hb4⟩
      have hB4:=Hb3.out.trans (hb4.mono Hb3.out.size)
      clear c7 c8 HP3 hb4 Hb3
      obtain ⟨-,-,-,-,-,-,-,-,-,c9,-,-,-,-⟩:=HC.out w4 hB4
      have HH4:=hide (HH.out w4 hB4)
      have Hb4:=hide hB4
      have hnB:¬ ((B:Int) < 0):=by omega
      clear hB4 HH
      go_wp2_with fail
      refine HH4.out.mono ?_
      rintro e w5 ⟨rfl,hb5⟩
      have hB5:=Hb4.out.trans (hb5.mono Hb4.out.size)
      clear c9 HH4 hb5 Hb4
      obtain ⟨-,-,-,-,-,-,-,-,-,-,c10,-,-,-⟩:=HC.out w5 hB5
      have HX5:=hide (HX.out w5 hB5)
      have Hb5:=hide hB5
      have hnC:¬ ((C:Int) < 0):=by omega
      clear hB5 HX
      go_wp2_with fail
      refine HX5.out.mono ?_
      rintro e w6 ⟨rfl,hb6⟩
      have hB6:=Hb5.out.trans (hb6.mono Hb5.out.size)
      clear c10 HX5 hb6 Hb5
      obtain ⟨-,-,-,-,-,-,-,-,-,-,-,c11,c12,-⟩:=HC.out w6 hB6
      have HV6:=hide (HV.out w6 hB6)
      have Hb6:=hide hB6
      have hnD:¬ ((D:Int) < 0):=by omega
      clear hB6 HV
      go_wp2_with fail
      refine HV6.out.mono ?_
      rintro e w7 ⟨rfl,hb7⟩
      have hB7:=Hb6.out.trans (hb7.mono Hb6.out.size)
      clear c11 c12 HV6 hb7 Hb6
      obtain ⟨-,-,-,-,-,-,-,-,-,-,-,-,-,c13⟩:=HC.out w7 hB7
      have g13:=cell_regrown c13
      have HR2:=hide (fun (d:Nat) (os:Array Obj)=>Calls.regrown_of (HM2.out (grow (redrawn w7 d) os)))
      have Hb7:=hide hB7
      have hnE:¬ ((E:Int) < 0):=by omega
      clear hB7 c13 HC HM2
      go_wp2
      refine wp_region_quiet_below (by kernel_rfl) (by kernel_rfl) ?_
      repeat (go_big_quiet_step ((go_at_call 35;exact HR2.out _ _)))
      refine wpQuiet_nil ?_
      intro _ hw'
      obtain ⟨⟨dq2,osq2⟩,hw''⟩:=hw'
      subst hw''
      have hb8:=Hb7.out.trans ((below_regrown w7 dq2 osq2).mono Hb7.out.size)
      generalize grow (redrawn w7 dq2) osq2=w8 at hb8 ⊢
      clear g13 HR2 Hb7
      go_wp2
      go_roundw
      case rel=>exact ⟨j+1,by omega,by go_num,by rw [Hsn.out];go_num,hb8⟩
      case measure=>simp [intOf];omega
    · have e:j=l.length:=by omega
      have He:Hid (k+totM (l.take j)=k+totM l):=hide (by rw [e,List.take_length])
      clear e
      go_wp2
      go_ret
      exact ⟨ret_int (by rw [He.out]),hb⟩
end Go.Proofs.YthidkbhiikdokaaGreat
namespace Go.Proofs.YthidkbhiikdokaaGreat
open Go.RowKit Go.Sort
set_option linter.unusedVariables false
theorem heldMsgS_any (v:Value) (l:List Mg) (k:Nat) (w:World) (hr:RdMs w v (mkG mkMg nxMg k l)) (hl:l.length<=4000000) (hf:∀ q ∈ l,FewMg q) (hk:nxG nxMg k l<=40000000) (hk0:0 < k) :
    Calls Tryz.prog 45 #[v,.int .i64 (k:Int)] w fun e w'=>e=.returned (.int .i64 ((nxG nxMg k l:Nat):Int))/\Below w.heap.size w w':=by
  obtain ⟨Z,hZ,hr⟩:=hr
  have hZl:Z.length=l.length:=by rw [<- mkG_len mkMg nxMg k l,<- hZ,List.length_map]
  rcases hr with ⟨a,cap,rfl,rfl,-⟩ | ⟨b,off,cap,h0,rfl,h1,h2,h3,h4⟩
  · have e:l=[]:=List.length_eq_zero_iff.1 (by rw [<- hZl];rfl)
    subst e
    go_enter Tryz.func45,Tryz.ntmps45
    go_wp2
    refine wp_loop_rounds 1 ?_
    rw [rounds_succ]
    go_wp2
    go_ret
    exact ⟨rfl,Below.refl _ _⟩
  · have H4 := hide (show ∀ i (h:i < Z.length) (h2:i < l.length),∃ u,w.rangeAt b (off+i * 16) (mgC (mkMg (nxG nxMg k (l.take i)) l[i]) u)/\RdMg w (mkMg (nxG nxMg k (l.take i)) l[i]) u from fun i h h2=>by
      have e:Z[i].1=mkMg (nxG nxMg k (l.take i)) l[i]:=by
        rw [<- mkG_at mkMg nxMg k l i (by rw [mkG_len];exact h2) h2]
        simp only [<- hZ,List.getElem_map]
      have q:w.rangeAt b (off+i * 16) (mgC Z[i].1 Z[i].2)/\RdMg w Z[i].1 Z[i].2:=h4 i h
      rw [e] at q
      exact ⟨_,q⟩)
    have HF:=hide hf
    have Hk:=hide hk
    rw [hZl] at h1 ⊢
    have HZl:=hide hZl
    clear h4 hf hk hZ hZl h0
    go_enter Tryz.func45,Tryz.ntmps45
    go_wp2
    go_loopw [1,5] (fun kv iv wr=>∃ j:Nat,j<=l.length/\iv=.int .i64 (j:Int)/\kv=.int .i64 ((nxG nxMg k (l.take j):Nat):Int)/\Below w.heap.size w wr) (fun _ iv _=>l.length - (intOf iv).toNat)
    case atStart=>exact ⟨0,Nat.zero_le _,rfl,rfl,Below.refl _ _⟩
    case round =>
      obtain ⟨j,hj,rfl,rfl,hb⟩:=hrel
      by_cases hlt:j < l.length
      · obtain ⟨u,hat,hrl⟩:=H4.out j (by rw [HZl.out];exact hlt) hlt
        have hfew:=HF.out l[j] (List.getElem_mem hlt)
        have hnx:nxG nxMg k (l.take (j+1))=nxMg (nxG nxMg k (l.take j)) l[j]:=nxG_take hlt k
        have hle:nxG nxMg k (l.take (j+1))<=40000000:=Nat.le_trans (nxG_le nxMg_ge k l (j+1)) Hk.out
        have hK0:0 < nxG nxMg k (l.take j):=Nat.lt_of_lt_of_le hk0 (nxG_ge nxMg_ge k _)
        rw [hnx] at hle
        have Hnx:=hide hnx
        clear hnx
        generalize nxG nxMg k (l.take j)=K at Hnx hle hK0 hat hrl ⊢
        generalize l[j]=p at hat hrl hfew hle Hnx
        have Hb:=hide hb
        clear hb
        have hnb:=hfew.nb
        have hfb:=hfew.fb
        have hnq:=hfew.nq
        have hnw:=hfew.nw
        have hnh:=hfew.nh
        obtain ⟨kd,tn,ep,bs,vr,vb,vw,gr,gh,gw,qr,qb,qw,tr,tw,th⟩:=p
        obtain ⟨yb,yq,yw,yh⟩:=u
        obtain ⟨hrb,hrq,hrw,hrh⟩:=hrl
        clear hfew
        (try simp only at *)
        obtain ⟨adb,cpb,eb⟩:=hrb.shape
        subst eb
        have hrb:RdKs w (.slice adb (mkLk (K+1+1+1) bs).length cpb) (mkLk (K+1+1+1) bs):=hrb
        obtain ⟨nb,hmb⟩:∃ x,(mkLk (K+1+1+1) bs).length=x:=⟨_,rfl⟩
        obtain ⟨adq,cpq,eb⟩:=hrq.shape
        subst eb
        have hrq:RdS w (.slice adq (mkS (K+1+1+1+totM bs+1+1+1+1+1+1+1+1) qw.length).length cpq) (mkS (K+1+1+1+totM bs+1+1+1+1+1+1+1+1) qw.length):=hrq
        obtain ⟨nq,hmq⟩:∃ x,(mkS (K+1+1+1+totM bs+1+1+1+1+1+1+1+1) qw.length).length=x:=⟨_,rfl⟩
        obtain ⟨adw,cpw,eb⟩:=hrw.shape
        subst eb
        have hrw:RdS w (.slice adw (mkS (K+1+1+1+totM bs+1+1+1+1+1+1+1+1+qw.length+1) tw.length).length cpw) (mkS (K+1+1+1+totM bs+1+1+1+1+1+1+1+1+qw.length+1) tw.length):=hrw
        obtain ⟨nw,hmw⟩:∃ x,(mkS (K+1+1+1+totM bs+1+1+1+1+1+1+1+1+qw.length+1) tw.length).length=x:=⟨_,rfl⟩
        obtain ⟨adh,cph,eb⟩:=hrh.shape
        subst eb
        have hrh:RdI w (.slice adh (mkI (K+1+1+1+totM bs+1+1+1+1+1+1+1+1+qw.length+1+tw.length) th.length).length cph) (mkI (K+1+1+1+totM bs+1+1+1+1+1+1+1+1+qw.length+1+tw.length) th.length):=hrh
        obtain ⟨nh,hmh⟩:∃ x,(mkI (K+1+1+1+totM bs+1+1+1+1+1+1+1+1+qw.length+1+tw.length) th.length).length=x:=⟨_,rfl⟩
        change K+1+1+1+totM bs+1+1+1+1+1+1+1+1+qw.length+1+tw.length+th.length<=40000000 at hle
        have hli:(j:Int) < (l.length:Int):=by omega
        obtain ⟨K1,hK1⟩:∃ x:Nat,K+1+1+1+totM bs=x:=⟨_,rfl⟩
        obtain ⟨K2,hK2⟩:∃ x:Nat,K1+1+1+1+1+1+1+1+1+qw.length=x:=⟨_,rfl⟩
        obtain ⟨K3,hK3⟩:∃ x:Nat,K2+1+tw.length=x:=⟨_,rfl⟩
        obtain ⟨K4,hK4⟩:∃ x:Nat,K3+th.length=x:=⟨_,rfl⟩
        rw [hK1,hK2,hK3,hK4] at hle
        have y0:K=K:=by rfl
        have z0:((K:Nat):Int)=((K:Nat):Int):=by rw [y0] <;> omega
        have y1:K+1=K+1:=by rfl
        have y2:K+1+1=K+1+1:=by rfl
        have z2:((K+1+1:Nat):Int)=(K:Int)+1+1:=by rw [y2] <;> omega
        have y3:K+1+1+1=K+1+1+1:=by rfl
        have y4:K+1+1+1+totM bs=K1:=by rw [hK1]
        have z4:((K+1+1+1+totM bs:Nat):Int)=((K1:Nat):Int):=by rw [y4] <;> omega
        have y5:K+1+1+1+totM bs+1=K1+1:=by rw [hK1]
        have z5:((K+1+1+1+totM bs+1:Nat):Int)=(K1:Int)+1:=by rw [y5] <;> omega
        have y6:K+1+1+1+totM bs+1+1=K1+1+1:=by rw [hK1]
        have y7:K+1+1+1+totM bs+1+1+1=K1+1+1+1:=by rw [hK1]
        have z7:((K+1+1+1+totM bs+1+1+1:Nat):Int)=(K1:Int)+1+1+1:=by rw [y7] <;> omega
        have y8:K+1+1+1+totM bs+1+1+1+1=K1+1+1+1+1:=by rw [hK1]
        have z8:((K+1+1+1+totM bs+1+1+1+1:Nat):Int)=(K1:Int)+1+1+1+1:=by rw [y8] <;> omega
        have y9:K+1+1+1+totM bs+1+1+1+1+1=K1+1+1+1+1+1:=by rw [hK1]
        have y10:K+1+1+1+totM bs+1+1+1+1+1+1=K1+1+1+1+1+1+1:=by rw [hK1]
        have z10:((K+1+1+1+totM bs+1+1+1+1+1+1:Nat):Int)=(K1:Int)+1+1+1+1+1+1:=by rw [y10] <;> omega
        have y11:K+1+1+1+totM bs+1+1+1+1+1+1+1=K1+1+1+1+1+1+1+1:=by rw [hK1]
        have z11:((K+1+1+1+totM bs+1+1+1+1+1+1+1:Nat):Int)=(K1:Int)+1+1+1+1+1+1+1:=by rw [y11] <;> omega
        have y12:K+1+1+1+totM bs+1+1+1+1+1+1+1+1=K1+1+1+1+1+1+1+1+1:=by rw [hK1]
        have y13:K+1+1+1+totM bs+1+1+1+1+1+1+1+1+qw.length=K2:=by rw [hK1,hK2]
        have z13:((K+1+1+1+totM bs+1+1+1+1+1+1+1+1+qw.length:Nat):Int)=((K2:Nat):Int):=by rw [y13] <;> omega
        have y14:K+1+1+1+totM bs+1+1+1+1+1+1+1+1+qw.length+1=K2+1:=by rw [hK1,hK2]
        have y15:K+1+1+1+totM bs+1+1+1+1+1+1+1+1+qw.length+1+tw.length=K3:=by rw [hK1,hK2,hK3]
        have HC:=hide (fun V (hV:Below w.heap.size w V)=>(show V.cell? ⟨b,off+j * 16,none⟩=some (.int .i64 (((K:Nat):Int)))/\V.cell? ⟨b,off+j * 16+1,none⟩=some (.string (mtx (K+1)))/\V.cell? ⟨b,off+j * 16+2,none⟩=some (.int .i64 ((K:Int)+1+1))/\V.cell? ⟨b,off+j * 16+3,none⟩=some (.slice adb nb cpb)/\V.cell? ⟨b,off+j * 16+4,none⟩=some (.int .i64 (((K1:Nat):Int)))/\V.cell? ⟨b,off+j * 16+5,none⟩=some (.int .i64 ((K1:Int)+1))/\V.cell? ⟨b,off+j * 16+6,none⟩=some (.string (mtx (K1+1+1)))/\V.cell? ⟨b,off+j * 16+7,none⟩=some (.int .i64 ((K1:Int)+1+1+1))/\V.cell? ⟨b,off+j * 16+8,none⟩=some (.int .i64 ((K1:Int)+1+1+1+1))/\V.cell? ⟨b,off+j * 16+9,none⟩=some (.string (mtx (K1+1+1+1+1+1)))/\V.cell? ⟨b,off+j * 16+10,none⟩=some (.int .i64 ((K1:Int)+1+1+1+1+1+1))/\V.cell? ⟨b,off+j * 16+11,none⟩=some (.int .i64 ((K1:Int)+1+1+1+1+1+1+1))/\V.cell? ⟨b,off+j * 16+12,none⟩=some (.slice adq nq cpq)/\V.cell? ⟨b,off+j * 16+13,none⟩=some (.int .i64 (((K2:Nat):Int)))/\V.cell? ⟨b,off+j * 16+14,none⟩=some (.slice adw nw cpw)/\V.cell? ⟨b,off+j * 16+15,none⟩=some (.slice adh nh cph) from by
          have r:=range_below hat hV h3
          have r0:=r 0 _ rfl
          rw [Nat.add_zero] at r0
          have r1:=r 1 _ rfl
          have r2:=r 2 _ rfl
          have r3:=r 3 _ rfl
          have r4:=r 4 _ rfl
          have r5:=r 5 _ rfl
          have r6:=r 6 _ rfl
          have r7:=r 7 _ rfl
          have r8:=r 8 _ rfl
          have r9:=r 9 _ rfl
          have r10:=r 10 _ rfl
          have r11:=r 11 _ rfl
          have r12:=r 12 _ rfl
          have r13:=r 13 _ rfl
          have r14:=r 14 _ rfl
          have r15:=r 15 _ rfl
          exact ⟨by rw [<- z0];exact r0,by rw [<- y1];exact r1,by rw [<- z2];exact r2,by rw [<- hmb];exact r3,by rw [<- z4];exact r4,by rw [<- z5];exact r5,by rw [<- y6];exact r6,by rw [<- z7];exact r7,by rw [<- z8];exact r8,by rw [<- y9];exact r9,by rw [<- z10];exact r10,by rw [<- z11];exact r11,by rw [<- hmq];exact r12,by rw [<- z13];exact r13,by rw [<- hmw];exact r14,by rw [<- hmh];exact r15⟩))
        rw [hmb] at hrb
        rw [hmq] at hrq
        rw [y12] at hrq
        rw [hmw] at hrw
        rw [y14] at hrw
        rw [hmh] at hrh
        rw [y15] at hrh
        have Hn2:=hide (show nxG nxMg k (l.take (j+1))=K4 from by rw [Hnx.out];exact (show K+1+1+1+totM bs+1+1+1+1+1+1+1+1+qw.length+1+tw.length+th.length=K4 from by rw [hK1,hK2,hK3,hK4]))
        have hb_K:K<=40000000:=by omega
        have hb_K1:K1<=40000000:=by omega
        have hb_K2:K2<=40000000:=by omega
        have hb_K3:K3<=40000000:=by omega
        have hb_K4:K4<=40000000:=by omega
        have hp_K1:0 < K1:=by omega
        have hp_K2:0 < K2:=by omega
        have hp_K3:0 < K3:=by omega
        have hp_K4:0 < K4:=by omega
        have HA1:=hide (fun V (hV:Below w.heap.size w V)=>heldBlockS_any (.slice adb nb cpb) bs (K+1+1+1) V (hrb.below hV (Nat.le_refl _)) (by omega) (fun b hb=>by have f:=hfb b hb;exact ⟨f.q,f.w,f.h,f.t,f.n⟩) (by omega) (by omega))
        rw [hK1,show ((K+1+1+1:Nat):Int)=(K:Int)+1+1+1 from by omega] at HA1
        have HA2:=hide (fun V (hV:Below w.heap.size w V)=>heldStringS_any (.slice adq nq cpq) (K1+1+1+1+1+1+1+1+1) qw.length V (hrq.below hV (Nat.le_refl _)) (by omega) (by omega) (by omega))
        rw [hK2,show ((K1+1+1+1+1+1+1+1+1:Nat):Int)=(K1:Int)+1+1+1+1+1+1+1+1 from by omega] at HA2
        have HA3:=hide (fun V (hV:Below w.heap.size w V)=>heldStringS_any (.slice adw nw cpw) (K2+1) tw.length V (hrw.below hV (Nat.le_refl _)) (by omega) (by omega) (by omega))
        rw [hK3,show ((K2+1:Nat):Int)=(K2:Int)+1 from by omega] at HA3
        have HA4:=hide (fun V (hV:Below w.heap.size w V)=>heldIntS_any (.slice adh nh cph) (K3) th.length V (hrh.below hV (Nat.le_refl _)) (by omega) (by omega) (by omega))
        rw [hK4] at HA4
        clear hat hrb hmb hrq hmq hrw hmw hrh hmh hle Hnx z0 z2 z4 z5 z7 z8 z10 z11 z13 y0 y1 y2 y3 y4 y5 y6 y7 y8 y9 y10 y11 y12 y13 y14 y15 
        clear hK1 hK2 hK3 hK4
        obtain ⟨c0,c1,c2,c3,c4,c5,c6,c7,c8,c9,c10,c11,c12,c13,c14,c15⟩:=HC.out wr Hb.out
        have Hm:=hide (fun V=>markText_any (K+1) V (by omega) (by omega))
        rw [show ((K+1:Nat):Int)=(K:Int)+1 from by omega] at Hm
        have hbw:b < wr.heap.size:=by have:=Hb.out.size;omega
        have HC1:=hide c1
        go_wp2_with fail
        go_cut [28] from 6 to 170 (fun bv wc=>bv=.bool false/\Below w.heap.size w wc)
        case first =>
          go_region_with (go_at_call 35;refine (Hm.out _).mono ?_;rintro e wt ⟨rfl,hbt⟩;have hct:=(hbt.cell (p:=⟨b,off+j * 16+1,none⟩) (by exact hbw)).trans (by exact HC1.out))
          all_goals
            rename Go.RowKit.Below _ _ _=>hbt
            go_wp2_with fail
            go_meet
            case rel=>exact ⟨by simp,Hb.out.drew.trans (hbt.mono Hb.out.size)⟩
        obtain ⟨w1,rfl⟩:∃ x,x=wc:=⟨_,rfl⟩
        obtain ⟨rfl,hbc⟩:=hcut
        have Hb1:=hide hbc
        clear Hm hbw HC1 hbc Hb c0 c1 c2 c3 c4 c5 c6 c7 c8 c9 c10 c11 c12 c13 c14 c15
        obtain ⟨c0,c1,c2,c3,c4,c5,c6,c7,c8,c9,c10,c11,c12,c13,c14,c15⟩:=HC.out w1 Hb1.out
        have HX:=hide (HA1.out w1 Hb1.out)
        clear HA1
        go_wp2_with fail
        refine HX.out.mono ?_
        rintro e w2 ⟨rfl,hb2⟩
        have Hb2:=hide (Hb1.out.trans (hb2.mono Hb1.out.size))
        clear HX hb2 Hb1 c0 c1 c2 c3 c4 c5 c6 c7 c8 c9 c10 c11 c12 c13 c14 c15
        obtain ⟨c0,c1,c2,c3,c4,c5,c6,c7,c8,c9,c10,c11,c12,c13,c14,c15⟩:=HC.out w2 Hb2.out
        have Hm:=hide (fun V=>markText_any (K1+1+1) V (by omega) (by omega))
        rw [show ((K1+1+1:Nat):Int)=(K1:Int)+1+1 from by omega] at Hm
        have hbw:b < w2.heap.size:=by have:=Hb2.out.size;omega
        have HC6:=hide c6
        go_wp2_with fail
        go_cut [77] from 6 to 170 (fun bv wc=>bv=.bool false/\Below w.heap.size w wc)
        case first =>
          go_region_with (go_at_call 35;refine (Hm.out _).mono ?_;rintro e wt ⟨rfl,hbt⟩;have hct:=(hbt.cell (p:=⟨b,off+j * 16+6,none⟩) (by exact hbw)).trans (by exact HC6.out))
          all_goals
            rename Go.RowKit.Below _ _ _=>hbt
            go_wp2_with fail
            go_meet
            case rel=>exact ⟨by simp,Hb2.out.drew.trans (hbt.mono Hb2.out.size)⟩
        obtain ⟨w3,rfl⟩:∃ x,x=wc:=⟨_,rfl⟩
        obtain ⟨rfl,hbc⟩:=hcut
        have Hb3:=hide hbc
        clear Hm hbw HC6 hbc Hb2 c0 c1 c2 c3 c4 c5 c6 c7 c8 c9 c10 c11 c12 c13 c14 c15
        obtain ⟨c0,c1,c2,c3,c4,c5,c6,c7,c8,c9,c10,c11,c12,c13,c14,c15⟩:=HC.out w3 Hb3.out
        have Hm:=hide (fun V=>markText_any (K1+1+1+1+1+1) V (by omega) (by omega))
        rw [show ((K1+1+1+1+1+1:Nat):Int)=(K1:Int)+1+1+1+1+1 from by omega] at Hm
        have hbw:b < w3.heap.size:=by have:=Hb3.out.size;omega
        have HC9:=hide c9
        go_wp2_with fail
        go_cut [108] from 6 to 170 (fun bv wc=>bv=.bool false/\Below w.heap.size w wc)
        case first =>
          go_region_with (go_at_call 35;refine (Hm.out _).mono ?_;rintro e wt ⟨rfl,hbt⟩;have hct:=(hbt.cell (p:=⟨b,off+j * 16+9,none⟩) (by exact hbw)).trans (by exact HC9.out))
          all_goals
            rename Go.RowKit.Below _ _ _=>hbt
            go_wp2_with fail
            go_meet
            case rel=>exact ⟨by simp,Hb3.out.drew.trans (hbt.mono Hb3.out.size)⟩
        obtain ⟨w4,rfl⟩:∃ x,x=wc:=⟨_,rfl⟩
        obtain ⟨rfl,hbc⟩:=hcut
        have Hb4:=hide hbc
        clear Hm hbw HC9 hbc Hb3 c0 c1 c2 c3 c4 c5 c6 c7 c8 c9 c10 c11 c12 c13 c14 c15
        obtain ⟨c0,c1,c2,c3,c4,c5,c6,c7,c8,c9,c10,c11,c12,c13,c14,c15⟩:=HC.out w4 Hb4.out
        have HX:=hide (HA2.out w4 Hb4.out)
        clear HA2
        go_wp2_with fail
        refine HX.out.mono ?_
        rintro e w5 ⟨rfl,hb5⟩
        have Hb5:=hide (Hb4.out.trans (hb5.mono Hb4.out.size))
        clear HX hb5 Hb4 c0 c1 c2 c3 c4 c5 c6 c7 c8 c9 c10 c11 c12 c13 c14 c15
        obtain ⟨c0,c1,c2,c3,c4,c5,c6,c7,c8,c9,c10,c11,c12,c13,c14,c15⟩:=HC.out w5 Hb5.out
        have HX:=hide (HA3.out w5 Hb5.out)
        clear HA3
        go_wp2_with fail
        refine HX.out.mono ?_
        rintro e w6 ⟨rfl,hb6⟩
        have Hb6:=hide (Hb5.out.trans (hb6.mono Hb5.out.size))
        clear HX hb6 Hb5 c0 c1 c2 c3 c4 c5 c6 c7 c8 c9 c10 c11 c12 c13 c14 c15
        obtain ⟨c0,c1,c2,c3,c4,c5,c6,c7,c8,c9,c10,c11,c12,c13,c14,c15⟩:=HC.out w6 Hb6.out
        have HX:=hide (HA4.out w6 Hb6.out)
        clear HA4
        go_wp2_with fail
        refine HX.out.mono ?_
        rintro e w7 ⟨rfl,hb7⟩
        have Hb7:=hide (Hb6.out.trans (hb7.mono Hb6.out.size))
        clear HX hb7 Hb6 c0 c1 c2 c3 c4 c5 c6 c7 c8 c9 c10 c11 c12 c13 c14 c15
        go_wp2
        go_roundw
        case rel=>exact ⟨j+1,by omega,by go_num,(by rw [Hn2.out];try go_num),Hb7.out⟩
        case measure=>simp [intOf];omega
      · have e:j=l.length:=by omega
        have HT:Hid (nxG nxMg k (l.take j)=nxG nxMg k l):=hide (by rw [e,List.take_length])
        clear e
        generalize nxG nxMg k (l.take j)=K at HT
        go_wp2
        go_ret
        exact ⟨ret_int (by rw [HT.out]),hb⟩
end Go.Proofs.YthidkbhiikdokaaGreat
