/- Votes and leavings marked, with what they are then, and held against their marks. -/
import Derived.Test.YthidkbhiikdokaaGreatZwKsMark
import Derived.Test.YthidkbhiikdokaaGreatZwInr
import Derived.Test.YthidkbhiikdokaaGreatZwVtTo
set_option maxRecDepth 20000
set_option maxHeartbeats 8000000
namespace Go.Proofs.YthidkbhiikdokaaGreat
open Go.RowKit Go.Sort
set_option linter.unusedVariables false
theorem mixZ_snd (k:Nat) (Z:List (Bk × Bv)) (j:Nat):(mixZ k Z j).map Prod.snd=Z.map Prod.snd:=by
  unfold mixZ
  rw [List.map_append,List.map_take,show (fun x:Bk × Bv=>x.2)=Prod.snd from rfl,List.map_snd_zip (by simp [mkLk_len]),List.map_drop,List.take_append_drop]
theorem mixZ_two (k:Nat) (Z:List (Bk × Bv)) (j:Nat) (i:Nat) (h:i < (mixZ k Z j).length) (h2:i < Z.length):(mixZ k Z j)[i].2=Z[i].2:=by
  have e:((mixZ k Z j).map Prod.snd)[i]?=(Z.map Prod.snd)[i]?:=by rw [mixZ_snd]
  rw [List.getElem?_map,List.getElem?_map,List.getElem?_eq_getElem h,List.getElem?_eq_getElem h2] at e
  simpa using e
theorem markKx_any (v:Value) (l:List Bk) (k base top:Nat) (w:World) (ho0:OwnKx base top w v l) (hl:l.length<=10000000) (hl1:∀ b ∈ l,b.qw.length<=4000000/\b.tw.length<=4000000/\b.th.length<=4000000/\b.ts.length<=4000000/\b.nx.length<=4000000) (hk:k+totM l<=80000000) (hk0:0 < k) :
    Calls Tryz.prog 37 #[v,.int .i64 (k:Int)] w fun e w'=>e=.returned (.int .i64 ((k+totM l:Nat):Int))/\OwnKx base top w' v (mkLk k l)/\Oth (fun x=>base<=x/\x < top) w w':=by
  rcases ho0 with ⟨rfl,rfl⟩ | ho0
  · go_enter Tryz.func37,Tryz.ntmps37
    go_wp2
    refine wp_loop_rounds 1 ?_
    rw [rounds_succ]
    go_wp2
    go_ret
    exact ⟨by simp [totM],.inl ⟨rfl,by simp [mkLk]⟩,Oth.refl _ _⟩
  obtain ⟨g,cap,Z,hZ,rfl,hrow0,hkv0,hgt,htop⟩:=ho0
  obtain ⟨n,hn⟩:∃ n,l.length=n:=⟨_,rfl⟩
  have hZl:Z.length=n:=by rw [<- hn,<- hZ];simp
  have hSg:(fun x=>base<=x/\x < top) g:=⟨(World.ownsRow.lt hrow0 g rfl).1,hgt⟩
  have HSall:Hid (∀ j (h:j < Z.length) x,Z[j].2.has x->base<=x/\x < top):=hide (fun j h x hx=>⟨((hkv0.own j h).in9 x hx).1,htop j h x hx⟩)
  have HM0:Hid (MidK base (fun x=>base<=x/\x < top) w w g n cap (mixZ k Z 0) ((mixZ k Z 0).map bkP).flatten):=hide (by
    rw [mixZ_zero]
    rw [hn] at hrow0
    exact ⟨hrow0,hkv0,Oth.refl _ _⟩)
  have HZ:=hide hZ
  have Hl1:=hide hl1
  have Hkk:=hide hk
  have HSg:=hide hSg
  rw [hn] at hl ⊢
  have Hn:=hide hn
  clear hrow0 hkv0 htop hgt hZ hl1 hk hn hSg
  go_enter Tryz.func37,Tryz.ntmps37
  go_wp2
  go_loopw [1,5] (fun kv iv wr=>∃ j:Nat,j<=n/\iv=.int .i64 (j:Int)/\kv=.int .i64 ((k+totM (l.take j):Nat):Int)/\MidK base (fun x=>base<=x/\x < top) w wr g n cap (mixZ k Z j) ((mixZ k Z j).map bkP).flatten)
    (fun _ iv _=>n - (intOf iv).toNat)
  case atStart=>exact ⟨0,Nat.zero_le _,rfl,by simp [totM],HM0.out⟩
  case round =>
    obtain ⟨j,hj,rfl,rfl,hm⟩:=hrel
    clear HM0
    by_cases hlt:j < n
    · have hjZ:j < Z.length:=by omega
      have hjl:j < l.length:=by have:=Hn.out;omega
      have eZ:l[j]=Z[j].1:=by have:=HZ.out;subst this;simp
      have hmx:=mixZ_len k Z j (by omega)
      have hjm:j < (mixZ k Z j).length:=by omega
      have hnow:=mixZ_now k Z j hjZ hjm
      have hYl:((mixZ k Z j).map bkP).flatten.length=14 * n:=by rw [flat_len 14 _ (bkP_sz _),List.length_map,hmx,hZl];omega
      have Hat:Hid (∀ t,t < 14->((mixZ k Z j).map bkP).flatten[j * 14+t]?=(bkC Z[j].1 Z[j].2)[t]?):=hide (fun t ht=>mix_at hjZ t ht)
      have Hb:=hide (Hl1.out l[j] (List.getElem_mem hjl))
      have htot:=totM_le l (j+1)
      rw [totM_snoc l j hjl] at htot
      have htk:k+totM (l.take j)+mkN l[j]<=80000000:=by have:=Hkk.out;omega
      have HnxK:Hid (k+totM (l.take (j+1))=k+totM (l.take j)+mkN l[j]):=hide (by rw [totM_snoc l j hjl];omega)
      have HEnd:Hid (∀ Y,Y=setAll ((mixZ k Z j).map bkP).flatten (j * 14) (bkC (mkB (k+totM (l.take j)) Z[j].1) Z[j].2)->Y=((mixZ k Z (j+1)).map bkP).flatten):=hide (fun Y hY=>by
        rw [hY,setAll_flat 14 _ _ j (by simpa [hmx] using hjZ) (bkP_sz _) rfl,<- mixZ_next k Z j hjZ,List.map_set,HZ.out]
        rfl)
      have Hmix:Hid ((mixZ k Z j).set j (mkB (k+totM (l.take j)) Z[j].1,Z[j].2)=mixZ k Z (j+1)):=hide (by have:=mixZ_next k Z j hjZ;rw [HZ.out] at this;exact this)
      have HS1:Hid (∀ x,Z[j].2.has x->base<=x/\x < top):=hide (HSall.out j hjZ)
      have hin0:=hm.kvs.inner j hjm
      rw [hnow] at hin0
      have Hin:=hide hin0
      have ho0:=hm.kvs.own j hjm
      rw [hnow] at ho0
      have hK0:0 < k+totM (l.take j):=by omega
      rw [eZ] at Hb htk HnxK
      generalize k+totM (l.take j)=K at htk HnxK HEnd Hmix hK0 ⊢
      generalize hZX:mixZ k Z j=X at hm hmx hjm hnow hYl Hat HEnd Hmix
      generalize hYX:(X.map bkP).flatten=Y at hm hYl Hat HEnd
      generalize hq:Z[j]=zq at hnow Hat Hb htk HnxK HEnd Hmix HS1 Hin ho0 hin0
      obtain ⟨b,bv⟩:=zq
      clear hZX hYX hq htot eZ hin0 hjl
      simp only at *
      obtain ⟨aq,cq,aw,cw,ah,ch,at_,ct,an,cn,rfl⟩:=ho0.rd.shapes9
      obtain ⟨id,ep,rd,md,qr,qb,qw,tr,tw,th,ts,en,nx,rt⟩:=b
      simp only [mkN] at *
      have hli:(j:Int) < (n:Int):=by omega
      clear ho0
      have HM:=hide (show MidK base (fun x=>base<=x/\x < top) w wr g n cap (X.set j (⟨id,ep,rd,md,qr,qb,qw,tr,tw,th,ts,en,nx,rt⟩,(⟨.slice aq qw.length cq,.slice aw tw.length cw,.slice ah th.length ch,.slice at_ ts.length ct,.slice an nx.length cn⟩:Bv))) Y from by rw [<- hnow,List.set_getElem_self];exact hm)
      clear hm hnow
      obtain ⟨⟨y0,q0⟩,f0,-⟩:=HM.out.cell (by simp [hYl]) (j * 14) (by omega)
      obtain ⟨⟨y1,q1⟩,f1,-⟩:=HM.out.cell (by simp [hYl]) (j * 14+1) (by omega)
      obtain ⟨⟨y2,q2⟩,f2,-⟩:=HM.out.cell (by simp [hYl]) (j * 14+2) (by omega)
      have HT1:=hide (fun V=>markText_any (K+3) V (by omega) (by omega))
      rw [show ((K+3:Nat):Int)=(K:Int)+1+1+1 from by omega] at HT1
      have HEnd:=hide (HEnd.out)
      have HMn:=hide (((HM.out.set HSg.out (j * 14) (.int .i64 (K:Int))).set HSg.out (j * 14+1) (.int .i64 ((K:Int)+1))).set HSg.out (j * 14+2) (.int .i64 ((K:Int)+1+1)))
      clear HM
      have HM:=HMn
      clear HMn
      go_wp2_with fail
      refine (HT1.out _).mono ?_
      rintro e w1 ⟨rfl,hb1⟩
      have HMn:=hide (HM.out.below hb1)
      clear q0 q1 q2 f0 f1 f2 hb1 HM HT1
      have HM:=HMn
      clear HMn
      obtain ⟨⟨y3,q3⟩,f3,-⟩:=HM.out.cell (by simp [hYl]) (j * 14+3) (by omega)
      obtain ⟨⟨y4,q4⟩,f4,-⟩:=HM.out.cell (by simp [hYl]) (j * 14+4) (by omega)
      obtain ⟨⟨y5,q5⟩,f5,-⟩:=HM.out.cell (by simp [hYl]) (j * 14+5) (by omega)
      have q6:=(HM.out.cell (by simp [hYl]) (j * 14+6) (by omega)).2.2
      simp only [List.getElem?_set,List.length_set] at q6
      rw [if_neg (show ¬ j * 14+2=j * 14+6 from by omega),if_neg (show ¬ j * 14+1=j * 14+6 from by omega),if_neg (show ¬ j * 14=j * 14+6 from by omega),Hat.out 6 (by omega)] at q6
      simp only [bkC,List.getElem?_cons_zero,List.getElem?_cons_succ] at q6
      have HMn:=hide (((HM.out.set HSg.out (j * 14+3) (.string (mtx (K+3)))).set HSg.out (j * 14+4) (.int .i64 ((K:Int)+1+1+1+1))).set HSg.out (j * 14+5) (.int .i64 ((K:Int)+1+1+1+1+1)))
      clear HM
      have HM:=HMn
      clear HMn
      have HA:=hide (markStringS_any (Value.slice aq qw.length cq) qw (K+6) base _ (HM.out.own hjm).q (by have:=Hb.out;omega) (by omega) (by omega))
      rw [show ((K+6:Nat):Int)=(K:Int)+1+1+1+1+1+1 from by omega] at HA
      go_wp2_with fail
      refine HA.out.mono ?_
      rintro e w2 ⟨rfl,ho2,hg2⟩
      have HMn:=hide (HM.out.mark2 hjm (fun x=>(Value.slice aq qw.length cq).ownBlock=some x) (fun x hx=>⟨.inl hx,HS1.out x (.inl hx)⟩) (Oth.of_grown hg2 (fun g h=>h)) ⟨id,ep,rd,md,qr,qb,mkS (K+6) qw.length,tr,tw,th,ts,en,nx,rt⟩ ((HM.out.own hjm).putq Hin.out _ ho2 (Oth.of_grown hg2 (fun g h=>h))))
      clear HM HA
      have HM:=HMn
      clear HMn
      obtain ⟨K2,hK2⟩:∃ K2:Nat,K+6+qw.length=K2:=⟨_,rfl⟩
      have HK2:=hide hK2
      have hk2:K2+3+tw.length+th.length+5 * ts.length+2 * nx.length<=80000000:=by omega
      have hk20:0 < K2:=by omega
      rw [hK2]
      clear q3 q4 q5 q6 f3 f4 f5 ho2 hg2 hK2
      obtain ⟨⟨y7,q7⟩,f7,-⟩:=HM.out.cell (by simp [hYl]) (j * 14+7) (by omega)
      have q8:=(HM.out.cell (by simp [hYl]) (j * 14+8) (by omega)).2.2
      simp only [List.getElem?_set,List.length_set] at q8
      rw [if_neg (show ¬ j * 14+5=j * 14+8 from by omega),if_neg (show ¬ j * 14+4=j * 14+8 from by omega),if_neg (show ¬ j * 14+3=j * 14+8 from by omega),if_neg (show ¬ j * 14+2=j * 14+8 from by omega),if_neg (show ¬ j * 14+1=j * 14+8 from by omega),if_neg (show ¬ j * 14=j * 14+8 from by omega),Hat.out 8 (by omega)] at q8
      simp only [bkC,List.getElem?_cons_zero,List.getElem?_cons_succ] at q8
      have HMn:=hide (HM.out.set HSg.out (j * 14+7) (.int .i64 (K2:Int)))
      clear HM
      have HM:=HMn
      clear HMn
      have HA:=hide (markStringS_any (Value.slice aw tw.length cw) tw (K2+1) base _ (HM.out.own hjm).p (by have:=Hb.out;omega) (by omega) (by omega))
      rw [show ((K2+1:Nat):Int)=(K2:Int)+1 from by omega] at HA
      go_wp2_with fail
      refine HA.out.mono ?_
      rintro e w3 ⟨rfl,ho3,hg3⟩
      have HMn:=hide (HM.out.mark2 hjm (fun x=>(Value.slice aw tw.length cw).ownBlock=some x) (fun x hx=>⟨.inr (.inl hx),HS1.out x (.inr (.inl hx))⟩) (Oth.of_grown hg3 (fun g h=>h)) ⟨id,ep,rd,md,qr,qb,mkS (K+6) qw.length,tr,mkS (K2+1) tw.length,th,ts,en,nx,rt⟩ ((HM.out.own hjm).putw Hin.out _ ho3 (Oth.of_grown hg3 (fun g h=>h))))
      clear HM HA
      have HM:=HMn
      clear HMn
      obtain ⟨K3,hK3⟩:∃ K3:Nat,K2+1+tw.length=K3:=⟨_,rfl⟩
      have HK3:=hide hK3
      have hk3:K3+2+th.length+5 * ts.length+2 * nx.length<=80000000:=by omega
      have hk30:0 < K3:=by omega
      rw [hK3]
      clear q7 q8 f7 ho3 hg3 hK3
      have q9:=(HM.out.cell (by simp [hYl]) (j * 14+9) (by omega)).2.2
      simp only [List.getElem?_set,List.length_set] at q9
      rw [if_neg (show ¬ j * 14+7=j * 14+9 from by omega),if_neg (show ¬ j * 14+5=j * 14+9 from by omega),if_neg (show ¬ j * 14+4=j * 14+9 from by omega),if_neg (show ¬ j * 14+3=j * 14+9 from by omega),if_neg (show ¬ j * 14+2=j * 14+9 from by omega),if_neg (show ¬ j * 14+1=j * 14+9 from by omega),if_neg (show ¬ j * 14=j * 14+9 from by omega),Hat.out 9 (by omega)] at q9
      simp only [bkC,List.getElem?_cons_zero,List.getElem?_cons_succ] at q9
      have HA:=hide (markIntS_any (Value.slice ah th.length ch) th K3 base _ (HM.out.own hjm).h (by have:=Hb.out;omega) (by omega) (by omega))
      go_wp2_with fail
      refine HA.out.mono ?_
      rintro e w4 ⟨rfl,ho4,hg4⟩
      have HMn:=hide (HM.out.mark2 hjm (fun x=>(Value.slice ah th.length ch).ownBlock=some x) (fun x hx=>⟨.inr (.inr (.inl hx)),HS1.out x (.inr (.inr (.inl hx)))⟩) (Oth.of_grown hg4 (fun g h=>h)) ⟨id,ep,rd,md,qr,qb,mkS (K+6) qw.length,tr,mkS (K2+1) tw.length,mkI K3 th.length,ts,en,nx,rt⟩ ((HM.out.own hjm).puth _ ho4 (Oth.of_grown hg4 (fun g h=>h))))
      clear HM HA
      have HM:=HMn
      clear HMn
      obtain ⟨K4,hK4⟩:∃ K4:Nat,K3+th.length=K4:=⟨_,rfl⟩
      have HK4:=hide hK4
      have hk4:K4+2+5 * ts.length+2 * nx.length<=80000000:=by omega
      have hk40:0 < K4:=by omega
      rw [hK4]
      clear q9 ho4 hg4 hK4
      have q10:=(HM.out.cell (by simp [hYl]) (j * 14+10) (by omega)).2.2
      simp only [List.getElem?_set,List.length_set] at q10
      rw [if_neg (show ¬ j * 14+7=j * 14+10 from by omega),if_neg (show ¬ j * 14+5=j * 14+10 from by omega),if_neg (show ¬ j * 14+4=j * 14+10 from by omega),if_neg (show ¬ j * 14+3=j * 14+10 from by omega),if_neg (show ¬ j * 14+2=j * 14+10 from by omega),if_neg (show ¬ j * 14+1=j * 14+10 from by omega),if_neg (show ¬ j * 14=j * 14+10 from by omega),Hat.out 10 (by omega)] at q10
      simp only [bkC,List.getElem?_cons_zero,List.getElem?_cons_succ] at q10
      have HA:=hide (markTxC_any (Value.slice at_ ts.length ct) ts K4 base _ (HM.out.own hjm).t (by have:=Hb.out;omega) (by omega) (by omega))
      go_wp2_with fail
      refine HA.out.mono ?_
      rintro e w5 ⟨rfl,ho5,hO5⟩
      have HMn:=hide (HM.out.mark2 hjm (fun x=>(Value.slice at_ ts.length ct).ownBlock=some x) (fun x hx=>⟨.inr (.inr (.inr (.inl hx))),HS1.out x (.inr (.inr (.inr (.inl hx))))⟩) (hO5) ⟨id,ep,rd,md,qr,qb,mkS (K+6) qw.length,tr,mkS (K2+1) tw.length,mkI K3 th.length,mkT K4 ts.length,en,nx,rt⟩ ((HM.out.own hjm).putt _ ho5 (hO5)))
      clear HM HA
      have HM:=HMn
      clear HMn
      obtain ⟨K5,hK5⟩:∃ K5:Nat,K4+5 * ts.length=K5:=⟨_,rfl⟩
      have HK5:=hide hK5
      have hk5:K5+2+2 * nx.length<=80000000:=by omega
      have hk50:0 < K5:=by omega
      rw [hK5]
      clear q10 ho5 hO5 hK5
      obtain ⟨⟨y11,q11⟩,f11,-⟩:=HM.out.cell (by simp [hYl]) (j * 14+11) (by omega)
      have q12:=(HM.out.cell (by simp [hYl]) (j * 14+12) (by omega)).2.2
      simp only [List.getElem?_set,List.length_set] at q12
      rw [if_neg (show ¬ j * 14+7=j * 14+12 from by omega),if_neg (show ¬ j * 14+5=j * 14+12 from by omega),if_neg (show ¬ j * 14+4=j * 14+12 from by omega),if_neg (show ¬ j * 14+3=j * 14+12 from by omega),if_neg (show ¬ j * 14+2=j * 14+12 from by omega),if_neg (show ¬ j * 14+1=j * 14+12 from by omega),if_neg (show ¬ j * 14=j * 14+12 from by omega),Hat.out 12 (by omega)] at q12
      simp only [bkC,List.getElem?_cons_zero,List.getElem?_cons_succ] at q12
      have HMn:=hide (HM.out.set HSg.out (j * 14+11) (.bool (decide ((K5:Int) % 3=0))))
      clear HM
      have HM:=HMn
      clear HMn
      have HA:=hide (markValS_any (Value.slice an nx.length cn) nx (K5+1) base _ (HM.out.own hjm).n (by have:=Hb.out;omega) (by omega) (by omega))
      rw [show ((K5+1:Nat):Int)=(K5:Int)+1 from by omega] at HA
      go_wp2_with fail
      refine HA.out.mono ?_
      rintro e w6 ⟨rfl,ho6,hg6⟩
      have HMn:=hide (HM.out.mark2 hjm (fun x=>(Value.slice an nx.length cn).ownBlock=some x) (fun x hx=>⟨.inr (.inr (.inr (.inr hx))),HS1.out x (.inr (.inr (.inr (.inr hx))))⟩) (Oth.of_grown hg6 (fun g h=>h)) ⟨id,ep,rd,md,qr,qb,mkS (K+6) qw.length,tr,mkS (K2+1) tw.length,mkI K3 th.length,mkT K4 ts.length,en,mkV (K5+1) nx.length,rt⟩ ((HM.out.own hjm).putn _ ho6 (Oth.of_grown hg6 (fun g h=>h))))
      clear HM HA
      have HM:=HMn
      clear HMn
      obtain ⟨K6,hK6⟩:∃ K6:Nat,K5+1+2 * nx.length=K6:=⟨_,rfl⟩
      have HK6:=hide hK6
      have hk6:K6+1<=80000000:=by omega
      have hk60:0 < K6:=by omega
      rw [hK6]
      clear q11 q12 f11 ho6 hg6 hK6
      have HT1:=hide (fun V=>markText_any K6 V (by omega) (by omega))
      go_wp2_with fail
      refine (HT1.out _).mono ?_
      rintro e w7 ⟨rfl,hb7⟩
      have HMn:=hide (HM.out.below hb7)
      clear hb7 HM HT1
      have HM:=HMn
      clear HMn
      obtain ⟨⟨y13,q13⟩,f13,-⟩:=HM.out.cell (by simp [hYl]) (j * 14+13) (by omega)
      have HMn:=hide (HM.out.set HSg.out (j * 14+13) (.string (mtx K6)))
      clear HM
      have HM:=HMn
      clear HMn
      have HF:Hid (MidK base (fun x=>base<=x/\x < top) w _ g n cap (mixZ k Z (j+1)) ((mixZ k Z (j+1)).map bkP).flatten):=hide (by
        have h6:=Hat.out 6 (by omega)
        have h8:=Hat.out 8 (by omega)
        have h9:=Hat.out 9 (by omega)
        have h10:=Hat.out 10 (by omega)
        have h12:=Hat.out 12 (by omega)
        simp only [bkC,List.getElem?_cons_zero,List.getElem?_cons_succ] at h6 h8 h9 h10 h12
        have e1:mkB K ⟨id,ep,rd,md,qr,qb,qw,tr,tw,th,ts,en,nx,rt⟩=⟨(K:Int),(K:Int)+1,(K:Int)+1+1,mtx (K+3),(K:Int)+1+1+1+1,(K:Int)+1+1+1+1+1,mkS (K+6) qw.length,(K2:Int),mkS (K2+1) tw.length,mkI K3 th.length,mkT K4 ts.length,decide ((K5:Int) % 3=0),mkV (K5+1) nx.length,mtx K6⟩:=by
          unfold mkB
          simp only [HK2.out,HK3.out,HK4.out,HK5.out,HK6.out]
          rw [Bk.mk.injEq]
          exact ⟨rfl,by omega,by omega,rfl,by omega,by omega,rfl,rfl,rfl,rfl,rfl,rfl,rfl,rfl⟩
        have e2:=HEnd.out _ rfl
        have e3:=Hmix.out
        rw [e1] at e2 e3
        have o:=HM.out.own hjm
        have hm9:=HM.out.mark2 hjm (fun _=>False) (fun _ h=>h.elim) (Oth.refl _ _) ⟨(K:Int),(K:Int)+1,(K:Int)+1+1,mtx (K+3),(K:Int)+1+1+1+1,(K:Int)+1+1+1+1+1,mkS (K+6) qw.length,(K2:Int),mkS (K2+1) tw.length,mkI K3 th.length,mkT K4 ts.length,decide ((K5:Int) % 3=0),mkV (K5+1) nx.length,mtx K6⟩ ⟨o.q,o.p,o.h,o.t,o.n⟩
        rw [set14 Y (j * 14) _ _ _ _ _ _ _ _ _ _ _ _ _ _ h6 h8 h9 h10 h12] at hm9
        rw [e3] at hm9
        rw [<- e2]
        exact hm9)
      go_wp2
      go_roundw
      case rel=>exact ⟨j+1,by omega,by go_num,by rw [HnxK.out];have:=HK2.out;have:=HK3.out;have:=HK4.out;have:=HK5.out;have:=HK6.out;congr 1;omega,HF.out⟩
      case measure=>simp [intOf];omega
    · have ej:j=n:=by omega
      have em:mixZ k Z j=mixZ k Z Z.length:=by rw [hZl,ej]
      have HF:Hid (OwnKx base top wr (.slice (some ⟨g,0,none⟩) n cap) (mkLk k l)):=hide (by
        have e1:=mixZ_all k Z
        rw [<- em,HZ.out] at e1
        have e2:(mkLk k l).length=n:=by rw [mkLk_len,Hn.out]
        refine .inr ⟨g,cap,mixZ k Z j,e1,by rw [e2],by rw [e2];exact hm.row,hm.kvs,HSg.out.2,fun i hi x hx=>?_⟩
        have hi':i < Z.length:=by have:=mixZ_len k Z j (by omega);omega
        rw [mixZ_two k Z j i hi hi'] at hx
        exact (HSall.out i hi' x hx).2)
      have HOo:=hide hm.oth
      have HT:Hid (((k+totM (l.take j):Nat):Int)=((k+totM l:Nat):Int)):=hide (by rw [List.take_of_length_le (by have:=Hn.out;omega)])
      clear hm em ej
      generalize k+totM (l.take j)=K at HT
      go_wp2
      go_ret
      exact ⟨ret_int HT.out,HF.out,HOo.out⟩
end Go.Proofs.YthidkbhiikdokaaGreat
namespace Go.Proofs.YthidkbhiikdokaaGreat
open Go.RowKit Go.Sort
set_option linter.unusedVariables false
theorem row_step3 {base g n cap:Nat} {w:World} {T:TypeId} {Y:List Value} (h:w.ownsRow base T 3 (.slice (some ⟨g,0,none⟩) n cap) n Y) (hY:Y.length=3 * n) (i:Nat) (hi:i < 3 * n) :
    (∃ y,w.cell? ⟨g,i,none⟩=some y)/\w.frozen? ⟨g,i,none⟩=false/\∀ u,(w.setCell ⟨g,i,none⟩ u).ownsRow base T 3 (.slice (some ⟨g,0,none⟩) n cap) n (Y.set i u) :=
  ⟨⟨Y[i]'(by omega),by rw [h.cellAt i (by omega)];exact List.getElem?_eq_getElem (by omega)⟩,h.frozenAt i,fun u=>(h.stored i u).1⟩
def mkR (k n:Nat):List Tr:=(List.range n).map (fun j=>(((k+3 * j:Nat):Int),((k+3 * j+1:Nat):Int),mtx (k+3 * j+2)))
theorem mkR_len (k n:Nat):(mkR k n).length=n:=by simp [mkR]
theorem mkR_at (k n j:Nat) (h:j < (mkR k n).length):(mkR k n)[j]=(((k+3 * j:Nat):Int),((k+3 * j+1:Nat):Int),mtx (k+3 * j+2)):=by simp [mkR]
theorem mixR {M l:List Tr} {j:Nat} (hl:M.length=l.length) (hj:j < l.length):((M.take j ++ l.drop j).map trC).set j (trC (M[j]'(by omega)))=(M.take (j+1) ++ l.drop (j+1)).map trC:=by
  rw [List.take_succ_eq_append_getElem (by omega),<- List.map_set]
  congr 1
  rw [List.set_append_right _ _ (by simp;omega),List.length_take,show min j M.length=j from by omega,Nat.sub_self,List.drop_eq_getElem_cons hj,List.set_cons_zero,List.append_assoc]
  rfl
theorem mixR_sz (M l:List Tr) (j:Nat):∀ x ∈ (M.take j ++ l.drop j).map trC,x.length=3:=fun x hx=>by obtain ⟨p,_,rfl⟩:=List.mem_map.1 hx;rfl
theorem markVoteS_any (v:Value) (l:List Tr) (k base:Nat) (w:World) (ho:OwnR 100 base w v l) (hl:l.length<=10000000) (hk:k+3 * l.length<=90000000) (hk0:0 < k) :
    Calls Tryz.prog 68 #[v,.int .i64 (k:Int)] w fun e w'=>e=.returned (.int .i64 ((k+3 * l.length:Nat):Int))/\OwnR 100 base w' v (mkR k l.length)/\Oth (fun g=>v.ownBlock=some g) w w':=by
  have hML:=mkR_len k l.length
  have hMA:=mkR_at k l.length
  generalize hMd:mkR k l.length=M at hML hMA ⊢
  clear hMd
  by_cases hne:l=[]
  · subst hne
    obtain ⟨a,c,rfl⟩:=ho.rd.shape
    have e2:M=[]:=List.length_eq_zero_iff.1 hML
    subst e2
    have Ho:=hide ho
    clear ho
    go_enter Tryz.func68,Tryz.ntmps68
    go_wp2
    refine wp_loop_rounds 1 ?_
    rw [rounds_succ]
    go_wp2
    go_ret
    exact ⟨by simp <;> rfl,Ho.out,Oth.refl _ _⟩
  · obtain ⟨g,cap,rfl⟩:∃ g cap,v=.slice (some ⟨g,0,none⟩) l.length cap:=by
      rcases ho.2 with ⟨rfl,hn⟩ | ⟨g,cap,cur,rfl,-⟩
      · exact absurd (List.length_eq_zero_iff.1 hn) hne
      · exact ⟨g,cap,rfl⟩
    have Hrow:Hid (w.ownsRow base 100 3 (.slice (some ⟨g,0,none⟩) l.length cap) l.length (l.map trC).flatten):=hide ho
    have HML:=hide hML
    have HMA:=hide hMA
    clear ho hML hMA
    have hS:Hid ((fun x=>(Value.slice (some ⟨g,0,none⟩) l.length cap).ownBlock=some x) g):=hide rfl
    go_enter Tryz.func68,Tryz.ntmps68
    go_wp2
    go_loopw [1,5] (fun kv iv wr=>∃ j:Nat,j<=l.length/\iv=.int .i64 (j:Int)/\kv=.int .i64 ((k+3 * j:Nat):Int)/\wr.ownsRow base 100 3 (.slice (some ⟨g,0,none⟩) l.length cap) l.length ((M.take j ++ l.drop j).map trC).flatten/\Oth (fun x=>(Value.slice (some ⟨g,0,none⟩) l.length cap).ownBlock=some x) w wr)
      (fun _ iv _=>l.length - (intOf iv).toNat)
    case atStart=>exact ⟨0,Nat.zero_le _,rfl,rfl,by simpa using Hrow.out,Oth.refl _ _⟩
    case round =>
      obtain ⟨j,hj,rfl,rfl,hown,hbt⟩:=hrel
      clear Hrow
      have HLl:Hid ((M.take j ++ l.drop j).length=l.length):=hide (by have:=HML.out;simp;omega)
      have hYl:((M.take j ++ l.drop j).map trC).flatten.length=3 * l.length:=by
        rw [flat_len 3 _ (mixR_sz M l j),List.length_map,HLl.out];omega
      by_cases hlt:j < l.length
      · have hli:(j:Int) < (l.length:Int):=by omega
        have Hnx:Hid (k+3 * (j+1)=k+3 * j+3):=hide (by omega)
        have hK1:k+3 * j+3<=90000000:=by omega
        have hK0:0 < k+3 * j:=by omega
        have HEnd:Hid (((((M.take j ++ l.drop j).map trC).flatten.set (j * 3) (.int .i64 ((k+3 * j:Nat):Int))).set (j * 3+1) (.int .i64 ((k+3 * j+1:Nat):Int))).set (j * 3+2) (.string (mtx (k+3 * j+2)))=((M.take (j+1) ++ l.drop (j+1)).map trC).flatten):=hide (by
          rw [flat_put3 _ j _ _ _ (by rw [List.length_map,HLl.out];exact hlt) (mixR_sz M l j),<- mixR HML.out hlt,HMA.out j (by have:=HML.out;omega)]
          rfl)
        generalize ((M.take j ++ l.drop j).map trC).flatten=Y at hown hYl HEnd
        generalize k+3 * j=K at Hnx hK1 hK0 HEnd ⊢
        have Hm1:=hide (fun w=>markText_any (K+1+1) w (by omega) (by omega))
        obtain ⟨⟨y0,q0⟩,f0,s0⟩:=row_step3 hown hYl (j * 3) (by omega)
        obtain ⟨⟨y1,q1⟩,f1,-⟩:=row_step3 hown hYl (j * 3+1) (by omega)
        have S0:=hide (fun u0 u1=>((row_step3 (s0 u0) (by simp [hYl]) (j * 3+1) (by omega)).2.2) u1)
        have Hbt:=hide hbt
        clear hown hbt s0
        go_wp2_with fail
        refine (Hm1.out _).mono ?_
        rintro e w1 ⟨rfl,hb1⟩
        have r1:=row_below (S0.out (.int .i64 (K:Int)) (.int .i64 ((K+1:Nat):Int))) hb1 (Nat.le_refl _)
        have Hbt1:=hide (((Hbt.out.set hS.out (j * 3) (.int .i64 (K:Int))).set hS.out (j * 3+1) (.int .i64 ((K+1:Nat):Int))).trans (Oth.of_below hb1))
        clear hb1 q0 f0 q1 f1
        obtain ⟨⟨y2,q2⟩,f2,s2⟩:=row_step3 r1 (by simp [hYl]) (j * 3+2) (by omega)
        have S3:=hide (s2 (.string (mtx (K+1+1))))
        rw [show K+1+1=K+2 from rfl] at S3 ⊢
        rw [HEnd.out] at S3
        clear r1 s2 HEnd S0
        go_wp2
        have e3:(K:Int)+1+1+1=((K+3:Nat):Int):=by omega
        go_roundw
        case rel =>
          refine ⟨j+1,by omega,by go_num,by rw [Hnx.out];go_num,?_,Hbt1.out.set hS.out _ _⟩
          exact S3.out
        case measure=>simp [intOf];omega
      · have ej:j=l.length:=by omega
        have e9:M.take j ++ l.drop j=M:=by rw [List.take_of_length_le (by have:=HML.out;omega),List.drop_of_length_le (by omega),List.append_nil]
        rw [e9] at hown
        subst ej
        have Hbt:=hide hbt
        have Ho':Hid (OwnR 100 base wr (.slice (some ⟨g,0,none⟩) l.length cap) M):=hide (by unfold OwnR;rw [HML.out];exact hown)
        clear hown hbt e9 hYl HLl
        go_wp2
        go_ret
        exact ⟨rfl,Ho'.out,Hbt.out⟩
theorem heldVoteS_any (v:Value) (k n:Nat) (w:World) (hr:RdR w v (mkR k n)) (hl:n<=10000000) (hk:k+3 * n<=100000000) (hk0:0 < k) :
    Calls Tryz.prog 75 #[v,.int .i64 (k:Int)] w fun e w'=>e=.returned (.int .i64 ((k+3 * n:Nat):Int))/\Below w.heap.size w w':=by
  have hML:=mkR_len k n
  have hMA:=mkR_at k n
  generalize hMd:mkR k n=M at hML hMA hr
  clear hMd
  rcases hr with ⟨a,cap,rfl,rfl,-⟩ | ⟨b,off,cap,h0,rfl,h1,h2,h3,h4⟩
  · simp at hML
    subst hML
    clear hMA
    go_enter Tryz.func75,Tryz.ntmps75
    go_wp2
    refine wp_loop_rounds 1 ?_
    rw [rounds_succ]
    go_wp2
    go_ret
    exact ⟨rfl,Below.refl _ _⟩
  · have HMA:=hide hMA
    have hMl:n<=M.length:=by omega
    have hMg:M.length<=n:=by omega
    have H4:=hide h4
    clear hML hMA h4
    go_enter Tryz.func75,Tryz.ntmps75
    go_wp2
    go_loopw [1,5] (fun kv iv wr=>∃ j:Nat,j<=n/\iv=.int .i64 (j:Int)/\kv=.int .i64 ((k+3 * j:Nat):Int)/\Below w.heap.size w wr) (fun _ iv _=>n - (intOf iv).toNat)
    case atStart=>exact ⟨0,Nat.zero_le _,rfl,rfl,Below.refl _ _⟩
    case round =>
      obtain ⟨j,hj,rfl,rfl,hb⟩:=hrel
      by_cases hlt:j < n
      · have hjM:j < M.length:=by omega
        have hat:=H4.out j hjM
        have HC:Hid (∀ V,Below w.heap.size w V->V.cell? ⟨b,off+j * 3,none⟩=some (.int .i64 M[j].1)/\V.cell? ⟨b,off+j * 3+1,none⟩=some (.int .i64 M[j].2.1)/\V.cell? ⟨b,off+j * 3+2,none⟩=some (.string M[j].2.2)):=hide (fun V hV=>by
          obtain ⟨d0,d1,d2⟩:=hat.below hV h3
          exact ⟨d0,d1,d2⟩)
        rw [HMA.out j hjM] at HC
        simp only at HC
        obtain ⟨K,hK⟩:∃ K:Nat,k+3 * j=K:=⟨_,rfl⟩
        have hK2:K<=150000000:=by omega
        have hK0:0 < K:=by omega
        rw [hK] at HC ⊢
        have HK:=hide hK
        have hli:(j:Int) < (M.length:Int):=by omega
        clear hK hat
        have Hb:=hide hb
        have HM1:=hide (fun V=>markText_any (K+2) V (by omega) (by omega))
        generalize mtx (K+2)=m1 at HC HM1
        obtain ⟨c0,c1,c2⟩:=HC.out wr hb
        have g2:=cell_regrown c2
        have HR1:=hide (fun (d:Nat) (os:Array Obj)=>Calls.regrown_of (HM1.out (grow (redrawn wr d) os)))
        have e1:((K+1:Nat):Int)=(K:Int)+1:=by omega
        have e2:((K+2:Nat):Int)=(K:Int)+1+1:=by omega
        rw [e2] at HR1
        rw [e1] at c1
        clear hb c2 HM1 e1 e2
        go_wp2
        refine wp_region_quiet_below (by kernel_rfl) (by kernel_rfl) ?_
        repeat (go_big_quiet_step ((go_at_call 35;exact HR1.out _ _)))
        refine wpQuiet_nil ?_
        intro _ hw'
        obtain ⟨⟨dq,osq⟩,hw''⟩:=hw'
        subst hw''
        have hb2:=Hb.out.trans ((below_regrown wr dq osq).mono Hb.out.size)
        generalize grow (redrawn wr dq) osq=w2 at hb2 ⊢
        clear g2 HR1 c0 c1 Hb HC
        go_wp2
        go_roundw
        case rel=>exact ⟨j+1,by omega,by go_num,by rw [show k+3 * (j+1)=K+3 from by have:=HK.out;omega];go_num,hb2⟩
        case measure=>simp [intOf];omega
      · have e:j=n:=by omega
        have He:=hide e
        clear e
        go_wp2
        go_ret
        exact ⟨ret_int (by rw [<- He.out]),hb⟩
theorem markGoneS_any (v:Value) (l:List Tr) (k base:Nat) (w:World) (ho:OwnR 102 base w v l) (hl:l.length<=10000000) (hk:k+3 * l.length<=90000000) (hk0:0 < k) :
    Calls Tryz.prog 69 #[v,.int .i64 (k:Int)] w fun e w'=>e=.returned (.int .i64 ((k+3 * l.length:Nat):Int))/\OwnR 102 base w' v (mkR k l.length)/\Oth (fun g=>v.ownBlock=some g) w w':=by
  have hML:=mkR_len k l.length
  have hMA:=mkR_at k l.length
  generalize hMd:mkR k l.length=M at hML hMA ⊢
  clear hMd
  by_cases hne:l=[]
  · subst hne
    obtain ⟨a,c,rfl⟩:=ho.rd.shape
    have e2:M=[]:=List.length_eq_zero_iff.1 hML
    subst e2
    have Ho:=hide ho
    clear ho
    go_enter Tryz.func69,Tryz.ntmps69
    go_wp2
    refine wp_loop_rounds 1 ?_
    rw [rounds_succ]
    go_wp2
    go_ret
    exact ⟨by simp <;> rfl,Ho.out,Oth.refl _ _⟩
  · obtain ⟨g,cap,rfl⟩:∃ g cap,v=.slice (some ⟨g,0,none⟩) l.length cap:=by
      rcases ho.2 with ⟨rfl,hn⟩ | ⟨g,cap,cur,rfl,-⟩
      · exact absurd (List.length_eq_zero_iff.1 hn) hne
      · exact ⟨g,cap,rfl⟩
    have Hrow:Hid (w.ownsRow base 102 3 (.slice (some ⟨g,0,none⟩) l.length cap) l.length (l.map trC).flatten):=hide ho
    have HML:=hide hML
    have HMA:=hide hMA
    clear ho hML hMA
    have hS:Hid ((fun x=>(Value.slice (some ⟨g,0,none⟩) l.length cap).ownBlock=some x) g):=hide rfl
    go_enter Tryz.func69,Tryz.ntmps69
    go_wp2
    go_loopw [1,5] (fun kv iv wr=>∃ j:Nat,j<=l.length/\iv=.int .i64 (j:Int)/\kv=.int .i64 ((k+3 * j:Nat):Int)/\wr.ownsRow base 102 3 (.slice (some ⟨g,0,none⟩) l.length cap) l.length ((M.take j ++ l.drop j).map trC).flatten/\Oth (fun x=>(Value.slice (some ⟨g,0,none⟩) l.length cap).ownBlock=some x) w wr)
      (fun _ iv _=>l.length - (intOf iv).toNat)
    case atStart=>exact ⟨0,Nat.zero_le _,rfl,rfl,by simpa using Hrow.out,Oth.refl _ _⟩
    case round =>
      obtain ⟨j,hj,rfl,rfl,hown,hbt⟩:=hrel
      clear Hrow
      have HLl:Hid ((M.take j ++ l.drop j).length=l.length):=hide (by have:=HML.out;simp;omega)
      have hYl:((M.take j ++ l.drop j).map trC).flatten.length=3 * l.length:=by
        rw [flat_len 3 _ (mixR_sz M l j),List.length_map,HLl.out];omega
      by_cases hlt:j < l.length
      · have hli:(j:Int) < (l.length:Int):=by omega
        have Hnx:Hid (k+3 * (j+1)=k+3 * j+3):=hide (by omega)
        have hK1:k+3 * j+3<=90000000:=by omega
        have hK0:0 < k+3 * j:=by omega
        have HEnd:Hid (((((M.take j ++ l.drop j).map trC).flatten.set (j * 3) (.int .i64 ((k+3 * j:Nat):Int))).set (j * 3+1) (.int .i64 ((k+3 * j+1:Nat):Int))).set (j * 3+2) (.string (mtx (k+3 * j+2)))=((M.take (j+1) ++ l.drop (j+1)).map trC).flatten):=hide (by
          rw [flat_put3 _ j _ _ _ (by rw [List.length_map,HLl.out];exact hlt) (mixR_sz M l j),<- mixR HML.out hlt,HMA.out j (by have:=HML.out;omega)]
          rfl)
        generalize ((M.take j ++ l.drop j).map trC).flatten=Y at hown hYl HEnd
        generalize k+3 * j=K at Hnx hK1 hK0 HEnd ⊢
        have Hm1:=hide (fun w=>markText_any (K+1+1) w (by omega) (by omega))
        obtain ⟨⟨y0,q0⟩,f0,s0⟩:=row_step3 hown hYl (j * 3) (by omega)
        obtain ⟨⟨y1,q1⟩,f1,-⟩:=row_step3 hown hYl (j * 3+1) (by omega)
        have S0:=hide (fun u0 u1=>((row_step3 (s0 u0) (by simp [hYl]) (j * 3+1) (by omega)).2.2) u1)
        have Hbt:=hide hbt
        clear hown hbt s0
        go_wp2_with fail
        refine (Hm1.out _).mono ?_
        rintro e w1 ⟨rfl,hb1⟩
        have r1:=row_below (S0.out (.int .i64 (K:Int)) (.int .i64 ((K+1:Nat):Int))) hb1 (Nat.le_refl _)
        have Hbt1:=hide (((Hbt.out.set hS.out (j * 3) (.int .i64 (K:Int))).set hS.out (j * 3+1) (.int .i64 ((K+1:Nat):Int))).trans (Oth.of_below hb1))
        clear hb1 q0 f0 q1 f1
        obtain ⟨⟨y2,q2⟩,f2,s2⟩:=row_step3 r1 (by simp [hYl]) (j * 3+2) (by omega)
        have S3:=hide (s2 (.string (mtx (K+1+1))))
        rw [show K+1+1=K+2 from rfl] at S3 ⊢
        rw [HEnd.out] at S3
        clear r1 s2 HEnd S0
        go_wp2
        have e3:(K:Int)+1+1+1=((K+3:Nat):Int):=by omega
        go_roundw
        case rel =>
          refine ⟨j+1,by omega,by go_num,by rw [Hnx.out];go_num,?_,Hbt1.out.set hS.out _ _⟩
          exact S3.out
        case measure=>simp [intOf];omega
      · have ej:j=l.length:=by omega
        have e9:M.take j ++ l.drop j=M:=by rw [List.take_of_length_le (by have:=HML.out;omega),List.drop_of_length_le (by omega),List.append_nil]
        rw [e9] at hown
        subst ej
        have Hbt:=hide hbt
        have Ho':Hid (OwnR 102 base wr (.slice (some ⟨g,0,none⟩) l.length cap) M):=hide (by unfold OwnR;rw [HML.out];exact hown)
        clear hown hbt e9 hYl HLl
        go_wp2
        go_ret
        exact ⟨rfl,Ho'.out,Hbt.out⟩
theorem heldGoneS_any (v:Value) (k n:Nat) (w:World) (hr:RdR w v (mkR k n)) (hl:n<=10000000) (hk:k+3 * n<=100000000) (hk0:0 < k) :
    Calls Tryz.prog 76 #[v,.int .i64 (k:Int)] w fun e w'=>e=.returned (.int .i64 ((k+3 * n:Nat):Int))/\Below w.heap.size w w':=by
  have hML:=mkR_len k n
  have hMA:=mkR_at k n
  generalize hMd:mkR k n=M at hML hMA hr
  clear hMd
  rcases hr with ⟨a,cap,rfl,rfl,-⟩ | ⟨b,off,cap,h0,rfl,h1,h2,h3,h4⟩
  · simp at hML
    subst hML
    clear hMA
    go_enter Tryz.func76,Tryz.ntmps76
    go_wp2
    refine wp_loop_rounds 1 ?_
    rw [rounds_succ]
    go_wp2
    go_ret
    exact ⟨rfl,Below.refl _ _⟩
  · have HMA:=hide hMA
    have hMl:n<=M.length:=by omega
    have hMg:M.length<=n:=by omega
    have H4:=hide h4
    clear hML hMA h4
    go_enter Tryz.func76,Tryz.ntmps76
    go_wp2
    go_loopw [1,5] (fun kv iv wr=>∃ j:Nat,j<=n/\iv=.int .i64 (j:Int)/\kv=.int .i64 ((k+3 * j:Nat):Int)/\Below w.heap.size w wr) (fun _ iv _=>n - (intOf iv).toNat)
    case atStart=>exact ⟨0,Nat.zero_le _,rfl,rfl,Below.refl _ _⟩
    case round =>
      obtain ⟨j,hj,rfl,rfl,hb⟩:=hrel
      by_cases hlt:j < n
      · have hjM:j < M.length:=by omega
        have hat:=H4.out j hjM
        have HC:Hid (∀ V,Below w.heap.size w V->V.cell? ⟨b,off+j * 3,none⟩=some (.int .i64 M[j].1)/\V.cell? ⟨b,off+j * 3+1,none⟩=some (.int .i64 M[j].2.1)/\V.cell? ⟨b,off+j * 3+2,none⟩=some (.string M[j].2.2)):=hide (fun V hV=>by
          obtain ⟨d0,d1,d2⟩:=hat.below hV h3
          exact ⟨d0,d1,d2⟩)
        rw [HMA.out j hjM] at HC
        simp only at HC
        obtain ⟨K,hK⟩:∃ K:Nat,k+3 * j=K:=⟨_,rfl⟩
        have hK2:K<=150000000:=by omega
        have hK0:0 < K:=by omega
        rw [hK] at HC ⊢
        have HK:=hide hK
        have hli:(j:Int) < (M.length:Int):=by omega
        clear hK hat
        have Hb:=hide hb
        have HM1:=hide (fun V=>markText_any (K+2) V (by omega) (by omega))
        generalize mtx (K+2)=m1 at HC HM1
        obtain ⟨c0,c1,c2⟩:=HC.out wr hb
        have g2:=cell_regrown c2
        have HR1:=hide (fun (d:Nat) (os:Array Obj)=>Calls.regrown_of (HM1.out (grow (redrawn wr d) os)))
        have e1:((K+1:Nat):Int)=(K:Int)+1:=by omega
        have e2:((K+2:Nat):Int)=(K:Int)+1+1:=by omega
        rw [e2] at HR1
        rw [e1] at c1
        clear hb c2 HM1 e1 e2
        go_wp2
        refine wp_region_quiet_below (by kernel_rfl) (by kernel_rfl) ?_
        repeat (go_big_quiet_step ((go_at_call 35;exact HR1.out _ _)))
        refine wpQuiet_nil ?_
        intro _ hw'
        obtain ⟨⟨dq,osq⟩,hw''⟩:=hw'
        subst hw''
        have hb2:=Hb.out.trans ((below_regrown wr dq osq).mono Hb.out.size)
        generalize grow (redrawn wr dq) osq=w2 at hb2 ⊢
        clear g2 HR1 c0 c1 Hb HC
        go_wp2
        go_roundw
        case rel=>exact ⟨j+1,by omega,by go_num,by rw [show k+3 * (j+1)=K+3 from by have:=HK.out;omega];go_num,hb2⟩
        case measure=>simp [intOf];omega
      · have e:j=n:=by omega
        have He:=hide e
        clear e
        go_wp2
        go_ret
        exact ⟨ret_int (by rw [<- He.out]),hb⟩
end Go.Proofs.YthidkbhiikdokaaGreat
