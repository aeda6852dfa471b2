/- The walk of the law FnExactMakeBody. -/
import Derived.Test.YtohachldbpejpaaGreatDoorZmKsEq
import Derived.Test.YtohachldbpejpaaGreatDoorZmBdSpec
import Derived.Test.YtohachldbpejpaaGreatDoorZmGhLaid
import Derived.Below
set_option maxRecDepth 20000
set_option maxHeartbeats 8000000
namespace Go.Proofs.YtohachldbpejpaaGreatDoor
open Go.ChangeShapes Go.WideShapes Go.ChangeAt Go.RowKit
set_option linter.unusedVariables false
theorem totM_sumL (l:List Bk):totM l<=9 * l.length+5 * totK l:=by
  induction l with
  | nil=>simp [totM]
  | cons b l ih =>
    have e1:totM (b :: l)=mkN b+totM l:=by simp [totM]
    have e2:totK (b :: l)=wgK b+totK l:=by simp [totK]
    rw [e1,e2,List.length_cons]
    unfold mkN wgK
    omega
theorem fewN_ofL {l:List Bk} (h:∀ q ∈ l,FitK q) (hm:totK l<=1048576):∀ b ∈ l,FewK b:=fun b hb=>by
  have f:=h b hb
  have m:=totK_at l b hb
  unfold wgK at m
  exact ⟨by omega,by omega,by omega,by omega,by omega,f.qs,f.ws,f.ts,f.ns,f.ms,f.rs⟩
theorem OwnK.othL {S:Nat->Prop} {base:Nat} {w w':World} {b:Bk} {v:Bv} (h:OwnK base w b v) (hO:Oth S w w') (hn:∀ g,v.has g->¬ S g):OwnK base w' b v :=
  ⟨row_oth h.q hO (fun g e=>hn g (.inl e)),row_oth h.p hO (fun g e=>hn g (.inr (.inl e))),row_oth h.h hO (fun g e=>hn g (.inr (.inr (.inl e)))),row_oth h.t hO (fun g e=>hn g (.inr (.inr (.inr (.inl e))))),row_oth h.n hO (fun g e=>hn g (.inr (.inr (.inr (.inr e)))))⟩
theorem OwnKs.othL {S:Nat->Prop} {base:Nat} {w w':World} {v:Value} {l:List Bk} (h:OwnKs base w v l) (hO:Oth S w w') (hn:∀ g,base<=g->g < w.heap.size->¬ S g):OwnKs base w' v l:=by
  obtain ⟨g,cap,Z,hZ,rfl,hr,hk⟩:=h
  refine ⟨g,cap,Z,hZ,rfl,row_oth hr hO (fun x hx=>?_),?_⟩
  · have:=World.ownsRow.lt hr x hx
    exact hn x this.1 this.2
  · exact ⟨fun i hi=>(hk.own i hi).othL hO (fun x hx=>by have:=(hk.own i hi).in9 x hx;exact hn x this.1 this.2),hk.far,hk.inner,hk.apart⟩
def cutW (w:World) (n:Nat):World:={ w with heap:=w.heap.extract 0 n }
theorem cutW_size {w:World} {n:Nat} (h:n<=w.heap.size):(cutW w n).heap.size=n:=by
  show (w.heap.extract 0 n).size=n
  rw [Array.size_extract]
  omega
theorem cutW_below {w:World} {n:Nat} (h:n<=w.heap.size):Below (cutW w n).heap.size (cutW w n) w:=by
  refine ⟨rfl,rfl,rfl,by rw [cutW_size h];exact h,fun k hk=>?_⟩
  rw [cutW_size h] at hk
  show w.heap[k]?=(w.heap.extract 0 n)[k]?
  rw [Array.getElem?_extract]
  simp
  intro h9
  omega
theorem markKs_any (v:Value) (l:List Bk) (k base:Nat) (hl:l.length<=10000000) (hl1:∀ b ∈ l,b.qw.length<=4000000/\b.tw.length<=4000000/\b.th.length<=4000000/\b.ts.length<=4000000/\b.nx.length<=4000000) (hk:k+totM l<=80000000) (hk0:0 < k)
    (w8 w:World) (ho:OwnKs base w8 v l) (hO:Oth (fun x=>x < base) w8 w) :
    Calls Tryz.prog 41 #[v,.int .i64 (k:Int)] w fun e w'=>e=.returned (.int .i64 ((k+totM l:Nat):Int))/\Btw base w8.heap.size w w':=by
  have hs:=hO.size
  have hc:=cutW_size hs
  have hOc:Oth (fun x=>x < base) w8 (cutW w w8.heap.size):=by
    refine ⟨hO.os,hO.tape,hO.output,by rw [hc];exact Nat.le_refl _,fun i hi hn=>?_⟩
    rw [<- hO.block i hi hn]
    exact ((cutW_below hs).block i (by rw [hc];exact hi)).symm
  refine (markBlockS_any v l k base (cutW w w8.heap.size) w (ho.othL hOc (fun g h _ h2=>by omega)) (cutW_below hs) hl hl1 hk hk0).mono ?_
  rintro e w' ⟨h1,-,h3⟩
  refine ⟨h1,h3.os,h3.tape,h3.output,h3.size,fun i hi ho=>h3.block i hi (fun h=>?_)⟩
  rw [hc] at h
  omega
theorem OwnT.btw {base lo hi:Nat} {w w':World} {v:Value} {l:List Tx5} (h:OwnT base w v l) (hb:Btw lo hi w w') (hd:hi<=base\/∀ k,v.ownBlock=some k->k < lo):OwnT base w' v l :=
  row_btw h hb (fun k hk=>by rcases hd with h' | h';exact .inr (by have:=(h.lt k hk).1;omega);exact .inl (h' k hk))
theorem OwnV.btw {base lo hi:Nat} {w w':World} {v:Value} {l:List Vl} (h:OwnV base w v l) (hb:Btw lo hi w w') (hd:hi<=base\/∀ k,v.ownBlock=some k->k < lo):OwnV base w' v l :=
  row_btw h hb (fun k hk=>by rcases hd with h' | h';exact .inr (by have:=h.ge k hk;omega);exact .inl (h' k hk))
theorem btw_oth {S:Nat->Prop} {lo hi:Nat} {w w':World} (h:Oth S w w') (hs:∀ k,S k->lo<=k/\k < hi):Btw lo hi w w':=⟨h.os,h.tape,h.output,h.size,fun k hk hn=>h.block k hk (fun e=>by have:=hs k e;omega)⟩
theorem oth_grown {w w':World} {o:Option Nat} (h:w.grownBy w' o):Oth (fun g=>o=some g) w w':=⟨h.os,h.tape,h.output,h.size,fun k hk hn=>h.block k hk (fun e=>hn e.symm)⟩
theorem gdS_len {e:Int} {most:Nat}:∀ (ts:List Tx5) (s:List Ac × List Tx5),s.2.length<=most->(ts.foldl (gdS e most) s).2.length<=most
  | [],s,h=>h
  | t :: ts,s,h=>by
    rw [List.foldl_cons]
    refine gdS_len ts _ ?_
    unfold gdS
    split
    · exact h
    · split
      · simp;omega
      · exact h
theorem bdA_few (e:Int) (z:List Ac) (l:List Bk) (id:Int) (ts:List Tx5) (hz:z.length<=3999999) (hall:∀ a ∈ z,a.1.size<=maxLen/\a.2.2.2.2.length<=3999999):(bdA e z l id ts 4).1.ts.length<=4/\(bdA e z l id ts 4).1.nx.length<=3999999:=by
  unfold bdA
  split
  · unfold bdC
    have hg:=gdS_len (e:=e) (most:=4) ts (foL e z l (chT l id),[]) (by simp)
    have hfo:=foL_few (e:=e) l (chT l id) z hz hall
    have hga:=gdA_few (e:=e) (l:=foL e z l (chT l id)) ts 4 hfo.1 hfo.2
    have hne:=neA_few (e:=e) hga.1 hga.2
    split
    · exact ⟨by simp,by simp⟩
    · split
      · exact ⟨hg,Nat.le_trans (setA_len _ _) hne.1⟩
      · exact ⟨hg,by simp⟩
  · exact ⟨by simp,by simp⟩
open Classical in
theorem fnExactMakeBody_walk (a0:Int) (y0:Value) (z0:List Ac) (a1:Option Addr) (len1 cap1:Nat) (z1:List Bk) (a2:Int) (a3:Option Addr) (len3 cap3:Nat) (z3:List Tx5) (w:World) (hgl:Gl w) (hgh:Gh w) (w0:RdA w y0 z0/\z0.length<=maxLen/\∀ q ∈ z0,q.1.size<=maxLen/\q.2.2.2.2.length<=maxLen) (w1x:len1=z1.length/\RdKs w (.slice a1 len1 cap1) z1/\z1.length<=maxLen/\∀ q ∈ z1,FitK q) (w2x:(Lit.int .i64 a2).wf=true) (w3x:len3=z3.length/\RdT w (.slice a3 len3 cap3) z3/\z3.length<=maxLen/\∀ q ∈ z3,q.2.1.size<=maxLen/\q.2.2.1.size<=maxLen) :
    Calls Tryz.prog 7 #[lgV a0 y0,.slice a1 len1 cap1,.int .i64 a2,.slice a3 len3 cap3] w fun e w'=>e=.returned (.bool true)/\Below w.heap.size w w':=by
  obtain ⟨hr,hlm,hsm⟩:=w0
  obtain ⟨rfl,hrt,hlt,hst⟩:=w1x
  obtain ⟨rfl,hru,hlu,hsu⟩:=w3x
  obtain ⟨av,cv,rfl⟩:=hr.shape
  have hlm':z0.length<=9223372036854775807:=by unfold maxLen at hlm;omega
  have hsm':∀ a ∈ z0,a.1.size<=9223372036854775807/\a.2.2.2.2.length<=9223372036854775807:=fun a ha=>by have:=hsm a ha;unfold maxLen at this;omega
  have hlu':z3.length<=9223372036854775807:=by unfold maxLen at hlu;omega
  have hsu':∀ a ∈ z3,a.2.1.size<=9223372036854775807/\a.2.2.1.size<=9223372036854775807:=fun a ha=>by have:=hsu a ha;unfold maxLen at this;omega
  obtain ⟨w1,hw1⟩:∃ w1,w.alloc (.cells #[.int .i64 a0,.slice av z0.length cv] 64)=w1:=⟨_,rfl⟩
  have hb1:Below w.heap.size w w1:=by rw [<- hw1];exact (Below.refl _ w).alloc (Nat.le_refl _) _
  have k1:Blk w1 w.heap.size 64 [.int .i64 a0,.slice av z0.length cv]:=by rw [<- hw1];exact Blk.new w _ _
  have Hz:=hide (szLedger_any a0 _ z0 1048576 w1 (hr.below hb1 (Nat.le_refl _)) (by omega) hlm' hsm')
  have Hr:=hide hr
  have Hrt:=hide hrt
  have Hru:=hide hru
  have Hsm:=hide hsm
  have Hst:=hide hst
  have Hsu:=hide hsu
  have Hsu':=hide hsu'
  have Hlu':=hide hlu'
  have Hgh:=hide hgh
  have Hgl:=hide hgl
  have l1:w1.heap.size=w.heap.size+1:=by rw [<- hw1];simp
  have c0:=k1.cell 0
  have c1:=k1.cell 1
  simp only [List.getElem?_cons_zero,List.getElem?_cons_succ] at c0 c1
  simp only [lgV] at *
  have Hlt:=hide hlt
  clear hr hsm hsm' hlm hgh hgl hrt hst hlt w2x hru hsu hlu hsu' hlu'
  go_enter Tryz.func7,Tryz.ntmps7
  go_wp2_with fail
  refine Hz.out.mono ?_
  rintro e w2a ⟨r,rfl,hfit,hb2a⟩
  have hB2a:Below w.heap.size w w2a:=hb1.trans (hb2a.mono hb1.size)
  have k2:=k1.below hb2a k1.lt
  clear c0 c1 k1
  by_cases hneg:r < 0
  · clear hfit
    go_wp2
    go_ret
    exact ⟨rfl,hB2a⟩
  have hrm:=hfit (by omega)
  obtain ⟨rn,hrn⟩:∃ n:Nat,r=(n:Int):=⟨r.toNat,by omega⟩
  subst hrn
  have Hzt:=hide (szBlockSN_any _ z1 rn w2a (Hrt.out.below hB2a (Nat.le_refl _)) (by omega) Hlt.out Hst.out)
  clear hfit
  go_wp2_with fail
  refine Hzt.out.mono ?_
  rintro e w2b ⟨r2,rfl,hfit,hb2b⟩
  have hB2b:Below w.heap.size w w2b:=hB2a.trans (hb2b.mono hB2a.size)
  replace k2:=k2.below hb2b k2.lt
  clear Hzt
  by_cases hneg2:r2 < 0
  · clear hfit
    go_wp2
    go_ret
    exact ⟨rfl,hB2b⟩
  have hfk:=hfit (by omega)
  obtain ⟨rm,hrm2⟩:∃ n:Nat,r2=(n:Int):=⟨r2.toNat,by omega⟩
  subst hrm2
  have Hzu:=hide (szTxM_any _ z3 rm w2b (Hru.out.below hB2b (Nat.le_refl _)) (by omega) Hlu'.out Hsu'.out)
  clear hfit
  go_wp2_with fail
  refine Hzu.out.mono ?_
  rintro e w2 ⟨r3,rfl,hfit,hb2⟩
  have hB2:Below w.heap.size w w2:=hB2b.trans (hb2.mono hB2b.size)
  replace k2:=k2.below hb2 k2.lt
  clear Hzu Hlu' Hsu'
  by_cases hneg3:r3 < 0
  · clear hfit
    go_wp2
    go_ret
    exact ⟨rfl,hB2⟩
  · have hl:=hrm
    have hfu:=hfit (by omega)
    have hl1:z1.length<=1048576:=by omega
    have hl3:z3.length<=1048576:=by omega
    have hlk:totK z1<=1048576:=by omega
    have hfew:=fewN_ofL Hst.out hlk
    have htr:=trS_of Hst.out
    have htm:=totM_sumL z1
    have hl4:z0.length<=1048576:=by omega
    have hlv:∀ a ∈ z0,a.2.2.2.2.length<=1048576:=fun a ha=>by have h1:=totA_at z0 a ha;unfold wgA at h1;omega
    have hnl3:∀ a ∈ z0,a.1.size<=maxLen/\a.2.2.2.2.length<=3999999:=fun a ha=>⟨(Hsm.out a ha).1,by have:=hlv a ha;omega⟩
    have hnz:nxs 1 z0+totM z1+5 * z3.length<=80000000:=by have:=nxs_tot 1 z0;omega
    have HS:=hide (fun v vt vu w hr hrt hru=>specMakeBody_any a0 v vt vu z0 z1 a2 z3 w hr hrt hru (by omega) hnl3 (by omega) hfew htr (by omega) Hsu.out)
    have HI:=hide (fun v vt vu w (hgw:Gh w) (hgv:Gl w) hr hrt hru=>implMakeBody_any a0 v vt vu z0 z1 a2 z3 w hgw hgv hr hrt hru (by omega) hnl3 (by omega) hfew htr (by omega) Hsu.out)
    have HT:=hide (fun v w hr=>toLedger_any a0 v z0 w hr (by omega) (fun a ha=>by have:=hlv a ha;omega))
    have HE:=hide (fun v1 v2 w h1 h2=>eqLedger_any a0 a0 v1 v2 z0 z0 w h1 h2 (by omega) (by omega) (fun a ha=>by have:=hlv a ha;omega) (fun a ha=>by have:=hlv a ha;omega))
    have HX:=hide (fun v w hr=>toBlockS_any v z1 w hr (by omega) hfew)
    have HEX:=hide (fun v1 v2 w h1 h2=>eqBlockS_any v1 v2 z1 w h1 h2 (by omega) hfew)
    have HU:=hide (fun v w hr=>toTxS_any v z3 w hr (by omega))
    have HEU:=hide (fun v1 v2 w h1 h2=>eqTxS_any v1 v2 z3 z3 w h1 h2 (by omega) (by omega) rfl)
    have hP:=bdA_few a0 z0 z1 a2 z3 (by omega) hnl3
    generalize bdA a0 z0 z1 a2 z3 4=R at HS HI hP
    obtain ⟨⟨P,E,Q,Y⟩,fl⟩:=R
    simp only at HS HI hP
    obtain ⟨hP4,hQ4⟩:=hP
    have HEP:=hide (fun v1 v2 w h1 h2=>eqTxS_any v1 v2 P P w h1 h2 (by omega) (by omega) rfl)
    have HEQ:=hide (fun v1 v2 w h1 h2=>eqValS_any v1 v2 Q Q w h1 h2 (by omega) (by omega))
    rw [decide_eq_true rfl] at HEQ
    rw [decide_eq_true rfl,decide_eq_true rfl,Bool.true_and] at HE
    have HM:=hide (fun v base hi w ho=>markLedger_any a0 v z0 1 base hi w ho (by omega) (fun a ha=>by have:=hlv a ha;omega) (by omega) (by omega))
    have hkz0:0 < nxs 1 z0:=nxs_ge 1 z0
    have HMX:=hide (fun v base V0 w ho hh=>markKs_any v z1 (nxs 1 z0) base (by omega) (fun b hb=>⟨(hfew b hb).q,(hfew b hb).w,(hfew b hb).h,(hfew b hb).t,(hfew b hb).n⟩) (by omega) hkz0 V0 w ho hh)
    have HMU:=hide (fun v base w ho=>markTxC_any v z3 (nxs 1 z0+totM z1) base w ho (by omega) (by omega) (by omega))
    have HMP:=hide (fun v base w ho=>markTxC_any v P 1 base w ho (by omega) (by omega) (by omega))
    have HMQ:=hide (fun v base w ho=>markValS_any v Q (1+5 * P.length) base w ho (by omega) (by omega) (by omega))
    have HHP:=hide (fun v w hr=>heldTxS_any v 1 P.length w hr (by omega) (by omega) (by omega))
    have HHQ:=hide (fun v w hr=>heldValS_any v (1+5 * P.length) Q.length w hr (by omega) (by omega) (by omega))
    have hkx:¬ ((nxs 1 z0+totM z1+5 * z3.length:Nat):Int) < 0:=by omega
    have hkP:¬ ((1+5 * P.length:Nat):Int) < 0:=by omega
    have hkQ:¬ ((1+5 * P.length+2 * Q.length:Nat):Int) < 0:=by omega
    generalize nxs 1 z0+totM z1+5 * z3.length=ku at HMU hkx
    generalize nxs 1 z0+totM z1=kx at HMX HMU
    generalize nxs 1 z0=kz at HM HMX
    generalize 1+5 * P.length+2 * Q.length=kQ at HMQ HHQ hkQ
    generalize mkV (1+5 * P.length) Q.length=MQ at HMQ HHQ
    generalize 1+5 * P.length=kP at HMP HHP HMQ HHQ hkP
    generalize mkT 1 P.length=MP at HMP HHP
    simp only [lgV] at HS HI HT HE HM
    have HL:=hide (fun w v (h:RdT w v P)=>h.shape)
    have HLV:=hide (fun w v (h:RdV w v Q)=>h.shape)
    generalize P.length=pn at HL
    generalize Q.length=qn at HLV
    clear hfit hfk hfu hlk hfew htr htm hl hl1 hl3 hl4 hlv hnl3 Hsm Hz hnz hP4 hQ4 Hst Hsu hkz0 hrm
    have c0:=k2.cell 0
    have c1:=k2.cell 1
    simp only [List.getElem?_cons_zero,List.getElem?_cons_succ] at c0 c1
    go_wp2_with fail
    refine (HT.out _ _ (Hr.out.below hB2 (Nat.le_refl _))).mono ?_
    rintro e wT5 ⟨vT5,rfl,oT5,hbT5⟩
    have hBT5:Below w.heap.size w wT5:=hB2.trans (hbT5.mono hB2.size)
    obtain ⟨aT5,cT5,rfl⟩:=oT5.rd.shape
    clear c0 c1
    go_wp2_with fail
    refine (HX.out _ _ (Hrt.out.below hBT5 (Nat.le_refl _))).mono ?_
    rintro e wX5 ⟨vX5,rfl,oX5,hbX5⟩
    have hBX5:Below w.heap.size w wX5:=hBT5.trans (hbX5.mono hBT5.size)
    have oT5:=oT5.below hbX5 (Nat.le_refl _)
    obtain ⟨aX5,cX5,rfl⟩:=oX5.rd.shape
    go_wp2_with fail
    refine (HU.out _ _ (Hru.out.below hBX5 (Nat.le_refl _))).mono ?_
    rintro e wU5 ⟨vU5,rfl,oU5,hbU5⟩
    have hBU5:Below w.heap.size w wU5:=hBX5.trans (hbU5.mono hBX5.size)
    have oT5:=oT5.below hbU5 (Nat.le_refl _)
    have oX5:=oX5.below hbU5 (Nat.le_refl _)
    obtain ⟨aU5,cU5,rfl⟩:=oU5.rd.shape
    have hbW5:Below w2.heap.size w2 wU5:=hbT5.trans ((hbX5.trans (hbU5.mono hbX5.size)).mono hbT5.size)
    go_wp2_with fail
    refine (HS.out _ _ _ _ oT5.rd oX5.rd oU5.rd).mono ?_
    rintro e w5 ⟨vg5,vn5,rfl,g5,n5,hbA5⟩
    have hb5:Below w2.heap.size w2 w5:=hbW5.trans (hbA5.mono hbW5.size)
    obtain ⟨ag5,cg5,hvg5⟩:=HL.out _ _ g5.rd
    obtain ⟨an5,cn5,hvn5⟩:=HLV.out _ _ n5.rd
    subst hvg5
    subst hvn5
    clear oT5 oX5 oU5
    have hB5:Below w.heap.size w w5:=hB2.trans (hb5.mono hB2.size)
    replace k2:=k2.below hb5 k2.lt
    have Hg5:Hid (∀ g,(Value.slice ag5 pn cg5).ownBlock=some g->g < w5.heap.size):=hide (fun g hg=>(g5.lt g hg).2)
    have Hn5:Hid (∀ g,(Value.slice an5 qn cn5).ownBlock=some g->g < w5.heap.size):=hide (fun g hg=>n5.lt g hg)
    have c0:=k2.cell 0
    have c1:=k2.cell 1
    simp only [List.getElem?_cons_zero,List.getElem?_cons_succ] at c0 c1
    go_wp2_with fail
    refine (HT.out _ _ (Hr.out.below hB5 (Nat.le_refl _))).mono ?_
    rintro e w6 ⟨v6,rfl,o6,hb6⟩
    have hB6:Below w.heap.size w w6:=hB5.trans (hb6.mono hB5.size)
    replace k2:=k2.below hb6 k2.lt
    replace g5:=g5.below hb6 (Nat.le_refl _)
    replace n5:=n5.below hb6 (Nat.le_refl _)
    have x6:=o6.ox
    clear o6 c0 c1
    obtain ⟨a6,cv6,rfl⟩:=x6.rd.shape
    obtain ⟨w7,hw7⟩:∃ w7,w6.alloc (.cells #[.int .i64 a0,.slice a6 z0.length cv6] 26)=w7:=⟨_,rfl⟩
    have hb7:Below w6.heap.size w6 w7:=by rw [<- hw7];exact (Below.refl _ w6).alloc (Nat.le_refl _) _
    have b7:Blk w7 w6.heap.size 26 [.int .i64 a0,.slice a6 z0.length cv6]:=by rw [<- hw7];exact Blk.new w6 _ _
    have l7:w7.heap.size=w6.heap.size+1:=by rw [<- hw7];simp
    have hB7:Below w.heap.size w w7:=hB6.trans (hb7.mono hB6.size)
    replace k2:=k2.below hb7 k2.lt
    replace g5:=g5.below hb7 (Nat.le_refl _)
    replace n5:=n5.below hb7 (Nat.le_refl _)
    replace x6:=x6.below hb7 (Nat.le_refl _)
    have L7:=hide l7
    clear l7
    go_wp2_with fail
    refine (HX.out _ _ (Hrt.out.below hB7 (Nat.le_refl _))).mono ?_
    rintro e w8 ⟨v8,rfl,o8,hb8⟩
    have hB8:Below w.heap.size w w8:=hB7.trans (hb8.mono hB7.size)
    replace k2:=k2.below hb8 k2.lt
    replace b7:=b7.below hb8 b7.lt
    replace g5:=g5.below hb8 (Nat.le_refl _)
    replace n5:=n5.below hb8 (Nat.le_refl _)
    replace x6:=x6.below hb8 (Nat.le_refl _)
    obtain ⟨a8,cv8,rfl⟩:=o8.rd.shape
    have O8:=hide o8
    go_wp2_with fail
    refine (HU.out _ _ (Hru.out.below hB8 (Nat.le_refl _))).mono ?_
    rintro e w8u ⟨v8u,rfl,o8u,hb8u⟩
    have hB8u:Below w.heap.size w w8u:=hB8.trans (hb8u.mono hB8.size)
    replace k2:=k2.below hb8u k2.lt
    replace b7:=b7.below hb8u b7.lt
    replace g5:=g5.below hb8u (Nat.le_refl _)
    replace n5:=n5.below hb8u (Nat.le_refl _)
    replace x6:=x6.below hb8u (Nat.le_refl _)
    replace o8:=o8.below hb8u (Nat.le_refl _)
    obtain ⟨a8u,cv8u,rfl⟩:=o8u.rd.shape
    have Hlu8:Hid (∀ g,(Value.slice a8u z3.length cv8u).ownBlock=some g->w8.heap.size<=g/\g < w8u.heap.size):=hide (fun g hg=>o8u.lt g hg)
    have c0:=b7.cell 0
    have c1:=b7.cell 1
    simp only [List.getElem?_cons_zero,List.getElem?_cons_succ] at c0 c1
    go_wp2_with fail
    refine (HI.out _ _ _ _ (Hgh.out.below hB8u) (Hgl.out.below hB8u (Nat.le_refl _)) x6.rd o8.rd o8u.rd).mono ?_
    rintro e w9 ⟨vg9,vn9,rfl,g9,n9,hbA9⟩
    have hb9:Below w8u.heap.size w8u w9:=hbA9
    obtain ⟨ag9,cg9,hvg9⟩:=HL.out _ _ g9.rd
    obtain ⟨an9,cn9,hvn9⟩:=HLV.out _ _ n9.rd
    subst hvg9
    subst hvn9
    clear c0 c1
    have hB9:Below w.heap.size w w9:=hB8u.trans (hb9.mono hB8u.size)
    replace k2:=k2.below hb9 k2.lt
    replace b7:=b7.below hb9 b7.lt
    replace g5:=g5.below hb9 (Nat.le_refl _)
    replace n5:=n5.below hb9 (Nat.le_refl _)
    replace x6:=x6.below hb9 (Nat.le_refl _)
    replace o8:=o8.below hb9 (Nat.le_refl _)
    replace o8u:=o8u.below hb9 (Nat.le_refl _)
    have Hg9:Hid (∀ g,(Value.slice ag9 pn cg9).ownBlock=some g->w8u.heap.size<=g/\g < w9.heap.size):=hide (fun g hg=>g9.lt g hg)
    have Hn9:Hid (∀ g,(Value.slice an9 qn cn9).ownBlock=some g->w8u.heap.size<=g/\g < w9.heap.size):=hide (fun g hg=>⟨n9.ge g hg,n9.lt g hg⟩)
    have Hap:Hid (∀ g,(Value.slice an9 qn cn9).ownBlock=some g->(Value.slice ag9 pn cg9).ownBlock ≠ some g):=hide (rows_apart g9 n9 (by decide))
    have l7:=L7.out
    have O89:=hide (hb8u.trans (hb9.mono hb8u.size))
    go_wp2_with fail
    refine (HEP.out _ _ _ g9.rd g5.rd).mono ?_
    rintro e w10a ⟨rfl,hb10a⟩
    have hB10a:Below w.heap.size w w10a:=hB9.trans (hb10a.mono hB9.size)
    replace k2:=k2.below hb10a k2.lt
    replace b7:=b7.below hb10a b7.lt
    replace g5:=g5.below hb10a (Nat.le_refl _)
    replace n5:=n5.below hb10a (Nat.le_refl _)
    replace x6:=x6.below hb10a (Nat.le_refl _)
    replace o8:=o8.below hb10a (Nat.le_refl _)
    replace o8u:=o8u.below hb10a (Nat.le_refl _)
    replace g9:=g9.below hb10a (Nat.le_refl _)
    replace n9:=n9.below hb10a (Nat.le_refl _)
    go_wp2_with fail
    refine (HEQ.out _ _ _ n9.rd n5.rd).mono ?_
    rintro e w10 ⟨rfl,hb10⟩
    have hB10:Below w.heap.size w w10:=hB10a.trans (hb10.mono hB10a.size)
    replace k2:=k2.below hb10 k2.lt
    replace b7:=b7.below hb10 b7.lt
    replace g5:=g5.below hb10 (Nat.le_refl _)
    replace n5:=n5.below hb10 (Nat.le_refl _)
    replace x6:=x6.below hb10 (Nat.le_refl _)
    replace o8:=o8.below hb10 (Nat.le_refl _)
    replace o8u:=o8u.below hb10 (Nat.le_refl _)
    replace g9:=g9.below hb10 (Nat.le_refl _)
    replace n9:=n9.below hb10 (Nat.le_refl _)
    have hd10:Below w10.heap.size w10 w10.drew:=(Below.refl _ w10).drew
    have hB10d:Below w.heap.size w w10.drew:=hB10.drew
    replace k2:=k2.below hd10 k2.lt
    replace b7:=b7.below hd10 b7.lt
    replace g5:=g5.below hd10 (Nat.le_refl _)
    replace n5:=n5.below hd10 (Nat.le_refl _)
    replace x6:=x6.below hd10 (Nat.le_refl _)
    replace o8:=o8.below hd10 (Nat.le_refl _)
    replace o8u:=o8u.below hd10 (Nat.le_refl _)
    replace g9:=g9.below hd10 (Nat.le_refl _)
    replace n9:=n9.below hd10 (Nat.le_refl _)
    have HSx:Hid (∀ W,Blk W w.heap.size 64 [.int .i64 a0,.slice av z0.length cv]->Blk W w6.heap.size 26 [.int .i64 a0,.slice a6 z0.length cv6]->(W.cell? ⟨w.heap.size,0,none⟩=some (.int .i64 a0)/\W.cell? ⟨w.heap.size,1,none⟩=some (.slice av z0.length cv)/\W.cell? ⟨w6.heap.size,0,none⟩=some (.int .i64 a0)/\W.cell? ⟨w6.heap.size,1,none⟩=some (.slice a6 z0.length cv6))):=hide (fun W h1 h2=>⟨h1.cell 0,h1.cell 1,h2.cell 0,h2.cell 1⟩)
    have hS10:=HSx.out _ k2 b7
    have Kk:=hide k2
    have Kb:=hide b7
    have Kx:=hide x6
    clear k2 b7 x6
    go_wp2
    go_region_held_law (fun w'=>w'.cell? ⟨w.heap.size,0,none⟩=some (.int .i64 a0)/\w'.cell? ⟨w.heap.size,1,none⟩=some (.slice av z0.length cv)/\w'.cell? ⟨w6.heap.size,0,none⟩=some (.int .i64 a0)/\w'.cell? ⟨w6.heap.size,1,none⟩=some (.slice a6 z0.length cv6)) (first | with_reducible exact hS10 | with_reducible exact hS11 | with_reducible exact hS12) ((first
      | (go_at_call 32;refine (HE.out _ _ _ (Kx.out.below hb11 (Nat.le_refl _)).rd o11.rd).mono ?_;rintro e w12 ⟨rfl,hb12⟩;have hS12:=HSx.out _ ((Kk.out.below hb11 Kk.out.lt).below hb12 (Kk.out.below hb11 Kk.out.lt).lt) ((Kb.out.below hb11 Kb.out.lt).below hb12 (Kb.out.below hb11 Kb.out.lt).lt))
      | (go_at_call 29;refine (HT.out _ _ (Hr.out.below hB10d (Nat.le_refl _))).mono ?_;rintro e w11 ⟨v11,rfl,o11,hb11⟩;have hsh:=o11.rd.shape;obtain ⟨a11,cv11,hv11⟩:=hsh;subst hv11;have hS11:=HSx.out _ (Kk.out.below hb11 Kk.out.lt) (Kb.out.below hb11 Kb.out.lt))))
    have k2:=Kk.out
    have b7:=Kb.out
    have x6:=Kx.out
    have hB11:Below w.heap.size w w11:=hB10d.trans (hb11.mono hB10.size)
    replace k2:=k2.below hb11 k2.lt
    replace b7:=b7.below hb11 b7.lt
    replace g5:=g5.below hb11 (Nat.le_refl _)
    replace n5:=n5.below hb11 (Nat.le_refl _)
    replace x6:=x6.below hb11 (Nat.le_refl _)
    replace o8:=o8.below hb11 (Nat.le_refl _)
    replace o8u:=o8u.below hb11 (Nat.le_refl _)
    replace g9:=g9.below hb11 (Nat.le_refl _)
    replace n9:=n9.below hb11 (Nat.le_refl _)
    have hB12:Below w.heap.size w w12:=hB11.trans (hb12.mono hB11.size)
    replace k2:=k2.below hb12 k2.lt
    replace b7:=b7.below hb12 b7.lt
    replace g5:=g5.below hb12 (Nat.le_refl _)
    replace n5:=n5.below hb12 (Nat.le_refl _)
    replace x6:=x6.below hb12 (Nat.le_refl _)
    replace o8:=o8.below hb12 (Nat.le_refl _)
    replace o8u:=o8u.below hb12 (Nat.le_refl _)
    replace g9:=g9.below hb12 (Nat.le_refl _)
    replace n9:=n9.below hb12 (Nat.le_refl _)
    clear hS10 hS11 hS12 o11 HSx Kk Kb Kx
    go_wp2_with fail
    refine (HX.out _ _ (Hrt.out.below hB12 (Nat.le_refl _))).mono ?_
    rintro e w12a ⟨v12a,rfl,o12a,hb12a⟩
    have hB12a:Below w.heap.size w w12a:=hB12.trans (hb12a.mono hB12.size)
    replace k2:=k2.below hb12a k2.lt
    replace b7:=b7.below hb12a b7.lt
    replace g5:=g5.below hb12a (Nat.le_refl _)
    replace n5:=n5.below hb12a (Nat.le_refl _)
    replace x6:=x6.below hb12a (Nat.le_refl _)
    replace o8:=o8.below hb12a (Nat.le_refl _)
    replace o8u:=o8u.below hb12a (Nat.le_refl _)
    replace g9:=g9.below hb12a (Nat.le_refl _)
    replace n9:=n9.below hb12a (Nat.le_refl _)
    obtain ⟨a12a,cv12a,rfl⟩:=o12a.rd.shape
    go_wp2_with fail
    refine (HEX.out _ _ _ o8.rd o12a.rd).mono ?_
    rintro e w12b ⟨rfl,hb12b⟩
    have hB12b:Below w.heap.size w w12b:=hB12a.trans (hb12b.mono hB12a.size)
    replace k2:=k2.below hb12b k2.lt
    replace b7:=b7.below hb12b b7.lt
    replace g5:=g5.below hb12b (Nat.le_refl _)
    replace n5:=n5.below hb12b (Nat.le_refl _)
    replace x6:=x6.below hb12b (Nat.le_refl _)
    replace o8:=o8.below hb12b (Nat.le_refl _)
    replace o8u:=o8u.below hb12b (Nat.le_refl _)
    replace g9:=g9.below hb12b (Nat.le_refl _)
    replace n9:=n9.below hb12b (Nat.le_refl _)
    clear o12a
    go_wp2_with fail
    refine (HU.out _ _ (Hru.out.below hB12b (Nat.le_refl _))).mono ?_
    rintro e w12c ⟨v12c,rfl,o12c,hb12c⟩
    have hB12c:Below w.heap.size w w12c:=hB12b.trans (hb12c.mono hB12b.size)
    replace k2:=k2.below hb12c k2.lt
    replace b7:=b7.below hb12c b7.lt
    replace g5:=g5.below hb12c (Nat.le_refl _)
    replace n5:=n5.below hb12c (Nat.le_refl _)
    replace x6:=x6.below hb12c (Nat.le_refl _)
    replace o8:=o8.below hb12c (Nat.le_refl _)
    replace o8u:=o8u.below hb12c (Nat.le_refl _)
    replace g9:=g9.below hb12c (Nat.le_refl _)
    replace n9:=n9.below hb12c (Nat.le_refl _)
    obtain ⟨a12c,cv12c,rfl⟩:=o12c.rd.shape
    go_wp2_with fail
    refine (HEU.out _ _ _ o8u.rd o12c.rd).mono ?_
    rintro e w12d ⟨rfl,hb12d⟩
    have hB12d:Below w.heap.size w w12d:=hB12c.trans (hb12d.mono hB12c.size)
    replace k2:=k2.below hb12d k2.lt
    replace b7:=b7.below hb12d b7.lt
    replace g5:=g5.below hb12d (Nat.le_refl _)
    replace n5:=n5.below hb12d (Nat.le_refl _)
    replace x6:=x6.below hb12d (Nat.le_refl _)
    replace o8:=o8.below hb12d (Nat.le_refl _)
    replace o8u:=o8u.below hb12d (Nat.le_refl _)
    replace g9:=g9.below hb12d (Nat.le_refl _)
    replace n9:=n9.below hb12d (Nat.le_refl _)
    clear o12c
    have c0:=b7.cell 0
    have c1:=b7.cell 1
    simp only [List.getElem?_cons_zero,List.getElem?_cons_succ] at c0 c1
    have hz2:=hB2.size
    have hz5:=hB5.size
    have hz6:=hb6.size
    have hz8:=hb8.size
    have hz8u:=hb8u.size
    have hz9:=hb9.size
    have hk2:w.heap.size < w2.heap.size:=by have:=hb2.size;have:=hb2a.size;have:=hb2b.size;omega
    have hz25:=hb5.size
    go_wp2_with fail
    refine (HM.out _ _ _ _ x6).mono ?_
    rintro e w13 ⟨rfl,-,ht13⟩
    have hB13:Below w.heap.size w w13:=hB12d.trans (ht13.below (by omega) hB12d.size)
    clear c0 c1 x6
    replace k2:=k2.btw ht13 (.inl (by omega))
    replace g5:=g5.btw ht13 (.inr (fun g hg=>by have:=Hg5.out g hg;omega))
    replace n5:=n5.btw ht13 (.inr (fun g hg=>by have:=Hn5.out g hg;omega))
    replace o8u:=o8u.btw ht13 (.inl (by omega))
    replace g9:=g9.btw ht13 (.inl (by omega))
    replace n9:=n9.btw ht13 (.inl (by omega))
    clear b7
    have B10a:=O89.out.trans (hb10a.mono O89.out.size)
    have B10:=B10a.trans (hb10.mono B10a.size)
    have B10d:=B10.trans (hd10.mono B10.size)
    have B11:=B10d.trans (hb11.mono B10d.size)
    have B12:=B11.trans (hb12.mono B11.size)
    have B12a:=B12.trans (hb12a.mono B12.size)
    have B12b:=B12a.trans (hb12b.mono B12a.size)
    have B12c:=B12b.trans (hb12c.mono B12b.size)
    have B12d:=B12c.trans (hb12d.mono B12c.size)
    have OT:Hid (Oth (fun x=>x < w7.heap.size) w8 w13):=hide ⟨ht13.os.trans B12d.os,ht13.tape.trans B12d.tape,ht13.output.trans B12d.output,Nat.le_trans B12d.size ht13.size,fun i hi hn=>(ht13.block i (by have:=B12d.size;omega) (.inr (by omega))).trans (B12d.block i hi)⟩
    clear B10a B10 B10d B11 B12 B12a B12b B12c B12d o8
    go_wp2_with fail
    refine (HMX.out _ w7.heap.size w8 _ O8.out OT.out).mono ?_
    rintro e w13a ⟨rfl,ht13a⟩
    have hB13a:Below w.heap.size w w13a:=hB13.trans (ht13a.below (by omega) hB13.size)
    replace k2:=k2.btw ht13a (.inl (by omega))
    replace g5:=g5.btw ht13a (.inr (fun g hg=>by have:=Hg5.out g hg;omega))
    replace n5:=n5.btw ht13a (.inr (fun g hg=>by have:=Hn5.out g hg;omega))
    replace o8u:=o8u.btw ht13a (.inl (by omega))
    replace g9:=g9.btw ht13a (.inl (by omega))
    replace n9:=n9.btw ht13a (.inl (by omega))
    go_wp2_with fail
    refine (HMU.out _ _ _ o8u).mono ?_
    rintro e w13b ⟨rfl,-,hg13b⟩
    have ht13b:Btw w8.heap.size w8u.heap.size w13a w13b:=btw_oth hg13b Hlu8.out
    have hB13b:Below w.heap.size w w13b:=hB13a.trans (ht13b.below (by omega) hB13a.size)
    clear o8u hg13b
    replace k2:=k2.btw ht13b (.inl (by omega))
    replace g5:=g5.btw ht13b (.inr (fun g hg=>by have:=Hg5.out g hg;omega))
    replace n5:=n5.btw ht13b (.inr (fun g hg=>by have:=Hn5.out g hg;omega))
    replace g9:=g9.btw ht13b (.inl (by omega))
    replace n9:=n9.btw ht13b (.inl (by omega))
    go_wp2_with fail
    refine (HEP.out _ _ _ g9.rd g5.rd).mono ?_
    rintro e w14a ⟨rfl,hb14a⟩
    have hB14a:Below w.heap.size w w14a:=hB13b.trans (hb14a.mono hB13b.size)
    replace k2:=k2.below hb14a k2.lt
    replace g5:=g5.below hb14a (Nat.le_refl _)
    replace n5:=n5.below hb14a (Nat.le_refl _)
    replace g9:=g9.below hb14a (Nat.le_refl _)
    replace n9:=n9.below hb14a (Nat.le_refl _)
    go_wp2_with fail
    refine (HEQ.out _ _ _ n9.rd n5.rd).mono ?_
    rintro e w14 ⟨rfl,hb14⟩
    have hB14:Below w.heap.size w w14:=hB14a.trans (hb14.mono hB14a.size)
    replace k2:=k2.below hb14 k2.lt
    replace g5:=g5.below hb14 (Nat.le_refl _)
    replace n5:=n5.below hb14 (Nat.le_refl _)
    replace g9:=g9.below hb14 (Nat.le_refl _)
    replace n9:=n9.below hb14 (Nat.le_refl _)
    go_wp2_with fail
    refine (HMP.out _ _ _ g9).mono ?_
    rintro e w15 ⟨rfl,y9,hg15⟩
    have ht15:Btw w8u.heap.size w9.heap.size w14 w15:=btw_oth hg15 Hg9.out
    have hB15:Below w.heap.size w w15:=hB14.trans (ht15.below (by omega) hB14.size)
    clear g9
    replace k2:=k2.btw ht15 (.inl (by omega))
    replace g5:=g5.btw ht15 (.inr (fun g hg=>by have:=Hg5.out g hg;omega))
    replace n5:=n5.btw ht15 (.inr (fun g hg=>by have:=Hn5.out g hg;omega))
    replace n9:=row_oth n9 hg15 Hap.out
    go_wp2_with fail
    refine (HMQ.out _ _ _ n9).mono ?_
    rintro e w16 ⟨rfl,u9,hg16⟩
    have ht16:Btw w8u.heap.size w9.heap.size w15 w16:=btw_oth (oth_grown hg16) Hn9.out
    have hB16:Below w.heap.size w w16:=hB15.trans (ht16.below (by omega) hB15.size)
    clear n9
    replace k2:=k2.btw ht16 (.inl (by omega))
    replace g5:=g5.btw ht16 (.inr (fun g hg=>by have:=Hg5.out g hg;omega))
    replace n5:=n5.btw ht16 (.inr (fun g hg=>by have:=Hn5.out g hg;omega))
    replace y9:=row_oth y9 (oth_grown hg16) (fun g hg hs=>Hap.out g hs hg)
    go_wp2_with fail
    refine (HHP.out _ _ (OwnT.rd y9)).mono ?_
    rintro e w17a ⟨rfl,hb17a⟩
    have hB17a:Below w.heap.size w w17a:=hB16.trans (hb17a.mono hB16.size)
    replace k2:=k2.below hb17a k2.lt
    replace g5:=OwnT.below g5 hb17a (Nat.le_refl _)
    replace n5:=OwnV.below n5 hb17a (Nat.le_refl _)
    replace y9:=OwnT.below y9 hb17a (Nat.le_refl _)
    replace u9:=OwnV.below u9 hb17a (Nat.le_refl _)
    go_wp2_with fail
    refine (HHQ.out _ _ (OwnV.rd u9)).mono ?_
    rintro e w17 ⟨rfl,hb17⟩
    have hB17:Below w.heap.size w w17:=hB17a.trans (hb17.mono hB17a.size)
    replace k2:=k2.below hb17 k2.lt
    replace g5:=OwnT.below g5 hb17 (Nat.le_refl _)
    replace n5:=OwnV.below n5 hb17 (Nat.le_refl _)
    replace y9:=OwnT.below y9 hb17 (Nat.le_refl _)
    replace u9:=OwnV.below u9 hb17 (Nat.le_refl _)
    have c0:=k2.cell 0
    have c1:=k2.cell 1
    simp only [List.getElem?_cons_zero,List.getElem?_cons_succ] at c0 c1
    go_wp2_with fail
    refine (HT.out _ _ (Hr.out.below hB17 (Nat.le_refl _))).mono ?_
    rintro e wT19 ⟨vT19,rfl,oT19,hbT19⟩
    have hBT19:Below w.heap.size w wT19:=hB17.trans (hbT19.mono hB17.size)
    obtain ⟨aT19,cT19,rfl⟩:=oT19.rd.shape
    clear c0 c1
    go_wp2_with fail
    refine (HX.out _ _ (Hrt.out.below hBT19 (Nat.le_refl _))).mono ?_
    rintro e wX19 ⟨vX19,rfl,oX19,hbX19⟩
    have hBX19:Below w.heap.size w wX19:=hBT19.trans (hbX19.mono hBT19.size)
    have oT19:=oT19.below hbX19 (Nat.le_refl _)
    obtain ⟨aX19,cX19,rfl⟩:=oX19.rd.shape
    go_wp2_with fail
    refine (HU.out _ _ (Hru.out.below hBX19 (Nat.le_refl _))).mono ?_
    rintro e wU19 ⟨vU19,rfl,oU19,hbU19⟩
    have hBU19:Below w.heap.size w wU19:=hBX19.trans (hbU19.mono hBX19.size)
    have oT19:=oT19.below hbU19 (Nat.le_refl _)
    have oX19:=oX19.below hbU19 (Nat.le_refl _)
    obtain ⟨aU19,cU19,rfl⟩:=oU19.rd.shape
    have hbW19:Below w17.heap.size w17 wU19:=hbT19.trans ((hbX19.trans (hbU19.mono hbX19.size)).mono hbT19.size)
    go_wp2_with fail
    refine (HI.out _ _ _ _ (Hgh.out.below hBU19) (Hgl.out.below hBU19 (Nat.le_refl _)) oT19.rd oX19.rd oU19.rd).mono ?_
    rintro e w19 ⟨vg19,vn19,rfl,g19,n19,hbA19⟩
    have hb19:Below w17.heap.size w17 w19:=hbW19.trans (hbA19.mono hbW19.size)
    obtain ⟨ag19,cg19,hvg19⟩:=HL.out _ _ g19.rd
    obtain ⟨an19,cn19,hvn19⟩:=HLV.out _ _ n19.rd
    subst hvg19
    subst hvn19
    clear oT19 oX19 oU19
    have hB19:Below w.heap.size w w19:=hB17.trans (hb19.mono hB17.size)
    replace k2:=k2.below hb19 k2.lt
    replace g5:=OwnT.below g5 hb19 (Nat.le_refl _)
    replace n5:=OwnV.below n5 hb19 (Nat.le_refl _)
    replace y9:=OwnT.below y9 hb19 (Nat.le_refl _)
    replace u9:=OwnV.below u9 hb19 (Nat.le_refl _)
    go_wp2_with fail
    refine (HEP.out _ _ _ g19.rd g5.rd).mono ?_
    rintro e w20a ⟨rfl,hb20a⟩
    have hB20a:Below w.heap.size w w20a:=hB19.trans (hb20a.mono hB19.size)
    replace k2:=k2.below hb20a k2.lt
    replace g5:=OwnT.below g5 hb20a (Nat.le_refl _)
    replace n5:=OwnV.below n5 hb20a (Nat.le_refl _)
    replace y9:=OwnT.below y9 hb20a (Nat.le_refl _)
    replace u9:=OwnV.below u9 hb20a (Nat.le_refl _)
    replace n19:=n19.below hb20a (Nat.le_refl _)
    go_wp2_with fail
    refine (HEQ.out _ _ _ n19.rd n5.rd).mono ?_
    rintro e w20 ⟨rfl,hb20⟩
    have hB20:Below w.heap.size w w20:=hB20a.trans (hb20.mono hB20a.size)
    replace k2:=k2.below hb20 k2.lt
    replace g5:=OwnT.below g5 hb20 (Nat.le_refl _)
    replace n5:=OwnV.below n5 hb20 (Nat.le_refl _)
    replace y9:=OwnT.below y9 hb20 (Nat.le_refl _)
    replace u9:=OwnV.below u9 hb20 (Nat.le_refl _)
    go_wp2_with fail
    refine (HHP.out _ _ (OwnT.rd y9)).mono ?_
    rintro e w21a ⟨rfl,hb21a⟩
    have hB21a:Below w.heap.size w w21a:=hB20.trans (hb21a.mono hB20.size)
    replace k2:=k2.below hb21a k2.lt
    replace g5:=OwnT.below g5 hb21a (Nat.le_refl _)
    replace n5:=OwnV.below n5 hb21a (Nat.le_refl _)
    replace y9:=OwnT.below y9 hb21a (Nat.le_refl _)
    replace u9:=OwnV.below u9 hb21a (Nat.le_refl _)
    go_wp2_with fail
    refine (HHQ.out _ _ (OwnV.rd u9)).mono ?_
    rintro e w21 ⟨rfl,hb21⟩
    have hB21:Below w.heap.size w w21:=hB21a.trans (hb21.mono hB21a.size)
    replace k2:=k2.below hb21 k2.lt
    replace g5:=OwnT.below g5 hb21 (Nat.le_refl _)
    replace n5:=OwnV.below n5 hb21 (Nat.le_refl _)
    replace y9:=OwnT.below y9 hb21 (Nat.le_refl _)
    replace u9:=OwnV.below u9 hb21 (Nat.le_refl _)
    go_wp2
    go_ret
    exact ⟨rfl,hB21⟩
end Go.Proofs.YtohachldbpejpaaGreatDoor
