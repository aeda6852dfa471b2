/- At all ledgers and nodes FollowAll of the program answers as the model's FollowAll, field by field, and the same number; it writes into no argument and keeps nothing of one; its answer owns its memory: the law FnExactFollowAll returns true, with no condition. -/
import Derived.Test.YtaidhenkijjcfaaGreatZrNdSzW
import Derived.Test.YtaidhenkijjcfaaGreatZrFaI
import Derived.Test.YtaidhenkijjcfaaGreatZrLgFacts
import Derived.Below
set_option maxRecDepth 100000
set_option maxHeartbeats 8000000
namespace Go.Proofs.YtaidhenkijjcfaaGreat
open Go.RowKit
set_option linter.unusedVariables false
def tT4:List Value:=[.slice none 0 0,.slice none 0 0,.slice none 0 0,.bool false]
def rbP (b:Bool) (p:Nd):Nd:=if b=true then { p with vo:=[],go:=[],pl:=[] } else p
def rbY (b:Bool) (u:Nv):Nv:=if b=true then { u with v:=.slice none 0 0,g:=.slice none 0 0,p:=.slice none 0 0 } else u
end Go.Proofs.YtaidhenkijjcfaaGreat
namespace Go.Proofs.YtaidhenkijjcfaaGreat
set_option linter.unusedVariables false
theorem totM_le5 (l:List Bk):totM l<=9 * l.length+5 * totK l:=by
  unfold totM totK
  induction l with
  | nil=>simp
  | cons b l ih=>simp only [List.map_cons,List.sum_cons,List.length_cons,mkN,wgK] at ih ⊢;omega
theorem nxs_le (l:List Ac):∀ k,nxs k l<=k+4 * l.length+2 * totA l:=by
  unfold totA
  induction l with
  | nil=>intro k;simp [nxs]
  | cons a l ih=>intro k;have:=ih (nx k a);simp only [nxs,List.map_cons,List.sum_cons,List.length_cons,wgA];unfold nx at this ⊢;omega
theorem nxG_le9 (l:List Pf):∀ k,nxG nxPf k l<=k+3 * l.length+9 * totG wgPf l:=by
  unfold totG
  induction l with
  | nil=>intro k;simp [nxG]
  | cons a l ih=>intro k;have:=ih (nxPf k a);have h:=totM_le5 a.bs;simp only [nxG,List.map_cons,List.sum_cons,List.length_cons,wgPf];unfold nxPf at this ⊢;omega
theorem totG_mem {α:Type} {f:α->Nat} {l:List α} {q:α} (h:q ∈ l):f q<=totG f l:=by
  unfold totG
  induction l with
  | nil=>simp at h
  | cons a l ih =>
    simp only [List.map_cons,List.sum_cons]
    rcases List.mem_cons.1 h with e | e
    · subst e;omega
    · have:=ih e;omega
theorem wpList_load_guard {P:Program} {ops:Array Oper} {rest:List Oper} {op:Oper} {a:Act} {w:World} {Q:Exit->Act->World->Prop} (hw:Region.wanted op (yielded ops a.tmps)=true) (ty:TypeId) (x:Operand) (ho:op.op=.load ty x)
    (b o:Nat) (hx:a.eval x=.pointer (some ⟨b,o,none⟩)) (cs:List Value) (d:TypeDesc) (hc:w.rangeAt b o cs)
    (hu:P.underlying ty=some d) (hd:d.isRow=true) (hi:(P.info? ty).map (·.size)=some cs.length)
    (h:wpList P ops Q rest (a.put op.dst (.agg cs.toArray)) w):wpList P ops Q (op :: rest) a w :=
  wpList_step fun K hK=>by rw [if_pos hw];exact wp_load_mid ty x ho b o hx cs d hc hu hd hi (hK _ _ h)
end Go.Proofs.YtaidhenkijjcfaaGreat
namespace Go.Proofs.YtaidhenkijjcfaaGreat
open Go.ChangeShapes Go.WideShapes Go.ChangeAt Go.RowKit
open Go.ChangeMaps (open_string shut_string)
set_option linter.unusedVariables false
theorem fnExactFollowAll_own:ownKnob Tryz.prog.godebug=none:=by kernel_rfl
theorem fnExactFollowAll_laidOut:laidOutB Tryz.prog=true:=by kernel_rfl
set_option linter.unusedSimpArgs false
theorem Tryz.infoLc:(Tryz.prog.info? 51).map (·.size)=some 2:=by kernel_rfl
theorem Tryz.infoLp:(Tryz.prog.info? 60).map (·.size)=some 20:=by kernel_rfl
theorem Tryz.infoC2:(Tryz.prog.info? 35).map (·.size)=some 2:=by kernel_rfl
theorem Tryz.infoL2:(Tryz.prog.info? 66).map (·.size)=some 2:=by kernel_rfl
theorem Tryz.infoB:(Tryz.prog.info? 73).map (·.size)=some 20:=by kernel_rfl
theorem lgC_one {w:World} {e:Int} {v:Value} {l:List Ac} (h:RdA w v l):(clC e v).all (·.oneCell')=true:=by
  obtain ⟨a,c,rfl⟩:=h.shape
  rfl
theorem nlNd_leK (p:Nd) (K:Nat):nlNd K p<=K+4 * p.la.length+2 * totA p.la+2 * p.st.length+9 * p.tt.length+5 * totK p.tt+p.hw.length+p.tw.length+p.th.length+3 * p.vo.length+3 * p.go.length+p.dn.length+5 * p.pl.length+3 * p.ps.length+9 * totG wgPf p.ps:=by
  unfold nlNd
  have h1:=nxG_le9 p.ps (nxs K p.la+2 * p.st.length+totM p.tt+p.hw.length+p.tw.length+p.th.length+3 * p.vo.length+3 * p.go.length+p.dn.length+5 * p.pl.length)
  have h2:=nxs_le p.la K
  have h3:=totM_le5 p.tt
  omega
theorem sized_marksK (p:Nd) (K:Nat) (hK:K<=4500000) (h1:wgNd p<=1048576) (h2:p.la.length+totA p.la<=1048576) (h3:p.vo.length<=1048576) (h4:p.go.length<=1048576):nlNd K p<=40000000/\∀ q ∈ p.ps,q.bs.length<=3999999:=by
  unfold wgNd at h1
  have h5:=nlNd_leK p K
  refine ⟨by omega,fun q hq=>?_⟩
  have h7:=totG_mem (f:=wgPf) hq
  have h8:wgPf q=(q.bs.length+totK q.bs)+q.qw.length:=rfl
  omega
theorem fnExactFollowAll_walk (a0:Int) (y0:Value) (z0:List Ac) (z1:Nd) (y1:Nv) (w:World) (w0:RdA w y0 z0/\z0.length<=maxLen/\∀ q ∈ z0,q.1.size<=maxLen/\q.2.2.2.2.length<=maxLen) (w1:RdNd w z1 y1/\FitNd z1) :
    Calls Tryz.prog 5 #[lgV a0 y0,noV z1 y1] w fun e w'=>e=.returned (.bool true)/\Below w.heap.size w w':=by
  obtain ⟨hr,hlm,hsm⟩:=w0
  obtain ⟨hp,hft⟩:=w1
  obtain ⟨w1,hw1⟩:∃ x,(w.alloc (.cells (clC a0 y0).toArray 51)).alloc (.cells (noC z1 y1).toArray 60)=x:=⟨_,rfl⟩
  have s1:(w.alloc (.cells (clC a0 y0).toArray 51)).heap.size=w.heap.size+1:=by simp
  have b1:Below w.heap.size w w1:=by rw [<- hw1];exact ((Below.refl _ w).alloc (Nat.le_refl _) _).alloc (by rw [s1];omega) _
  have KA1:=hide (show Blk w1 w.heap.size 51 (clC a0 y0) from by rw [<- hw1];exact (Blk.new w _ _).below ((Below.refl (w.heap.size+1) _).alloc (by rw [s1];exact Nat.le_refl _) _) (by omega))
  have KP1:=hide (show Blk w1 (w.heap.size+1) 60 (noC z1 y1) from by rw [<- hw1,<- s1];exact Blk.new _ _ _)
  have z0z:=hide KP1.out.lt
  have Hz:=hide (szLedger_any a0 y0 z0 1048576 w1 (hr.below b1 (Nat.le_refl _)) (by omega) (by unfold maxLen at hlm;omega) (fun q hq=>by have:=hsm q hq;unfold maxLen at this;omega))
  have Hx:=hide (fun (m:Nat) (hm:m<=4000000) V (hV:Below w.heap.size w V)=>szwNode_one z1 y1 m V (hp.below hV (Nat.le_refl _)) hm hft)
  have HTc:=hide (fun (hl:z0.length<=4000000) (hv:∀ a ∈ z0,a.2.2.2.2.length<=4000000) V (hV:Below w.heap.size w V)=>toLedger_any a0 y0 z0 V (hr.below hV (Nat.le_refl _)) hl hv)
  have HTp:=hide (fun (hf:FewNd z1) V (hV:Below w.heap.size w V)=>toNode_any z1 y1 V (hp.below hV (Nat.le_refl _)) hf)
  have HS:=hide (fun (hl:z0.length<=4000000) (ha:∀ a ∈ z0,a.1.size<=maxLen/\a.2.2.2.2.length<=4000000) (hf:FewNd z1) (hb:∀ q ∈ z1.ps,q.bs.length<=3999999) u t V (h1:RdA V u z0) (h2:RdNd V z1 t)=>specFollowAll_any a0 u z0 z1 t V h1 hl ha h2 hf.nq hf.fq hb hft.gq)
  have HI:=hide (fun (hl:z0.length<=4000000) (ha:∀ a ∈ z0,a.1.size<=maxLen/\a.2.2.2.2.length<=4000000) (hf:FewNd z1) (hb:∀ q ∈ z1.ps,q.bs.length<=3999999) u t V (h1:RdA V u z0) (h2:RdNd V z1 t)=>implFollowAll_any a0 u z0 z1 t V h1 hl ha h2 hf.nq hf.fq hb hft.gq)
  have HGl:=hide (fun (hf:FewNd z1) (h:(cnA a0 z0).2.length<=4000000)=>show (faA a0 z0 z1.ps).2.1.length<=4000000 from faG_len z1.ps (fun q hq=>good_of (hf.fq q hq) (hft.gq q hq)) 1000 _ _ 0 h)
  have Hsm:=hide hsm
  have IA:=hide (show (Tryz.prog.info? 51).map (·.size)=some (clC a0 y0).length from Tryz.infoLc)
  have IPp:=hide (show (Tryz.prog.info? 60).map (·.size)=some (noC z1 y1).length from Tryz.infoLp)
  have B1:=hide b1
  rw [show lgV a0 y0=.agg (clC a0 y0).toArray from rfl] at Hz HTc ⊢
  rw [show noV z1 y1=.agg (noC z1 y1).toArray from rfl] at Hx HTp ⊢
  clear hr hp hft b1 s1 hlm hsm
  generalize clC a0 y0=ca at KA1 Hz HTc IA hw1 ⊢
  generalize noC z1 y1=cp at KP1 Hx HTp IPp hw1 ⊢
  have RA1:=hide (blk_range KA1.out)
  have RP1:=hide (blk_range KP1.out)
  go_enter Tryz.func5,Tryz.ntmps5
  go_upto_region 2 with fail
  (try rw [hw1])
  clear hw1
  go_wp2_with (first
    | (refine wpList_load_mid rfl 51 _ rfl w.heap.size 0 rfl ca _ RA1.out Tryz.underlying51 rfl IA.out ?_)
    | (refine wpList_load_mid rfl 60 _ rfl (w.heap.size+1) 0 rfl cp _ RP1.out Tryz.underlying60 rfl IPp.out ?_)
    | fail)
  refine Hz.out.mono ?_
  rintro e w2 ⟨r,rfl,hfit,hb2⟩
  have Hfit:=hide hfit
  clear hfit Hz
  have KA2:=hide (KA1.out.below hb2 KA1.out.lt)
  have KP2:=hide (KP1.out.below hb2 KP1.out.lt)
  have B2:=hide (B1.out.trans (hb2.mono B1.out.size))
  have z2:=hide hb2.size
  clear RA1 KA1 RP1 KP1 B1  hb2
  have RA2:=hide (blk_range KA2.out)
  have RP2:=hide (blk_range KP2.out)
  by_cases hneg:r < 0
  · clear Hfit HTc HTp HS HI Hx HGl Hsm
    go_wp2
    go_ret
    exact ⟨rfl,B2.out⟩
  obtain ⟨hlz,hrm⟩:=Hfit.out (by omega)
  obtain ⟨n,rfl⟩:=Int.eq_ofNat_of_zero_le (show 0<=r by omega)
  have hl0:z0.length+totA z0<=1048576:=by omega
  have hn1:n<=1048576:=by omega
  have Hx2:=hide (Hx.out n (by omega) w2 B2.out)
  clear Hfit hlz hrm Hx hneg
  go_wp2_with (first
    | (refine wpList_load_mid rfl 51 _ rfl w.heap.size 0 rfl ca _ RA2.out Tryz.underlying51 rfl IA.out ?_)
    | (refine wpList_load_mid rfl 60 _ rfl (w.heap.size+1) 0 rfl cp _ RP2.out Tryz.underlying60 rfl IPp.out ?_)
    | fail)
  refine Hx2.out.mono ?_
  rintro e w3 ⟨r2,rfl,hfit,hb3⟩
  have Hfit:=hide hfit
  clear hfit Hx2
  have KA3:=hide (KA2.out.below hb3 KA2.out.lt)
  have KP3:=hide (KP2.out.below hb3 KP2.out.lt)
  have B3:=hide (B2.out.trans (hb3.mono B2.out.size))
  have z3:=hide hb3.size
  clear RA2 KA2 RP2 KP2 B2  hb3
  have RA3:=hide (blk_range KA3.out)
  have RP3:=hide (blk_range KP3.out)
  by_cases hneg:r2 < 0
  · clear Hfit HTc HTp HS HI HGl Hsm
    go_wp2
    go_ret
    exact ⟨rfl,B3.out⟩
  obtain ⟨⟨hfew,ha,hv,hg⟩,hsz⟩:=Hfit.out (by omega)
  have hl4:z0.length<=4000000:=by omega
  have hlv:∀ a ∈ z0,a.2.2.2.2.length<=4000000:=fun a ha=>by have h1:=totA_at z0 a ha;unfold wgA at h1;omega
  have hnl:∀ a ∈ z0,a.1.size<=maxLen/\a.2.2.2.2.length<=4000000:=fun a ha=>⟨(Hsm.out a ha).1,hlv a ha⟩
  have hnz:nxs 1 z0<=4500000:=by have:=nxs_tot 1 z0;omega
  obtain ⟨hn3,hb3s⟩:=sized_marksK z1 (nxs 1 z0) hnz (by omega) (by omega) (by omega) (by omega)
  have hQl:(faA a0 z0 z1.ps).2.1.length<=4000000:=HGl.out hfew (by have:=cnA_len a0 z0;omega)
  have HTc:=hide (HTc.out hl4 hlv)
  have HTp:=hide (HTp.out hfew)
  have HS:=hide (HS.out hl4 hnl hfew hb3s)
  have HI:=hide (HI.out hl4 hnl hfew hb3s)
  have HEx:=hide (fun u t V (h1:RdA V u z0) (h2:RdA V t z0)=>equLedger a0 u t z0 V h1 h2 hl4 hlv)
  have HEp:=hide (fun u t V (h1:RdNd V z1 u) (h2:RdNd V z1 t)=>eqNode_same z1 u t V h1 h2 hfew)
  have HMx:=hide (fun u lo hi V (h:OwnX lo hi V u z0)=>mkuLedger a0 u z0 1 lo hi V h hl4 hlv (by omega) (by omega))
  have HMp:=hide (fun u lo hi V (h:OwnNd lo hi V z1 u) (h1:hi<=V.heap.size)=>markNode_own z1 u (nxs 1 z0) lo hi V h h1 hfew hn3 (by have:=nxs_ge 1 z0;omega))
  have HEr:=hide (fun u t V (h1:RdV V u (faA a0 z0 z1.ps).2.1) (h2:RdV V t (faA a0 z0 z1.ps).2.1)=>eqClient_any (faA a0 z0 z1.ps).1 (faA a0 z0 z1.ps).1 u t (faA a0 z0 z1.ps).2.1 (faA a0 z0 z1.ps).2.1 V h1 h2 hQl hQl)
  have HMr:=hide (fun u lo hi V (h:OwnC lo hi V u (faA a0 z0 z1.ps).2.1)=>markClient_own (faA a0 z0 z1.ps).1 u (faA a0 z0 z1.ps).2.1 1 lo hi V h hQl (by omega) (by omega))
  have HHr:=hide (fun u V (h:RdV V u (mkV 1 (faA a0 z0 z1.ps).2.1.length))=>heldClient_any (faA a0 z0 z1.ps).1 u (faA a0 z0 z1.ps).2.1.length 1 V h (by omega) (by omega) (by omega))
  rw [decide_eq_true rfl,decide_eq_true rfl,Bool.true_and] at HEr
  have hnX:¬ ((nlNd (nxs 1 z0) z1:Int) < 0):=by omega
  have hnR:¬ (((1+2 * (faA a0 z0 z1.ps).2.1.length:Nat):Int) < 0):=by omega
  clear Hfit hfew ha hv hg hl4 hlv hnl hnz hQl hn3 hb3s hsz hl0 hn1 Hsm HGl
  generalize (faA a0 z0 z1.ps).1=QE at HS HI HEr HMr HHr
  generalize ((faA a0 z0 z1.ps).2.2:Int)=QB at HS HI
  generalize 1+2 * (faA a0 z0 z1.ps).2.1.length=nR at HMr HHr hnR
  generalize mkV 1 (faA a0 z0 z1.ps).2.1.length=QM at HMr HHr
  generalize (faA a0 z0 z1.ps).2.1=QL at HS HI HEr HMr
  generalize nlNd (nxs 1 z0) z1=nX at HMp hnX
  generalize nxs 1 z0=nC at HMx HMp
  generalize mkAs 1 z0=XM at HMx
  have hqq:(QB != QB)=false:=by simp
  go_upto_region 8 with (first
    | (refine wpList_load_mid rfl 51 _ rfl w.heap.size 0 rfl ca _ RA3.out Tryz.underlying51 rfl IA.out ?_)
    | (refine wpList_load_mid rfl 60 _ rfl (w.heap.size+1) 0 rfl cp _ RP3.out Tryz.underlying60 rfl IPp.out ?_)
    | fail)
  have HSd:=hide (fun V (hV:Below w3.heap.size w3 V)=>(show V.rangeAt w.heap.size 0 ca/\V.rangeAt (w.heap.size+1) 0 cp from ⟨range_below RA3.out hV KA3.out.lt,range_below RP3.out hV KP3.out.lt⟩))
  have HBd:=hide (fun V (hV:Below w3.heap.size w3 V)=>(B3.out.trans (hV.mono B3.out.size)))
  go_cut [6,7] from 17 (fun sp sb wc=>∃ (B:Nat) (u:Value),sp=.pointer (some ⟨B,0,none⟩)/\sb=.int .i64 QB/\Blk wc B 35 (clC QE u)/\RdV wc u QL/\w3.heap.size<=B/\Below w3.heap.size w3 wc)
  case first =>
    have bD:Below w3.heap.size w3 w3.drew:=(Below.refl _ w3).drew
    have hS0:=HSd.out _ bD
    refine wp_region_held_drew (S:=fun W=>W.rangeAt w.heap.size 0 ca/\W.rangeAt (w.heap.size+1) 0 cp) (by kernel_rfl) hS0 (fun hHeld=>?_)
    refine wpAnyH_take (i:=0) (v:=.agg ca.toArray) rfl (by kernel_rfl) (by kernel_rfl) (by kernel_rfl) (fun _ _ _ h=>h) (yieldsIf_load_mid (by rfl) 51 _ rfl w.heap.size 0 rfl ca _ (fun W hW=>hW.1) Tryz.underlying51 rfl IA.out) (by assumption) ?_
    change wpAnyH Tryz.prog _ _ _ _ _ _ (Act.put _ (some 28) _) _
    simp only [Act.put,List.setIfInBounds_toArray,List.set_cons_zero,List.set_cons_succ]
    refine wpAnyH_take (i:=2) (v:=.agg cp.toArray) rfl (by kernel_rfl) (by kernel_rfl) (by kernel_rfl) (fun _ _ _ h=>h) (yieldsIf_load_mid (by rfl) 60 _ rfl (w.heap.size+1) 0 rfl cp _ (fun W hW=>hW.2) Tryz.underlying60 rfl IPp.out) (by assumption) ?_
    change wpAnyH Tryz.prog _ _ _ _ _ _ (Act.put _ (some 30) _) _
    simp only [Act.put,List.setIfInBounds_toArray,List.set_cons_zero,List.set_cons_succ]
    refine wpAnyH_ready (rs:=[1,8]) (by kernel_rfl) (by simp) ?_
    refine AllReadyH.cons rfl (fun K hK=>?_) (AllReadyH.cons rfl (fun K hK=>?_) AllReadyH.nil)
    · skip
      go_simp
      go_wp2_with (go_at_call 26;(with_reducible refine (HTc.out _ (HBd.out _ bD)).mono ?_);rintro e v0 ⟨uc,rfl,oc,hb0⟩;obtain ⟨cc,hcc⟩:∃ c,clC a0 uc=c:=⟨_,rfl⟩;have ec:lgV a0 uc=.agg cc.toArray:=(by rw [<- hcc];rfl);rw [ec];have bc0:=bD.trans (hb0.mono bD.size);have rc0:=oc.rd;have hS0:=HSd.out _ bc0)
      refine hK.out _ _ hS0 (fun hHeld=>?_)
      try simp only [Act.put,List.setIfInBounds_toArray,List.set_cons_zero,List.set_cons_succ]
      refine wpAnyH_ready (rs:=[3,8]) (by kernel_rfl) (by simp) ?_
      refine AllReadyH.cons rfl (fun K hK=>?_) (AllReadyH.cons rfl (fun K hK=>?_) AllReadyH.nil)
      · skip
        go_simp
        go_wp2_with (go_at_call 19;(with_reducible refine (HTp.out _ (HBd.out _ bc0)).mono ?_);rintro e v1 ⟨up,rfl,op,hb1⟩;obtain ⟨cq,hcq⟩:∃ c,noC z1 up=c:=⟨_,rfl⟩;have ep:noV z1 up=.agg cq.toArray:=(by rw [<- hcq];rfl);rw [ep];have bc1:=bc0.trans (hb1.mono bc0.size);have rp1:=op.rd;have rc1:=rc0.below hb1 (Nat.le_refl _);have hS1:=HSd.out _ bc1)
        refine hK.out _ _ hS1 (fun hHeld=>?_)
        try simp only [Act.put,List.setIfInBounds_toArray,List.set_cons_zero,List.set_cons_succ]
        refine wpAnyH_ready (rs:=[4,8]) (by kernel_rfl) (by simp) ?_
        refine AllReadyH.cons rfl (fun K hK=>?_) (AllReadyH.cons rfl (fun K hK=>?_) AllReadyH.nil)
        · skip
          go_simp
          have CF:=hide (HS.out uc up v1 rc1 rp1)
          rw [ec,ep] at CF
          go_wp2_with (go_at_call 25;(with_reducible refine CF.out.mono ?_);rintro e v2 ⟨uF,rfl,oF,hb2⟩;obtain ⟨cF,hcF⟩:∃ c,clC QE uF=c:=⟨_,rfl⟩;have eF:lgV QE uF=.agg cF.toArray:=(by rw [<- hcF];rfl);rw [eF];have bc2:=bc1.trans (hb2.mono bc1.size);have hS2:=HSd.out _ bc2)
          refine hK.out _ _ hS2 (fun hHeld=>?_)
          try simp only [Act.put,List.setIfInBounds_toArray,List.set_cons_zero,List.set_cons_succ]
          refine wpAnyH_take (i:=5) (v:=.tuple #[.agg cF.toArray,.int .i64 QB]) rfl (by kernel_rfl) (by kernel_rfl) (by kernel_rfl) (fun _ _ _ h=>h) (Or.inl ⟨by rfl,fun W hW=>by go_simp⟩) (by assumption) ?_
          change wpAnyH Tryz.prog _ _ _ _ _ _ (Act.put _ (some 27) _) _
          simp only [Act.put,List.setIfInBounds_toArray,List.set_cons_zero,List.set_cons_succ]
          refine wpAnyH_take (i:=6) (v:=.agg cF.toArray) rfl (by kernel_rfl) (by kernel_rfl) (by kernel_rfl) (fun _ _ _ h=>h) (Or.inl ⟨by rfl,fun W hW=>by go_simp⟩) (by assumption) ?_
          change wpAnyH Tryz.prog _ _ _ _ _ _ (Act.put _ (some 33) _) _
          simp only [Act.put,List.setIfInBounds_toArray,List.set_cons_zero,List.set_cons_succ]
          refine wpAnyH_take (i:=7) (v:=.int .i64 QB) rfl (by kernel_rfl) (by kernel_rfl) (by kernel_rfl) (fun _ _ _ h=>h) (Or.inl ⟨by rfl,fun W hW=>by go_simp⟩) (by assumption) ?_
          change wpAnyH Tryz.prog _ _ _ _ _ _ (Act.put _ (some 34) _) _
          simp only [Act.put,List.setIfInBounds_toArray,List.set_cons_zero,List.set_cons_succ]
          refine wpAnyH_ready (rs:=[8]) (by kernel_rfl) (by simp) ?_
          refine AllReadyH.cons rfl (fun K hK=>?_) AllReadyH.nil
          go_simp
          have nby:Blk (v2.alloc (.cells #[.int .i64 0,.slice none 0 0] 35)) v2.heap.size 35 [.int .i64 0,.slice none 0 0]:=Blk.new v2 _ _
          have bay:Below w3.heap.size w3 (v2.alloc (.cells #[.int .i64 0,.slice none 0 0] 35)):=bc2.alloc bc2.size _
          have bly:Below v2.heap.size v2 (v2.alloc (.cells #[.int .i64 0,.slice none 0 0] 35)):=(Below.refl _ v2).alloc (Nat.le_refl _) _
          refine hK.out _ _ (HSd.out _ bay) (fun hHeld=>?_)
          try simp only [Act.put,List.setIfInBounds_toArray,List.set_cons_zero,List.set_cons_succ]
          have hlB:w3.heap.size<=v2.heap.size:=bc2.size
          have one9:cF.toArray.all (·.oneCell')=true:=by rw [List.all_toArray,<- hcF];exact clC_one oF.rd
          have inf9:(Tryz.prog.info? 35).map (·.size)=some cF.toArray.size:=by rw [List.size_toArray,<- hcF];exact Tryz.infoC2
          have len9:([.int .i64 0,.slice none 0 0]:List Value).length=cF.length:=by rw [<- hcF];rfl
          have b9:Below w3.heap.size w3 ((v2.alloc (.cells #[.int .i64 0,.slice none 0 0] 35)).setCells (v2.heap.size) 0 cF):=bay.trans (putC_below hlB _ _ _)
          have hS9:=HSd.out _ b9
          refine wpAnyH_ready (rs:=[9]) (by kernel_rfl) (by simp) ?_
          refine AllReadyH.cons rfl (fun K hK=>?_) AllReadyH.nil
          refine wp_store_mid 35 _ _ rfl (v2.heap.size) 0 cF.toArray rfl rfl (nby.there (by rw [List.size_toArray,<- hcF];rfl)) inf9 one9 ?_
          refine hK.out _ _ hS9 (fun hHeld=>?_)
          try simp only [Act.put,List.setIfInBounds_toArray,List.set_cons_zero,List.set_cons_succ]
          refine wpAnyH_take (i:=10) (v:=.int .i64 QB) rfl (by kernel_rfl) (by kernel_rfl) (by kernel_rfl) (fun _ _ _ h=>h) (Or.inl ⟨by rfl,fun W hW=>by go_simp⟩) (by assumption) ?_
          change wpAnyH Tryz.prog _ _ _ _ _ _ (Act.put _ (some 7) _) _
          simp only [Act.put,List.setIfInBounds_toArray,List.set_cons_zero,List.set_cons_succ]
          refine wpAnyH_done (by kernel_rfl) ?_ _
          go_wp2_with fail
          go_meet
          case rel=>exact ⟨v2.heap.size,uF,rfl,rfl,by rw [hcF];exact blk_all nby len9,((oF.oc.kept (Kept.of_below bly (Nat.le_refl _))).kept (Kept.setCs _ 0 cF (.inr (Nat.le_refl _)))).rd,hlB,b9⟩
        · skip
          go_simp
          have nb2z:Blk (v1.alloc (.cells #[.int .i64 0,.slice none 0 0] 35)) v1.heap.size 35 [.int .i64 0,.slice none 0 0]:=Blk.new v1 _ _
          have ba2z:Below w3.heap.size w3 (v1.alloc (.cells #[.int .i64 0,.slice none 0 0] 35)):=bc1.alloc bc1.size _
          have bl2z:Below v1.heap.size v1 (v1.alloc (.cells #[.int .i64 0,.slice none 0 0] 35)):=(Below.refl _ v1).alloc (Nat.le_refl _) _
          refine hK.out _ _ (HSd.out _ ba2z) (fun hHeld=>?_)
          try simp only [Act.put,List.setIfInBounds_toArray,List.set_cons_zero,List.set_cons_succ]
          have rcz:=rc1.below bl2z (Nat.le_refl _)
          have rpz:=rp1.below bl2z (Nat.le_refl _)
          refine wpAnyH_ready (rs:=[4]) (by kernel_rfl) (by simp) ?_
          refine AllReadyH.cons rfl (fun K hK=>?_) AllReadyH.nil
          go_simp
          have CF:=hide (HS.out uc up (v1.alloc (.cells #[.int .i64 0,.slice none 0 0] 35)) rcz rpz)
          rw [ec,ep] at CF
          go_wp2_with (go_at_call 25;(with_reducible refine CF.out.mono ?_);rintro e v2a ⟨uF,rfl,oF,hb2a⟩;obtain ⟨cF,hcF⟩:∃ c,clC QE uF=c:=⟨_,rfl⟩;have eF:lgV QE uF=.agg cF.toArray:=(by rw [<- hcF];rfl);rw [eF];have bc2a:=ba2z.trans (hb2a.mono ba2z.size);have hS2a:=HSd.out _ bc2a;have nk2a:=nb2z.below hb2a nb2z.lt)
          refine hK.out _ _ hS2a (fun hHeld=>?_)
          try simp only [Act.put,List.setIfInBounds_toArray,List.set_cons_zero,List.set_cons_succ]
          refine wpAnyH_take (i:=5) (v:=.tuple #[.agg cF.toArray,.int .i64 QB]) rfl (by kernel_rfl) (by kernel_rfl) (by kernel_rfl) (fun _ _ _ h=>h) (Or.inl ⟨by rfl,fun W hW=>by go_simp⟩) (by assumption) ?_
          change wpAnyH Tryz.prog _ _ _ _ _ _ (Act.put _ (some 27) _) _
          simp only [Act.put,List.setIfInBounds_toArray,List.set_cons_zero,List.set_cons_succ]
          refine wpAnyH_take (i:=6) (v:=.agg cF.toArray) rfl (by kernel_rfl) (by kernel_rfl) (by kernel_rfl) (fun _ _ _ h=>h) (Or.inl ⟨by rfl,fun W hW=>by go_simp⟩) (by assumption) ?_
          change wpAnyH Tryz.prog _ _ _ _ _ _ (Act.put _ (some 33) _) _
          simp only [Act.put,List.setIfInBounds_toArray,List.set_cons_zero,List.set_cons_succ]
          refine wpAnyH_take (i:=7) (v:=.int .i64 QB) rfl (by kernel_rfl) (by kernel_rfl) (by kernel_rfl) (fun _ _ _ h=>h) (Or.inl ⟨by rfl,fun W hW=>by go_simp⟩) (by assumption) ?_
          change wpAnyH Tryz.prog _ _ _ _ _ _ (Act.put _ (some 34) _) _
          simp only [Act.put,List.setIfInBounds_toArray,List.set_cons_zero,List.set_cons_succ]
          have hlB:w3.heap.size<=v1.heap.size:=bc1.size
          have one9:cF.toArray.all (·.oneCell')=true:=by rw [List.all_toArray,<- hcF];exact clC_one oF.rd
          have inf9:(Tryz.prog.info? 35).map (·.size)=some cF.toArray.size:=by rw [List.size_toArray,<- hcF];exact Tryz.infoC2
          have len9:([.int .i64 0,.slice none 0 0]:List Value).length=cF.length:=by rw [<- hcF];rfl
          have b9:Below w3.heap.size w3 (v2a.setCells (v1.heap.size) 0 cF):=bc2a.trans (putC_below hlB _ _ _)
          have hS9:=HSd.out _ b9
          refine wpAnyH_ready (rs:=[9]) (by kernel_rfl) (by simp) ?_
          refine AllReadyH.cons rfl (fun K hK=>?_) AllReadyH.nil
          refine wp_store_mid 35 _ _ rfl (v1.heap.size) 0 cF.toArray rfl rfl (nk2a.there (by rw [List.size_toArray,<- hcF];rfl)) inf9 one9 ?_
          refine hK.out _ _ hS9 (fun hHeld=>?_)
          try simp only [Act.put,List.setIfInBounds_toArray,List.set_cons_zero,List.set_cons_succ]
          refine wpAnyH_take (i:=10) (v:=.int .i64 QB) rfl (by kernel_rfl) (by kernel_rfl) (by kernel_rfl) (fun _ _ _ h=>h) (Or.inl ⟨by rfl,fun W hW=>by go_simp⟩) (by assumption) ?_
          change wpAnyH Tryz.prog _ _ _ _ _ _ (Act.put _ (some 7) _) _
          simp only [Act.put,List.setIfInBounds_toArray,List.set_cons_zero,List.set_cons_succ]
          refine wpAnyH_done (by kernel_rfl) ?_ _
          go_wp2_with fail
          go_meet
          case rel=>exact ⟨v1.heap.size,uF,rfl,rfl,by rw [hcF];exact blk_all nk2a len9,(oF.oc.kept (Kept.setCs _ 0 cF (.inl nb2z.lt))).rd,hlB,b9⟩
      · skip
        go_simp
        have nb1z:Blk (v0.alloc (.cells #[.int .i64 0,.slice none 0 0] 35)) v0.heap.size 35 [.int .i64 0,.slice none 0 0]:=Blk.new v0 _ _
        have ba1z:Below w3.heap.size w3 (v0.alloc (.cells #[.int .i64 0,.slice none 0 0] 35)):=bc0.alloc bc0.size _
        have bl1z:Below v0.heap.size v0 (v0.alloc (.cells #[.int .i64 0,.slice none 0 0] 35)):=(Below.refl _ v0).alloc (Nat.le_refl _) _
        refine hK.out _ _ (HSd.out _ ba1z) (fun hHeld=>?_)
        try simp only [Act.put,List.setIfInBounds_toArray,List.set_cons_zero,List.set_cons_succ]
        have rcz:=rc0.below bl1z (Nat.le_refl _)
        refine wpAnyH_ready (rs:=[3]) (by kernel_rfl) (by simp) ?_
        refine AllReadyH.cons rfl (fun K hK=>?_) AllReadyH.nil
        go_simp
        go_wp2_with (go_at_call 19;(with_reducible refine (HTp.out _ (HBd.out _ ba1z)).mono ?_);rintro e v1a ⟨up,rfl,op,hb1a⟩;obtain ⟨cq,hcq⟩:∃ c,noC z1 up=c:=⟨_,rfl⟩;have ep:noV z1 up=.agg cq.toArray:=(by rw [<- hcq];rfl);rw [ep];have bc1a:=ba1z.trans (hb1a.mono ba1z.size);have rp1a:=op.rd;have rc1a:=rcz.below hb1a (Nat.le_refl _);have hS1a:=HSd.out _ bc1a;have nk1a:=nb1z.below hb1a nb1z.lt)
        refine hK.out _ _ hS1a (fun hHeld=>?_)
        try simp only [Act.put,List.setIfInBounds_toArray,List.set_cons_zero,List.set_cons_succ]
        refine wpAnyH_ready (rs:=[4]) (by kernel_rfl) (by simp) ?_
        refine AllReadyH.cons rfl (fun K hK=>?_) AllReadyH.nil
        go_simp
        have CF:=hide (HS.out uc up v1a rc1a rp1a)
        rw [ec,ep] at CF
        go_wp2_with (go_at_call 25;(with_reducible refine CF.out.mono ?_);rintro e v2a ⟨uF,rfl,oF,hb2a⟩;obtain ⟨cF,hcF⟩:∃ c,clC QE uF=c:=⟨_,rfl⟩;have eF:lgV QE uF=.agg cF.toArray:=(by rw [<- hcF];rfl);rw [eF];have bc2a:=bc1a.trans (hb2a.mono bc1a.size);have hS2a:=HSd.out _ bc2a;have nk2a:=nk1a.below hb2a nk1a.lt)
        refine hK.out _ _ hS2a (fun hHeld=>?_)
        try simp only [Act.put,List.setIfInBounds_toArray,List.set_cons_zero,List.set_cons_succ]
        refine wpAnyH_take (i:=5) (v:=.tuple #[.agg cF.toArray,.int .i64 QB]) rfl (by kernel_rfl) (by kernel_rfl) (by kernel_rfl) (fun _ _ _ h=>h) (Or.inl ⟨by rfl,fun W hW=>by go_simp⟩) (by assumption) ?_
        change wpAnyH Tryz.prog _ _ _ _ _ _ (Act.put _ (some 27) _) _
        simp only [Act.put,List.setIfInBounds_toArray,List.set_cons_zero,List.set_cons_succ]
        refine wpAnyH_take (i:=6) (v:=.agg cF.toArray) rfl (by kernel_rfl) (by kernel_rfl) (by kernel_rfl) (fun _ _ _ h=>h) (Or.inl ⟨by rfl,fun W hW=>by go_simp⟩) (by assumption) ?_
        change wpAnyH Tryz.prog _ _ _ _ _ _ (Act.put _ (some 33) _) _
        simp only [Act.put,List.setIfInBounds_toArray,List.set_cons_zero,List.set_cons_succ]
        refine wpAnyH_take (i:=7) (v:=.int .i64 QB) rfl (by kernel_rfl) (by kernel_rfl) (by kernel_rfl) (fun _ _ _ h=>h) (Or.inl ⟨by rfl,fun W hW=>by go_simp⟩) (by assumption) ?_
        change wpAnyH Tryz.prog _ _ _ _ _ _ (Act.put _ (some 34) _) _
        simp only [Act.put,List.setIfInBounds_toArray,List.set_cons_zero,List.set_cons_succ]
        have hlB:w3.heap.size<=v0.heap.size:=bc0.size
        have one9:cF.toArray.all (·.oneCell')=true:=by rw [List.all_toArray,<- hcF];exact clC_one oF.rd
        have inf9:(Tryz.prog.info? 35).map (·.size)=some cF.toArray.size:=by rw [List.size_toArray,<- hcF];exact Tryz.infoC2
        have len9:([.int .i64 0,.slice none 0 0]:List Value).length=cF.length:=by rw [<- hcF];rfl
        have b9:Below w3.heap.size w3 (v2a.setCells (v0.heap.size) 0 cF):=bc2a.trans (putC_below hlB _ _ _)
        have hS9:=HSd.out _ b9
        refine wpAnyH_ready (rs:=[9]) (by kernel_rfl) (by simp) ?_
        refine AllReadyH.cons rfl (fun K hK=>?_) AllReadyH.nil
        refine wp_store_mid 35 _ _ rfl (v0.heap.size) 0 cF.toArray rfl rfl (nk2a.there (by rw [List.size_toArray,<- hcF];rfl)) inf9 one9 ?_
        refine hK.out _ _ hS9 (fun hHeld=>?_)
        try simp only [Act.put,List.setIfInBounds_toArray,List.set_cons_zero,List.set_cons_succ]
        refine wpAnyH_take (i:=10) (v:=.int .i64 QB) rfl (by kernel_rfl) (by kernel_rfl) (by kernel_rfl) (fun _ _ _ h=>h) (Or.inl ⟨by rfl,fun W hW=>by go_simp⟩) (by assumption) ?_
        change wpAnyH Tryz.prog _ _ _ _ _ _ (Act.put _ (some 7) _) _
        simp only [Act.put,List.setIfInBounds_toArray,List.set_cons_zero,List.set_cons_succ]
        refine wpAnyH_done (by kernel_rfl) ?_ _
        go_wp2_with fail
        go_meet
        case rel=>exact ⟨v0.heap.size,uF,rfl,rfl,by rw [hcF];exact blk_all nk2a len9,(oF.oc.kept (Kept.setCs _ 0 cF (.inl nk1a.lt))).rd,hlB,b9⟩
    · skip
      go_simp
      have nb0z:Blk (w3.alloc (.cells #[.int .i64 0,.slice none 0 0] 35)).drew w3.heap.size 35 [.int .i64 0,.slice none 0 0]:=Blk.new w3 _ _
      have ba0z:Below w3.heap.size w3 (w3.alloc (.cells #[.int .i64 0,.slice none 0 0] 35)).drew:=((Below.refl _ w3).alloc (Nat.le_refl _) _).drew
      refine hK.out _ _ (HSd.out _ ba0z) (fun hHeld=>?_)
      try simp only [Act.put,List.setIfInBounds_toArray,List.set_cons_zero,List.set_cons_succ]
      refine wpAnyH_ready (rs:=[1]) (by kernel_rfl) (by simp) ?_
      refine AllReadyH.cons rfl (fun K hK=>?_) AllReadyH.nil
      go_simp
      go_wp2_with (go_at_call 26;(with_reducible refine (HTc.out _ (HBd.out _ ba0z)).mono ?_);rintro e v0a ⟨uc,rfl,oc,hb0a⟩;obtain ⟨cc,hcc⟩:∃ c,clC a0 uc=c:=⟨_,rfl⟩;have ec:lgV a0 uc=.agg cc.toArray:=(by rw [<- hcc];rfl);rw [ec];have bc0a:=ba0z.trans (hb0a.mono ba0z.size);have rc0a:=oc.rd;have hS0a:=HSd.out _ bc0a;have nk0a:=nb0z.below hb0a nb0z.lt)
      refine hK.out _ _ hS0a (fun hHeld=>?_)
      try simp only [Act.put,List.setIfInBounds_toArray,List.set_cons_zero,List.set_cons_succ]
      refine wpAnyH_ready (rs:=[3]) (by kernel_rfl) (by simp) ?_
      refine AllReadyH.cons rfl (fun K hK=>?_) AllReadyH.nil
      go_simp
      go_wp2_with (go_at_call 19;(with_reducible refine (HTp.out _ (HBd.out _ bc0a)).mono ?_);rintro e v1a ⟨up,rfl,op,hb1a⟩;obtain ⟨cq,hcq⟩:∃ c,noC z1 up=c:=⟨_,rfl⟩;have ep:noV z1 up=.agg cq.toArray:=(by rw [<- hcq];rfl);rw [ep];have bc1a:=bc0a.trans (hb1a.mono bc0a.size);have rp1a:=op.rd;have rc1a:=rc0a.below hb1a (Nat.le_refl _);have hS1a:=HSd.out _ bc1a;have nk1a:=nk0a.below hb1a nk0a.lt)
      refine hK.out _ _ hS1a (fun hHeld=>?_)
      try simp only [Act.put,List.setIfInBounds_toArray,List.set_cons_zero,List.set_cons_succ]
      refine wpAnyH_ready (rs:=[4]) (by kernel_rfl) (by simp) ?_
      refine AllReadyH.cons rfl (fun K hK=>?_) AllReadyH.nil
      go_simp
      have CF:=hide (HS.out uc up v1a rc1a rp1a)
      rw [ec,ep] at CF
      go_wp2_with (go_at_call 25;(with_reducible refine CF.out.mono ?_);rintro e v2a ⟨uF,rfl,oF,hb2a⟩;obtain ⟨cF,hcF⟩:∃ c,clC QE uF=c:=⟨_,rfl⟩;have eF:lgV QE uF=.agg cF.toArray:=(by rw [<- hcF];rfl);rw [eF];have bc2a:=bc1a.trans (hb2a.mono bc1a.size);have hS2a:=HSd.out _ bc2a;have nk2a:=nk1a.below hb2a nk1a.lt)
      refine hK.out _ _ hS2a (fun hHeld=>?_)
      try simp only [Act.put,List.setIfInBounds_toArray,List.set_cons_zero,List.set_cons_succ]
      refine wpAnyH_take (i:=5) (v:=.tuple #[.agg cF.toArray,.int .i64 QB]) rfl (by kernel_rfl) (by kernel_rfl) (by kernel_rfl) (fun _ _ _ h=>h) (Or.inl ⟨by rfl,fun W hW=>by go_simp⟩) (by assumption) ?_
      change wpAnyH Tryz.prog _ _ _ _ _ _ (Act.put _ (some 27) _) _
      simp only [Act.put,List.setIfInBounds_toArray,List.set_cons_zero,List.set_cons_succ]
      refine wpAnyH_take (i:=6) (v:=.agg cF.toArray) rfl (by kernel_rfl) (by kernel_rfl) (by kernel_rfl) (fun _ _ _ h=>h) (Or.inl ⟨by rfl,fun W hW=>by go_simp⟩) (by assumption) ?_
      change wpAnyH Tryz.prog _ _ _ _ _ _ (Act.put _ (some 33) _) _
      simp only [Act.put,List.setIfInBounds_toArray,List.set_cons_zero,List.set_cons_succ]
      refine wpAnyH_take (i:=7) (v:=.int .i64 QB) rfl (by kernel_rfl) (by kernel_rfl) (by kernel_rfl) (fun _ _ _ h=>h) (Or.inl ⟨by rfl,fun W hW=>by go_simp⟩) (by assumption) ?_
      change wpAnyH Tryz.prog _ _ _ _ _ _ (Act.put _ (some 34) _) _
      simp only [Act.put,List.setIfInBounds_toArray,List.set_cons_zero,List.set_cons_succ]
      have hlB:w3.heap.size<=w3.heap.size:=Nat.le_refl _
      have one9:cF.toArray.all (·.oneCell')=true:=by rw [List.all_toArray,<- hcF];exact clC_one oF.rd
      have inf9:(Tryz.prog.info? 35).map (·.size)=some cF.toArray.size:=by rw [List.size_toArray,<- hcF];exact Tryz.infoC2
      have len9:([.int .i64 0,.slice none 0 0]:List Value).length=cF.length:=by rw [<- hcF];rfl
      have b9:Below w3.heap.size w3 (v2a.setCells (w3.heap.size) 0 cF):=bc2a.trans (putC_below hlB _ _ _)
      have hS9:=HSd.out _ b9
      refine wpAnyH_ready (rs:=[9]) (by kernel_rfl) (by simp) ?_
      refine AllReadyH.cons rfl (fun K hK=>?_) AllReadyH.nil
      refine wp_store_mid 35 _ _ rfl (w3.heap.size) 0 cF.toArray rfl rfl (nk2a.there (by rw [List.size_toArray,<- hcF];rfl)) inf9 one9 ?_
      refine hK.out _ _ hS9 (fun hHeld=>?_)
      try simp only [Act.put,List.setIfInBounds_toArray,List.set_cons_zero,List.set_cons_succ]
      refine wpAnyH_take (i:=10) (v:=.int .i64 QB) rfl (by kernel_rfl) (by kernel_rfl) (by kernel_rfl) (fun _ _ _ h=>h) (Or.inl ⟨by rfl,fun W hW=>by go_simp⟩) (by assumption) ?_
      change wpAnyH Tryz.prog _ _ _ _ _ _ (Act.put _ (some 7) _) _
      simp only [Act.put,List.setIfInBounds_toArray,List.set_cons_zero,List.set_cons_succ]
      refine wpAnyH_done (by kernel_rfl) ?_ _
      go_wp2_with fail
      go_meet
      case rel=>exact ⟨w3.heap.size,uF,rfl,rfl,by rw [hcF];exact blk_all nk2a len9,(oF.oc.kept (Kept.setCs _ 0 cF (.inl nk1a.lt))).rd,hlB,b9⟩
  clear HSd HBd
  obtain ⟨w4,rfl⟩:∃ x,x=wc:=⟨_,rfl⟩
  obtain ⟨BW,uW,rfl,rfl,kk,rW,hBW,hb4⟩:=hcut
  have KA4:=hide (KA3.out.below hb4 KA3.out.lt)
  have KP4:=hide (KP3.out.below hb4 KP3.out.lt)
  have B4:=hide (B3.out.trans (hb4.mono B3.out.size))
  have z4:=hide hb4.size
  clear RA3 KA3 RP3 KP3 B3  hb4
  have RA4:=hide (blk_range KA4.out)
  have RP4:=hide (blk_range KP4.out)
  obtain ⟨cW,hcW⟩:∃ c,clC QE uW=c:=⟨_,rfl⟩
  have ecW:=hide (show lgV QE uW=.agg cW.toArray from by rw [<- hcW];rfl)
  rw [hcW] at kk
  have KW4:=hide kk
  have IW:=hide (show (Tryz.prog.info? 35).map (·.size)=some cW.length from by rw [<- hcW];exact Tryz.infoC2)
  clear kk
  have RW4:=hide (blk_range KW4.out)
  have RW:=hide rW
  have hBW:=hide (And.intro hBW KW4.out.lt)
  have D4:=hide (Below.refl w4.heap.size w4)
  clear rW hcW HS
  go_wp2_with (first
    | (refine wpList_load_mid rfl 51 _ rfl w.heap.size 0 rfl ca _ RA4.out Tryz.underlying51 rfl IA.out ?_)
    | (refine wpList_load_mid rfl 60 _ rfl (w.heap.size+1) 0 rfl cp _ RP4.out Tryz.underlying60 rfl IPp.out ?_)
    | (refine wpList_load_mid rfl 35 _ rfl BW 0 rfl cW _ RW4.out Tryz.underlying35 rfl IW.out ?_)
    | fail)
  refine (HTc.out w4 B4.out).mono ?_
  rintro e w5 ⟨uX,rfl,oX,hb5⟩
  have DX5:=hide oX.ox
  have KA5:=hide (KA4.out.below hb5 KA4.out.lt)
  have KP5:=hide (KP4.out.below hb5 KP4.out.lt)
  have KW5:=hide (KW4.out.below hb5 KW4.out.lt)
  have B5:=hide (B4.out.trans (hb5.mono B4.out.size))
  have z5:=hide hb5.size
  have D5:=hide (D4.out.trans (hb5.mono D4.out.size))
  clear RA4 KA4 RP4 KP4 RW4 KW4 B4 D4  hb5
  have RA5:=hide (blk_range KA5.out)
  have RP5:=hide (blk_range KP5.out)
  have RW5:=hide (blk_range KW5.out)
  obtain ⟨cX,hcX⟩:∃ c,clC a0 uX=c:=⟨_,rfl⟩
  have ecX:=hide (show lgV a0 uX=.agg cX.toArray from by rw [<- hcX];rfl)
  rw [ecX.out]
  have bz5:Blk (w5.alloc (.cells #[.int .i64 0,.slice none 0 0] 66)) w5.heap.size 66 [.int .i64 0,.slice none 0 0]:=Blk.new w5 _ _
  have oneX:=hide (show cX.toArray.all (·.oneCell')=true from by rw [List.all_toArray,<- hcX];exact lgC_one oX.rd)
  have IX:=hide (show (Tryz.prog.info? 66).map (·.size)=some cX.length from by rw [<- hcX];exact Tryz.infoL2)
  have HtX:=hide (show (w5.alloc (.cells #[.int .i64 0,.slice none 0 0] 66)).there w5.heap.size 0 cX.toArray.size from bz5.there (by rw [List.size_toArray,<- hcX];rfl))
  obtain ⟨w6,hw6⟩:∃ x,(w5.alloc (.cells #[.int .i64 0,.slice none 0 0] 66)).setCells w5.heap.size 0 cX=x:=⟨_,rfl⟩
  have KX6:=hide (show Blk w6 w5.heap.size 66 cX from by rw [<- hw6];exact blk_all bz5 (by rw [<- hcX];rfl))
  have hb6:Below w5.heap.size w5 w6:=by rw [<- hw6];exact ((Below.refl _ w5).alloc (Nat.le_refl _) _).trans (putC_below (Nat.le_refl _) _ _ _)
  have Hw6:=hide hw6
  have y6:=hide (KX6.out.lt)
  clear bz5 hw6
  have KA6:=hide (KA5.out.below hb6 KA5.out.lt)
  have KP6:=hide (KP5.out.below hb6 KP5.out.lt)
  have KW6:=hide (KW5.out.below hb6 KW5.out.lt)
  have B6:=hide (B5.out.trans (hb6.mono B5.out.size))
  have z6:=hide hb6.size
  have D6:=hide (D5.out.trans (hb6.mono D5.out.size))
  have DX6:=hide (DX5.out.kept (Kept.of_oth (Oth.of_below (S:=fun _=>False) hb6) (fun _ _ _ e=>e)))
  clear RA5 KA5 RP5 KP5 RW5 KW5 B5 D5 DX5 hb6
  have RA6:=hide (blk_range KA6.out)
  have RP6:=hide (blk_range KP6.out)
  have RW6:=hide (blk_range KW6.out)
  have RX6:=hide (blk_range KX6.out)
  clear oX hcX
  go_wp2_with (first
    | (refine wpList_load_mid rfl 51 _ rfl w.heap.size 0 rfl ca _ RA6.out Tryz.underlying51 rfl IA.out ?_)
    | (refine wpList_load_mid rfl 60 _ rfl (w.heap.size+1) 0 rfl cp _ RP6.out Tryz.underlying60 rfl IPp.out ?_)
    | (refine wpList_load_mid rfl 35 _ rfl BW 0 rfl cW _ RW6.out Tryz.underlying35 rfl IW.out ?_)
    | (refine wpList_load_mid rfl 66 _ rfl w5.heap.size 0 rfl cX _ RX6.out Tryz.underlying66 rfl IX.out ?_)
    | (refine wpList_store_mid rfl 66 _ _ rfl w5.heap.size 0 cX.toArray rfl rfl HtX.out (by simpa using IX.out) oneX.out ?_;rw [Hw6.out])
    | fail)
  refine (HTp.out w6 B6.out).mono ?_
  rintro e w7 ⟨uY,rfl,oY,hb7⟩
  have DY7:=hide oY
  have KA7:=hide (KA6.out.below hb7 KA6.out.lt)
  have KP7:=hide (KP6.out.below hb7 KP6.out.lt)
  have KW7:=hide (KW6.out.below hb7 KW6.out.lt)
  have KX7:=hide (KX6.out.below hb7 KX6.out.lt)
  have B7:=hide (B6.out.trans (hb7.mono B6.out.size))
  have z7:=hide hb7.size
  have D7:=hide (D6.out.trans (hb7.mono D6.out.size))
  have DX7:=hide (DX6.out.kept (Kept.of_oth (Oth.of_below (S:=fun _=>False) hb7) (fun _ _ _ e=>e)))
  clear RA6 KA6 RP6 KP6 RW6 KW6 RX6 KX6 B6 D6 DX6 hb7
  have RA7:=hide (blk_range KA7.out)
  have RP7:=hide (blk_range KP7.out)
  have RW7:=hide (blk_range KW7.out)
  have RX7:=hide (blk_range KX7.out)
  obtain ⟨cY,hcY⟩:∃ c,noC z1 uY=c:=⟨_,rfl⟩
  have ecY:=hide (show noV z1 uY=.agg cY.toArray from by rw [<- hcY];rfl)
  rw [ecY.out]
  clear oneX HtX Hw6
  have bz7:Blk (w7.alloc (.cells #[.string { data:=#[] },.int .i64 0,.int .i64 0,.slice none 0 0,.slice none 0 0,.slice none 0 0,.int .i64 0,.int .i64 0,.int .i64 0,.int .i64 0,.slice none 0 0,.int .i64 0,.slice none 0 0,.slice none 0 0,.int .i64 0,.slice none 0 0,.slice none 0 0,.slice none 0 0,.slice none 0 0,.slice none 0 0] 73)) w7.heap.size 73 [.string { data:=#[] },.int .i64 0,.int .i64 0,.slice none 0 0,.slice none 0 0,.slice none 0 0,.int .i64 0,.int .i64 0,.int .i64 0,.int .i64 0,.slice none 0 0,.int .i64 0,.slice none 0 0,.slice none 0 0,.int .i64 0,.slice none 0 0,.slice none 0 0,.slice none 0 0,.slice none 0 0,.slice none 0 0]:=Blk.new w7 _ _
  have oneY:=hide (show cY.toArray.all (·.oneCell')=true from by rw [List.all_toArray,<- hcY];exact noC_one oY.rd)
  have IY:=hide (show (Tryz.prog.info? 73).map (·.size)=some cY.length from by rw [<- hcY];exact Tryz.infoB)
  have HtY:=hide (show (w7.alloc (.cells #[.string { data:=#[] },.int .i64 0,.int .i64 0,.slice none 0 0,.slice none 0 0,.slice none 0 0,.int .i64 0,.int .i64 0,.int .i64 0,.int .i64 0,.slice none 0 0,.int .i64 0,.slice none 0 0,.slice none 0 0,.int .i64 0,.slice none 0 0,.slice none 0 0,.slice none 0 0,.slice none 0 0,.slice none 0 0] 73)).there w7.heap.size 0 cY.toArray.size from bz7.there (by rw [List.size_toArray,<- hcY];rfl))
  obtain ⟨w8,hw8⟩:∃ x,(w7.alloc (.cells #[.string { data:=#[] },.int .i64 0,.int .i64 0,.slice none 0 0,.slice none 0 0,.slice none 0 0,.int .i64 0,.int .i64 0,.int .i64 0,.int .i64 0,.slice none 0 0,.int .i64 0,.slice none 0 0,.slice none 0 0,.int .i64 0,.slice none 0 0,.slice none 0 0,.slice none 0 0,.slice none 0 0,.slice none 0 0] 73)).setCells w7.heap.size 0 cY=x:=⟨_,rfl⟩
  have KY8:=hide (show Blk w8 w7.heap.size 73 cY from by rw [<- hw8];exact blk_all bz7 (by rw [<- hcY];rfl))
  have hb8:Below w7.heap.size w7 w8:=by rw [<- hw8];exact ((Below.refl _ w7).alloc (Nat.le_refl _) _).trans (putC_below (Nat.le_refl _) _ _ _)
  have Hw8:=hide hw8
  have y8:=hide (KY8.out.lt)
  clear bz7 hw8
  have KA8:=hide (KA7.out.below hb8 KA7.out.lt)
  have KP8:=hide (KP7.out.below hb8 KP7.out.lt)
  have KW8:=hide (KW7.out.below hb8 KW7.out.lt)
  have KX8:=hide (KX7.out.below hb8 KX7.out.lt)
  have B8:=hide (B7.out.trans (hb8.mono B7.out.size))
  have z8:=hide hb8.size
  have D8:=hide (D7.out.trans (hb8.mono D7.out.size))
  have DX8:=hide (DX7.out.kept (Kept.of_oth (Oth.of_below (S:=fun _=>False) hb8) (fun _ _ _ e=>e)))
  have DY8:=hide (DY7.out.kept (Kept.of_oth (Oth.of_below (S:=fun _=>False) hb8) (fun _ _ _ e=>e)))
  clear RA7 KA7 RP7 KP7 RW7 KW7 RX7 KX7 B7 D7 DX7 DY7 hb8
  have RA8:=hide (blk_range KA8.out)
  have RP8:=hide (blk_range KP8.out)
  have RW8:=hide (blk_range KW8.out)
  have RX8:=hide (blk_range KX8.out)
  have RY8:=hide (blk_range KY8.out)
  have C9:=hide (HI.out uX uY w8 DX8.out.rd DY8.out.rd)
  rw [ecX.out,ecY.out] at C9
  clear oY hcY
  go_wp2_with (first
    | (refine wpList_load_mid rfl 51 _ rfl w.heap.size 0 rfl ca _ RA8.out Tryz.underlying51 rfl IA.out ?_)
    | (refine wpList_load_mid rfl 60 _ rfl (w.heap.size+1) 0 rfl cp _ RP8.out Tryz.underlying60 rfl IPp.out ?_)
    | (refine wpList_load_mid rfl 35 _ rfl BW 0 rfl cW _ RW8.out Tryz.underlying35 rfl IW.out ?_)
    | (refine wpList_load_mid rfl 66 _ rfl w5.heap.size 0 rfl cX _ RX8.out Tryz.underlying66 rfl IX.out ?_)
    | (refine wpList_load_mid rfl 73 _ rfl w7.heap.size 0 rfl cY _ RY8.out Tryz.underlying73 rfl IY.out ?_)
    | (refine wpList_store_mid rfl 73 _ _ rfl w7.heap.size 0 cY.toArray rfl rfl HtY.out (by simpa using IY.out) oneY.out ?_;rw [Hw8.out])
    | fail)
  refine C9.out.mono ?_
  rintro e w9 ⟨uG,rfl,oG,hb9⟩
  have DG9:=hide oG.oc
  have KA9:=hide (KA8.out.below hb9 KA8.out.lt)
  have KP9:=hide (KP8.out.below hb9 KP8.out.lt)
  have KW9:=hide (KW8.out.below hb9 KW8.out.lt)
  have KX9:=hide (KX8.out.below hb9 KX8.out.lt)
  have KY9:=hide (KY8.out.below hb9 KY8.out.lt)
  have B9:=hide (B8.out.trans (hb9.mono B8.out.size))
  have z9:=hide hb9.size
  have D9:=hide (D8.out.trans (hb9.mono D8.out.size))
  have DX9:=hide (DX8.out.kept (Kept.of_oth (Oth.of_below (S:=fun _=>False) hb9) (fun _ _ _ e=>e)))
  have DY9:=hide (DY8.out.kept (Kept.of_oth (Oth.of_below (S:=fun _=>False) hb9) (fun _ _ _ e=>e)))
  clear RA8 KA8 RP8 KP8 RW8 KW8 RX8 KX8 RY8 KY8 B8 D8 DX8 DY8 hb9
  have RA9:=hide (blk_range KA9.out)
  have RP9:=hide (blk_range KP9.out)
  have RW9:=hide (blk_range KW9.out)
  have RX9:=hide (blk_range KX9.out)
  have RY9:=hide (blk_range KY9.out)
  obtain ⟨cG,hcG⟩:∃ c,clC QE uG=c:=⟨_,rfl⟩
  have ecG:=hide (show lgV QE uG=.agg cG.toArray from by rw [<- hcG];rfl)
  rw [ecG.out]
  clear C9 oneY HtY Hw8
  have bz9:Blk (w9.alloc (.cells #[.int .i64 0,.slice none 0 0] 35)) w9.heap.size 35 [.int .i64 0,.slice none 0 0]:=Blk.new w9 _ _
  have oneG:=hide (show cG.toArray.all (·.oneCell')=true from by rw [List.all_toArray,<- hcG];exact clC_one oG.rd)
  have IG:=hide (show (Tryz.prog.info? 35).map (·.size)=some cG.length from by rw [<- hcG];exact Tryz.infoC2)
  have HtG:=hide (show (w9.alloc (.cells #[.int .i64 0,.slice none 0 0] 35)).there w9.heap.size 0 cG.toArray.size from bz9.there (by rw [List.size_toArray,<- hcG];rfl))
  obtain ⟨w10,hw10⟩:∃ x,(w9.alloc (.cells #[.int .i64 0,.slice none 0 0] 35)).setCells w9.heap.size 0 cG=x:=⟨_,rfl⟩
  have KG10:=hide (show Blk w10 w9.heap.size 35 cG from by rw [<- hw10];exact blk_all bz9 (by rw [<- hcG];rfl))
  have hb10:Below w9.heap.size w9 w10:=by rw [<- hw10];exact ((Below.refl _ w9).alloc (Nat.le_refl _) _).trans (putC_below (Nat.le_refl _) _ _ _)
  have Hw10:=hide hw10
  have y10:=hide (KG10.out.lt)
  clear bz9 hw10
  have KA10:=hide (KA9.out.below hb10 KA9.out.lt)
  have KP10:=hide (KP9.out.below hb10 KP9.out.lt)
  have KW10:=hide (KW9.out.below hb10 KW9.out.lt)
  have KX10:=hide (KX9.out.below hb10 KX9.out.lt)
  have KY10:=hide (KY9.out.below hb10 KY9.out.lt)
  have B10:=hide (B9.out.trans (hb10.mono B9.out.size))
  have z10:=hide hb10.size
  have D10:=hide (D9.out.trans (hb10.mono D9.out.size))
  have DX10:=hide (DX9.out.kept (Kept.of_oth (Oth.of_below (S:=fun _=>False) hb10) (fun _ _ _ e=>e)))
  have DY10:=hide (DY9.out.kept (Kept.of_oth (Oth.of_below (S:=fun _=>False) hb10) (fun _ _ _ e=>e)))
  have DG10:=hide (DG9.out.kept (Kept.of_oth (Oth.of_below (S:=fun _=>False) hb10) (fun _ _ _ e=>e)))
  clear RA9 KA9 RP9 KP9 RW9 KW9 RX9 KX9 RY9 KY9 B9 D9 DX9 DY9 DG9 hb10
  have RA10:=hide (blk_range KA10.out)
  have RP10:=hide (blk_range KP10.out)
  have RW10:=hide (blk_range KW10.out)
  have RX10:=hide (blk_range KX10.out)
  have RY10:=hide (blk_range KY10.out)
  have RG10:=hide (blk_range KG10.out)
  have C11:=hide (HEr.out uG uW w10 DG10.out.rd (RW.out.below D10.out (Nat.le_refl _)))
  rw [ecG.out,ecW.out] at C11
  clear oG hcG
  go_wp2_with (first
    | (refine wpList_load_mid rfl 51 _ rfl w.heap.size 0 rfl ca _ RA10.out Tryz.underlying51 rfl IA.out ?_)
    | (refine wpList_load_mid rfl 60 _ rfl (w.heap.size+1) 0 rfl cp _ RP10.out Tryz.underlying60 rfl IPp.out ?_)
    | (refine wpList_load_mid rfl 35 _ rfl BW 0 rfl cW _ RW10.out Tryz.underlying35 rfl IW.out ?_)
    | (refine wpList_load_mid rfl 66 _ rfl w5.heap.size 0 rfl cX _ RX10.out Tryz.underlying66 rfl IX.out ?_)
    | (refine wpList_load_mid rfl 73 _ rfl w7.heap.size 0 rfl cY _ RY10.out Tryz.underlying73 rfl IY.out ?_)
    | (refine wpList_load_mid rfl 35 _ rfl w9.heap.size 0 rfl cG _ RG10.out Tryz.underlying35 rfl IG.out ?_)
    | (refine wpList_store_mid rfl 35 _ _ rfl w9.heap.size 0 cG.toArray rfl rfl HtG.out (by simpa using IG.out) oneG.out ?_;rw [Hw10.out])
    | fail)
  refine C11.out.mono ?_
  rintro e w11 ⟨rfl,hb11⟩
  have KA11:=hide (KA10.out.below hb11 KA10.out.lt)
  have KP11:=hide (KP10.out.below hb11 KP10.out.lt)
  have KW11:=hide (KW10.out.below hb11 KW10.out.lt)
  have KX11:=hide (KX10.out.below hb11 KX10.out.lt)
  have KY11:=hide (KY10.out.below hb11 KY10.out.lt)
  have KG11:=hide (KG10.out.below hb11 KG10.out.lt)
  have B11:=hide (B10.out.trans (hb11.mono B10.out.size))
  have z11:=hide hb11.size
  have D11:=hide (D10.out.trans (hb11.mono D10.out.size))
  have DX11:=hide (DX10.out.kept (Kept.of_oth (Oth.of_below (S:=fun _=>False) hb11) (fun _ _ _ e=>e)))
  have DY11:=hide (DY10.out.kept (Kept.of_oth (Oth.of_below (S:=fun _=>False) hb11) (fun _ _ _ e=>e)))
  have DG11:=hide (DG10.out.kept (Kept.of_oth (Oth.of_below (S:=fun _=>False) hb11) (fun _ _ _ e=>e)))
  clear RA10 KA10 RP10 KP10 RW10 KW10 RX10 KX10 RY10 KY10 RG10 KG10 B10 D10 DX10 DY10 DG10 hb11
  have RA11:=hide (blk_range KA11.out)
  have RP11:=hide (blk_range KP11.out)
  have RW11:=hide (blk_range KW11.out)
  have RX11:=hide (blk_range KX11.out)
  have RY11:=hide (blk_range KY11.out)
  have RG11:=hide (blk_range KG11.out)
  clear C11 oneG HtG Hw10
  have HEXc:=hide (fun t V (h1:RdA V uX z0) (h2:RdA V t z0)=>HEx.out uX t V h1 h2)
  rw [ecX.out] at HEXc
  have HEXp:=hide (fun t V (h1:RdNd V z1 uY) (h2:RdNd V z1 t)=>HEp.out uY t V h1 h2)
  rw [ecY.out] at HEXp
  have HSS:Hid (∀ V,Below w11.heap.size w11 V->(V.rangeAt w5.heap.size 0 cX/\V.rangeAt w.heap.size 0 ca)):=hide (fun V hV=>⟨range_below RX11.out hV KX11.out.lt,range_below RA11.out hV KA11.out.lt⟩)
  have bD:Below w11.heap.size w11 w11.drew:=(Below.refl _ w11).drew
  have hS0:=HSS.out _ bD
  go_wp2
  refine wp_region_held_drew (S:=fun W=>W.rangeAt w5.heap.size 0 cX/\W.rangeAt w.heap.size 0 ca) (by kernel_rfl) hS0 (fun hHeld=>?_)
  refine wpAnyH_take (i:=0) (v:=.agg cX.toArray) rfl (by kernel_rfl) (by kernel_rfl) (by kernel_rfl) (fun _ _ _ h=>h) (yieldsIf_load_mid (by rfl) 66 _ rfl w5.heap.size 0 rfl cX _ (fun W hW=>hW.1) Tryz.underlying66 rfl IX.out) (by assumption) ?_
  change wpAnyH Tryz.prog _ _ _ _ _ _ (Act.put _ (some 54) _) _
  simp only [Act.put,List.setIfInBounds_toArray,List.set_cons_zero,List.set_cons_succ]
  refine wpAnyH_take (i:=1) (v:=.agg ca.toArray) rfl (by kernel_rfl) (by kernel_rfl) (by kernel_rfl) (fun _ _ _ h=>h) (yieldsIf_load_mid (by rfl) 51 _ rfl w.heap.size 0 rfl ca _ (fun W hW=>hW.2) Tryz.underlying51 rfl IA.out) (by assumption) ?_
  change wpAnyH Tryz.prog _ _ _ _ _ _ (Act.put _ (some 55) _) _
  simp only [Act.put,List.setIfInBounds_toArray,List.set_cons_zero,List.set_cons_succ]
  refine wpAnyH_ready (rs:=[2]) (by kernel_rfl) (by simp) ?_
  refine AllReadyH.cons rfl (fun K hK=>?_) AllReadyH.nil
  go_simp
  go_wp2_with (go_at_call 26;(with_reducible refine (HTc.out _ (B11.out.trans (bD.mono B11.out.size))).mono ?_);rintro e w12 ⟨u12,rfl,o12,hb12⟩;have c12:=bD.trans (hb12.mono bD.size);have hS12:=HSS.out _ c12;have r12:=o12.rd)
  refine hK.out _ _ hS12 (fun hHeld=>?_)
  try simp only [Act.put,List.setIfInBounds_toArray,List.set_cons_zero,List.set_cons_succ]
  refine wpAnyH_ready (rs:=[3]) (by kernel_rfl) (by simp) ?_
  refine AllReadyH.cons rfl (fun K hK=>?_) AllReadyH.nil
  go_simp
  go_wp2_with (go_at_call 28;(with_reducible refine (HEXc.out _ _ (DX11.out.rd.below c12 (Nat.le_refl _)) r12).mono ?_);rintro e w13 ⟨rfl,hb13⟩;have c13:=c12.trans (hb13.mono c12.size);have hS13:=HSS.out _ c13)
  refine hK.out _ _ hS13 (fun hHeld=>?_)
  try simp only [Act.put,List.setIfInBounds_toArray,List.set_cons_zero,List.set_cons_succ]
  refine wpAnyH_take (i:=4) (v:=.bool false) rfl (by kernel_rfl) (by kernel_rfl) (by kernel_rfl) (fun _ _ _ h=>h) (Or.inl ⟨by rfl,fun W hW=>by go_simp⟩) (by assumption) ?_
  change wpAnyH Tryz.prog _ _ _ _ _ _ (Act.put _ (some 58) _) _
  simp only [Act.put,List.setIfInBounds_toArray,List.set_cons_zero,List.set_cons_succ]
  refine wpAnyH_done (by kernel_rfl) ?_ _
  clear hS0 hS12 hS13 o12 r12 hb12 hb13 c12 HSS bD
  have KA13:=hide (KA11.out.below c13 KA11.out.lt)
  have KP13:=hide (KP11.out.below c13 KP11.out.lt)
  have KW13:=hide (KW11.out.below c13 KW11.out.lt)
  have KX13:=hide (KX11.out.below c13 KX11.out.lt)
  have KY13:=hide (KY11.out.below c13 KY11.out.lt)
  have KG13:=hide (KG11.out.below c13 KG11.out.lt)
  have B13:=hide (B11.out.trans (c13.mono B11.out.size))
  have z13:=hide c13.size
  have D13:=hide (D11.out.trans (c13.mono D11.out.size))
  have DX13:=hide (DX11.out.kept (Kept.of_oth (Oth.of_below (S:=fun _=>False) c13) (fun _ _ _ e=>e)))
  have DY13:=hide (DY11.out.kept (Kept.of_oth (Oth.of_below (S:=fun _=>False) c13) (fun _ _ _ e=>e)))
  have DG13:=hide (DG11.out.kept (Kept.of_oth (Oth.of_below (S:=fun _=>False) c13) (fun _ _ _ e=>e)))
  clear RA11 KA11 RP11 KP11 RW11 KW11 RX11 KX11 RY11 KY11 RG11 KG11 B11 D11 DX11 DY11 DG11
  have RA13:=hide (blk_range KA13.out)
  have RP13:=hide (blk_range KP13.out)
  have RW13:=hide (blk_range KW13.out)
  have RX13:=hide (blk_range KX13.out)
  have RY13:=hide (blk_range KY13.out)
  have RG13:=hide (blk_range KG13.out)
  clear c13
  have HSS:Hid (∀ V,Below w13.heap.size w13 V->(V.rangeAt w7.heap.size 0 cY/\V.rangeAt (w.heap.size+1) 0 cp)):=hide (fun V hV=>⟨range_below RY13.out hV KY13.out.lt,range_below RP13.out hV KP13.out.lt⟩)
  have bD:Below w13.heap.size w13 w13.drew:=(Below.refl _ w13).drew
  have hS0:=HSS.out _ bD
  go_wp2
  refine wp_region_held_drew (S:=fun W=>W.rangeAt w7.heap.size 0 cY/\W.rangeAt (w.heap.size+1) 0 cp) (by kernel_rfl) hS0 (fun hHeld=>?_)
  refine wpAnyH_take (i:=0) (v:=.agg cY.toArray) rfl (by kernel_rfl) (by kernel_rfl) (by kernel_rfl) (fun _ _ _ h=>h) (yieldsIf_load_mid (by rfl) 73 _ rfl w7.heap.size 0 rfl cY _ (fun W hW=>hW.1) Tryz.underlying73 rfl IY.out) (by assumption) ?_
  change wpAnyH Tryz.prog _ _ _ _ _ _ (Act.put _ (some 59) _) _
  simp only [Act.put,List.setIfInBounds_toArray,List.set_cons_zero,List.set_cons_succ]
  refine wpAnyH_take (i:=1) (v:=.agg cp.toArray) rfl (by kernel_rfl) (by kernel_rfl) (by kernel_rfl) (fun _ _ _ h=>h) (yieldsIf_load_mid (by rfl) 60 _ rfl (w.heap.size+1) 0 rfl cp _ (fun W hW=>hW.2) Tryz.underlying60 rfl IPp.out) (by assumption) ?_
  change wpAnyH Tryz.prog _ _ _ _ _ _ (Act.put _ (some 60) _) _
  simp only [Act.put,List.setIfInBounds_toArray,List.set_cons_zero,List.set_cons_succ]
  refine wpAnyH_ready (rs:=[2]) (by kernel_rfl) (by simp) ?_
  refine AllReadyH.cons rfl (fun K hK=>?_) AllReadyH.nil
  go_simp
  go_wp2_with (go_at_call 19;(with_reducible refine (HTp.out _ (B13.out.trans (bD.mono B13.out.size))).mono ?_);rintro e w14 ⟨u14,rfl,o14,hb14⟩;have c14:=bD.trans (hb14.mono bD.size);have hS14:=HSS.out _ c14;have r14:=o14.rd)
  refine hK.out _ _ hS14 (fun hHeld=>?_)
  try simp only [Act.put,List.setIfInBounds_toArray,List.set_cons_zero,List.set_cons_succ]
  refine wpAnyH_ready (rs:=[3]) (by kernel_rfl) (by simp) ?_
  refine AllReadyH.cons rfl (fun K hK=>?_) AllReadyH.nil
  go_simp
  go_wp2_with (go_at_call 21;(with_reducible refine (HEXp.out _ _ (DY13.out.rd.below c14 (Nat.le_refl _)) r14).mono ?_);rintro e w15 ⟨rfl,hb15⟩;have c15:=c14.trans (hb15.mono c14.size);have hS15:=HSS.out _ c15)
  refine hK.out _ _ hS15 (fun hHeld=>?_)
  try simp only [Act.put,List.setIfInBounds_toArray,List.set_cons_zero,List.set_cons_succ]
  refine wpAnyH_take (i:=4) (v:=.bool false) rfl (by kernel_rfl) (by kernel_rfl) (by kernel_rfl) (fun _ _ _ h=>h) (Or.inl ⟨by rfl,fun W hW=>by go_simp⟩) (by assumption) ?_
  change wpAnyH Tryz.prog _ _ _ _ _ _ (Act.put _ (some 63) _) _
  simp only [Act.put,List.setIfInBounds_toArray,List.set_cons_zero,List.set_cons_succ]
  refine wpAnyH_done (by kernel_rfl) ?_ _
  clear hS0 hS14 hS15 o14 r14 hb14 hb15 c14 HSS bD
  have KA15:=hide (KA13.out.below c15 KA13.out.lt)
  have KP15:=hide (KP13.out.below c15 KP13.out.lt)
  have KW15:=hide (KW13.out.below c15 KW13.out.lt)
  have KX15:=hide (KX13.out.below c15 KX13.out.lt)
  have KY15:=hide (KY13.out.below c15 KY13.out.lt)
  have KG15:=hide (KG13.out.below c15 KG13.out.lt)
  have B15:=hide (B13.out.trans (c15.mono B13.out.size))
  have z15:=hide c15.size
  have D15:=hide (D13.out.trans (c15.mono D13.out.size))
  have DX15:=hide (DX13.out.kept (Kept.of_oth (Oth.of_below (S:=fun _=>False) c15) (fun _ _ _ e=>e)))
  have DY15:=hide (DY13.out.kept (Kept.of_oth (Oth.of_below (S:=fun _=>False) c15) (fun _ _ _ e=>e)))
  have DG15:=hide (DG13.out.kept (Kept.of_oth (Oth.of_below (S:=fun _=>False) c15) (fun _ _ _ e=>e)))
  clear RA13 KA13 RP13 KP13 RW13 KW13 RX13 KX13 RY13 KY13 RG13 KG13 B13 D13 DX13 DY13 DG13
  have RA15:=hide (blk_range KA15.out)
  have RP15:=hide (blk_range KP15.out)
  have RW15:=hide (blk_range KW15.out)
  have RX15:=hide (blk_range KX15.out)
  have RY15:=hide (blk_range KY15.out)
  have RG15:=hide (blk_range KG15.out)
  clear c15
  have C16:=hide (HMx.out uX w4.heap.size w5.heap.size w15 DX15.out)
  rw [ecX.out] at C16
  clear DX15 HMx HEXc HEXp HEx HEp
  go_wp2_with (first
    | (refine wpList_load_mid rfl 51 _ rfl w.heap.size 0 rfl ca _ RA15.out Tryz.underlying51 rfl IA.out ?_)
    | (refine wpList_load_mid rfl 60 _ rfl (w.heap.size+1) 0 rfl cp _ RP15.out Tryz.underlying60 rfl IPp.out ?_)
    | (refine wpList_load_mid rfl 35 _ rfl BW 0 rfl cW _ RW15.out Tryz.underlying35 rfl IW.out ?_)
    | (refine wpList_load_mid rfl 66 _ rfl w5.heap.size 0 rfl cX _ RX15.out Tryz.underlying66 rfl IX.out ?_)
    | (refine wpList_load_mid rfl 73 _ rfl w7.heap.size 0 rfl cY _ RY15.out Tryz.underlying73 rfl IY.out ?_)
    | (refine wpList_load_mid rfl 35 _ rfl w9.heap.size 0 rfl cG _ RG15.out Tryz.underlying35 rfl IG.out ?_)
    | fail)
  refine C16.out.mono ?_
  rintro e w16 ⟨rfl,-,hO⟩
  have KA16:=hide (KA15.out.othM hO (by have:=z0z.out;have:=z2.out;have:=z3.out;have:=z4.out;have:=z5.out;have:=y6.out;have:=z6.out;have:=z7.out;have:=y8.out;have:=z8.out;have:=z9.out;have:=y10.out;have:=z10.out;have:=z11.out;have:=z13.out;have:=z15.out;have:=hBW.out;omega))
  have KP16:=hide (KP15.out.othM hO (by have:=z0z.out;have:=z2.out;have:=z3.out;have:=z4.out;have:=z5.out;have:=y6.out;have:=z6.out;have:=z7.out;have:=y8.out;have:=z8.out;have:=z9.out;have:=y10.out;have:=z10.out;have:=z11.out;have:=z13.out;have:=z15.out;have:=hBW.out;omega))
  have KW16:=hide (KW15.out.othM hO (by have:=z0z.out;have:=z2.out;have:=z3.out;have:=z4.out;have:=z5.out;have:=y6.out;have:=z6.out;have:=z7.out;have:=y8.out;have:=z8.out;have:=z9.out;have:=y10.out;have:=z10.out;have:=z11.out;have:=z13.out;have:=z15.out;have:=hBW.out;omega))
  have KX16:=hide (KX15.out.othM hO (by have:=z0z.out;have:=z2.out;have:=z3.out;have:=z4.out;have:=z5.out;have:=y6.out;have:=z6.out;have:=z7.out;have:=y8.out;have:=z8.out;have:=z9.out;have:=y10.out;have:=z10.out;have:=z11.out;have:=z13.out;have:=z15.out;have:=hBW.out;omega))
  have KY16:=hide (KY15.out.othM hO (by have:=z0z.out;have:=z2.out;have:=z3.out;have:=z4.out;have:=z5.out;have:=y6.out;have:=z6.out;have:=z7.out;have:=y8.out;have:=z8.out;have:=z9.out;have:=y10.out;have:=z10.out;have:=z11.out;have:=z13.out;have:=z15.out;have:=hBW.out;omega))
  have KG16:=hide (KG15.out.othM hO (by have:=z0z.out;have:=z2.out;have:=z3.out;have:=z4.out;have:=z5.out;have:=y6.out;have:=z6.out;have:=z7.out;have:=y8.out;have:=z8.out;have:=z9.out;have:=y10.out;have:=z10.out;have:=z11.out;have:=z13.out;have:=z15.out;have:=hBW.out;omega))
  have hm16:Below w4.heap.size w15 w16:=hO.below (fun k hk=>by have:=z0z.out;have:=z2.out;have:=z3.out;have:=z4.out;have:=z5.out;have:=y6.out;have:=z6.out;have:=z7.out;have:=y8.out;have:=z8.out;have:=z9.out;have:=y10.out;have:=z10.out;have:=z11.out;have:=z13.out;have:=z15.out;have:=hBW.out;omega) D15.out.size
  have B16:=hide (B15.out.trans (hm16.mono (by have:=z0z.out;have:=z2.out;have:=z3.out;have:=z4.out;have:=z5.out;have:=y6.out;have:=z6.out;have:=z7.out;have:=y8.out;have:=z8.out;have:=z9.out;have:=y10.out;have:=z10.out;have:=z11.out;have:=z13.out;have:=z15.out;have:=hBW.out;omega)))
  have D16:=hide (D15.out.trans hm16)
  have DY16:=hide (DY15.out.kept (Kept.of_oth hO (fun k h1 h2=>by have:=z0z.out;have:=z2.out;have:=z3.out;have:=z4.out;have:=z5.out;have:=y6.out;have:=z6.out;have:=z7.out;have:=y8.out;have:=z8.out;have:=z9.out;have:=y10.out;have:=z10.out;have:=z11.out;have:=z13.out;have:=z15.out;have:=hBW.out;omega)))
  have DG16:=hide (DG15.out.kept (Kept.of_oth hO (fun k h1 h2=>by have:=z0z.out;have:=z2.out;have:=z3.out;have:=z4.out;have:=z5.out;have:=y6.out;have:=z6.out;have:=z7.out;have:=y8.out;have:=z8.out;have:=z9.out;have:=y10.out;have:=z10.out;have:=z11.out;have:=z13.out;have:=z15.out;have:=hBW.out;omega)))
  have z16:=hide hO.size
  clear RA15 KA15 RP15 KP15 RW15 KW15 RX15 KX15 RY15 KY15 RG15 KG15 B15 D15 hm16 DY15 DG15
  have RA16:=hide (blk_range KA16.out)
  have RP16:=hide (blk_range KP16.out)
  have RW16:=hide (blk_range KW16.out)
  have RX16:=hide (blk_range KX16.out)
  have RY16:=hide (blk_range KY16.out)
  have RG16:=hide (blk_range KG16.out)
  clear hO C16
  have C17:=hide (HMp.out uY w6.heap.size w7.heap.size w16 DY16.out (Nat.le_of_lt KY16.out.lt))
  rw [ecY.out] at C17
  clear DY16 HMp
  go_wp2_with (first
    | (refine wpList_load_mid rfl 51 _ rfl w.heap.size 0 rfl ca _ RA16.out Tryz.underlying51 rfl IA.out ?_)
    | (refine wpList_load_mid rfl 60 _ rfl (w.heap.size+1) 0 rfl cp _ RP16.out Tryz.underlying60 rfl IPp.out ?_)
    | (refine wpList_load_mid rfl 35 _ rfl BW 0 rfl cW _ RW16.out Tryz.underlying35 rfl IW.out ?_)
    | (refine wpList_load_mid rfl 66 _ rfl w5.heap.size 0 rfl cX _ RX16.out Tryz.underlying66 rfl IX.out ?_)
    | (refine wpList_load_mid rfl 73 _ rfl w7.heap.size 0 rfl cY _ RY16.out Tryz.underlying73 rfl IY.out ?_)
    | (refine wpList_load_mid rfl 35 _ rfl w9.heap.size 0 rfl cG _ RG16.out Tryz.underlying35 rfl IG.out ?_)
    | fail)
  refine C17.out.mono ?_
  rintro e w17 ⟨rfl,-,hO⟩
  have KA17:=hide (KA16.out.othM hO (by have:=z0z.out;have:=z2.out;have:=z3.out;have:=z4.out;have:=z5.out;have:=y6.out;have:=z6.out;have:=z7.out;have:=y8.out;have:=z8.out;have:=z9.out;have:=y10.out;have:=z10.out;have:=z11.out;have:=z13.out;have:=z15.out;have:=z16.out;have:=hBW.out;omega))
  have KP17:=hide (KP16.out.othM hO (by have:=z0z.out;have:=z2.out;have:=z3.out;have:=z4.out;have:=z5.out;have:=y6.out;have:=z6.out;have:=z7.out;have:=y8.out;have:=z8.out;have:=z9.out;have:=y10.out;have:=z10.out;have:=z11.out;have:=z13.out;have:=z15.out;have:=z16.out;have:=hBW.out;omega))
  have KW17:=hide (KW16.out.othM hO (by have:=z0z.out;have:=z2.out;have:=z3.out;have:=z4.out;have:=z5.out;have:=y6.out;have:=z6.out;have:=z7.out;have:=y8.out;have:=z8.out;have:=z9.out;have:=y10.out;have:=z10.out;have:=z11.out;have:=z13.out;have:=z15.out;have:=z16.out;have:=hBW.out;omega))
  have KX17:=hide (KX16.out.othM hO (by have:=z0z.out;have:=z2.out;have:=z3.out;have:=z4.out;have:=z5.out;have:=y6.out;have:=z6.out;have:=z7.out;have:=y8.out;have:=z8.out;have:=z9.out;have:=y10.out;have:=z10.out;have:=z11.out;have:=z13.out;have:=z15.out;have:=z16.out;have:=hBW.out;omega))
  have KY17:=hide (KY16.out.othM hO (by have:=z0z.out;have:=z2.out;have:=z3.out;have:=z4.out;have:=z5.out;have:=y6.out;have:=z6.out;have:=z7.out;have:=y8.out;have:=z8.out;have:=z9.out;have:=y10.out;have:=z10.out;have:=z11.out;have:=z13.out;have:=z15.out;have:=z16.out;have:=hBW.out;omega))
  have KG17:=hide (KG16.out.othM hO (by have:=z0z.out;have:=z2.out;have:=z3.out;have:=z4.out;have:=z5.out;have:=y6.out;have:=z6.out;have:=z7.out;have:=y8.out;have:=z8.out;have:=z9.out;have:=y10.out;have:=z10.out;have:=z11.out;have:=z13.out;have:=z15.out;have:=z16.out;have:=hBW.out;omega))
  have hm17:Below w4.heap.size w16 w17:=hO.below (fun k hk=>by have:=z0z.out;have:=z2.out;have:=z3.out;have:=z4.out;have:=z5.out;have:=y6.out;have:=z6.out;have:=z7.out;have:=y8.out;have:=z8.out;have:=z9.out;have:=y10.out;have:=z10.out;have:=z11.out;have:=z13.out;have:=z15.out;have:=z16.out;have:=hBW.out;omega) D16.out.size
  have B17:=hide (B16.out.trans (hm17.mono (by have:=z0z.out;have:=z2.out;have:=z3.out;have:=z4.out;have:=z5.out;have:=y6.out;have:=z6.out;have:=z7.out;have:=y8.out;have:=z8.out;have:=z9.out;have:=y10.out;have:=z10.out;have:=z11.out;have:=z13.out;have:=z15.out;have:=z16.out;have:=hBW.out;omega)))
  have D17:=hide (D16.out.trans hm17)
  have DG17:=hide (DG16.out.kept (Kept.of_oth hO (fun k h1 h2=>by have:=z0z.out;have:=z2.out;have:=z3.out;have:=z4.out;have:=z5.out;have:=y6.out;have:=z6.out;have:=z7.out;have:=y8.out;have:=z8.out;have:=z9.out;have:=y10.out;have:=z10.out;have:=z11.out;have:=z13.out;have:=z15.out;have:=z16.out;have:=hBW.out;omega)))
  have z17:=hide hO.size
  clear RA16 KA16 RP16 KP16 RW16 KW16 RX16 KX16 RY16 KY16 RG16 KG16 B16 D16 hm17 DG16
  have RA17:=hide (blk_range KA17.out)
  have RP17:=hide (blk_range KP17.out)
  have RW17:=hide (blk_range KW17.out)
  have RX17:=hide (blk_range KX17.out)
  have RY17:=hide (blk_range KY17.out)
  have RG17:=hide (blk_range KG17.out)
  clear hO C17
  have C18:=hide (HEr.out uG uW w17 DG17.out.rd (RW.out.below D17.out (Nat.le_refl _)))
  rw [ecG.out,ecW.out] at C18
  go_wp2_with (first
    | (refine wpList_load_mid rfl 51 _ rfl w.heap.size 0 rfl ca _ RA17.out Tryz.underlying51 rfl IA.out ?_)
    | (refine wpList_load_mid rfl 60 _ rfl (w.heap.size+1) 0 rfl cp _ RP17.out Tryz.underlying60 rfl IPp.out ?_)
    | (refine wpList_load_mid rfl 35 _ rfl BW 0 rfl cW _ RW17.out Tryz.underlying35 rfl IW.out ?_)
    | (refine wpList_load_mid rfl 66 _ rfl w5.heap.size 0 rfl cX _ RX17.out Tryz.underlying66 rfl IX.out ?_)
    | (refine wpList_load_mid rfl 73 _ rfl w7.heap.size 0 rfl cY _ RY17.out Tryz.underlying73 rfl IY.out ?_)
    | (refine wpList_load_mid rfl 35 _ rfl w9.heap.size 0 rfl cG _ RG17.out Tryz.underlying35 rfl IG.out ?_)
    | (refine wpList_load_guard (by kernel_rfl) 35 _ rfl BW 0 rfl cW _ RW17.out Tryz.underlying35 rfl IW.out ?_)
    | (refine wpList_load_guard (by kernel_rfl) 35 _ rfl w9.heap.size 0 rfl cG _ RG17.out Tryz.underlying35 rfl IG.out ?_)
    | fail)
  refine C18.out.mono ?_
  rintro e w18 ⟨rfl,hb18⟩
  have KA18:=hide (KA17.out.below hb18 KA17.out.lt)
  have KP18:=hide (KP17.out.below hb18 KP17.out.lt)
  have KW18:=hide (KW17.out.below hb18 KW17.out.lt)
  have KX18:=hide (KX17.out.below hb18 KX17.out.lt)
  have KY18:=hide (KY17.out.below hb18 KY17.out.lt)
  have KG18:=hide (KG17.out.below hb18 KG17.out.lt)
  have B18:=hide (B17.out.trans (hb18.mono B17.out.size))
  have z18:=hide hb18.size
  have D18:=hide (D17.out.trans (hb18.mono D17.out.size))
  have DG18:=hide (DG17.out.kept (Kept.of_oth (Oth.of_below (S:=fun _=>False) hb18) (fun _ _ _ e=>e)))
  clear RA17 KA17 RP17 KP17 RW17 KW17 RX17 KX17 RY17 KY17 RG17 KG17 B17 D17 DG17 hb18
  have RA18:=hide (blk_range KA18.out)
  have RP18:=hide (blk_range KP18.out)
  have RW18:=hide (blk_range KW18.out)
  have RX18:=hide (blk_range KX18.out)
  have RY18:=hide (blk_range KY18.out)
  have RG18:=hide (blk_range KG18.out)
  clear C18
  have C19:=hide (HMr.out uG w8.heap.size w9.heap.size w18 DG18.out)
  rw [ecG.out] at C19
  clear DG18 HMr
  go_wp2_with (first
    | (refine wpList_load_mid rfl 51 _ rfl w.heap.size 0 rfl ca _ RA18.out Tryz.underlying51 rfl IA.out ?_)
    | (refine wpList_load_mid rfl 60 _ rfl (w.heap.size+1) 0 rfl cp _ RP18.out Tryz.underlying60 rfl IPp.out ?_)
    | (refine wpList_load_mid rfl 35 _ rfl BW 0 rfl cW _ RW18.out Tryz.underlying35 rfl IW.out ?_)
    | (refine wpList_load_mid rfl 66 _ rfl w5.heap.size 0 rfl cX _ RX18.out Tryz.underlying66 rfl IX.out ?_)
    | (refine wpList_load_mid rfl 73 _ rfl w7.heap.size 0 rfl cY _ RY18.out Tryz.underlying73 rfl IY.out ?_)
    | (refine wpList_load_mid rfl 35 _ rfl w9.heap.size 0 rfl cG _ RG18.out Tryz.underlying35 rfl IG.out ?_)
    | fail)
  refine C19.out.mono ?_
  rintro e w19 ⟨rfl,oM,hO⟩
  have KA19:=hide (KA18.out.othM hO (by have:=z0z.out;have:=z2.out;have:=z3.out;have:=z4.out;have:=z5.out;have:=y6.out;have:=z6.out;have:=z7.out;have:=y8.out;have:=z8.out;have:=z9.out;have:=y10.out;have:=z10.out;have:=z11.out;have:=z13.out;have:=z15.out;have:=z16.out;have:=z17.out;have:=z18.out;have:=hBW.out;omega))
  have KP19:=hide (KP18.out.othM hO (by have:=z0z.out;have:=z2.out;have:=z3.out;have:=z4.out;have:=z5.out;have:=y6.out;have:=z6.out;have:=z7.out;have:=y8.out;have:=z8.out;have:=z9.out;have:=y10.out;have:=z10.out;have:=z11.out;have:=z13.out;have:=z15.out;have:=z16.out;have:=z17.out;have:=z18.out;have:=hBW.out;omega))
  have KW19:=hide (KW18.out.othM hO (by have:=z0z.out;have:=z2.out;have:=z3.out;have:=z4.out;have:=z5.out;have:=y6.out;have:=z6.out;have:=z7.out;have:=y8.out;have:=z8.out;have:=z9.out;have:=y10.out;have:=z10.out;have:=z11.out;have:=z13.out;have:=z15.out;have:=z16.out;have:=z17.out;have:=z18.out;have:=hBW.out;omega))
  have KX19:=hide (KX18.out.othM hO (by have:=z0z.out;have:=z2.out;have:=z3.out;have:=z4.out;have:=z5.out;have:=y6.out;have:=z6.out;have:=z7.out;have:=y8.out;have:=z8.out;have:=z9.out;have:=y10.out;have:=z10.out;have:=z11.out;have:=z13.out;have:=z15.out;have:=z16.out;have:=z17.out;have:=z18.out;have:=hBW.out;omega))
  have KY19:=hide (KY18.out.othM hO (by have:=z0z.out;have:=z2.out;have:=z3.out;have:=z4.out;have:=z5.out;have:=y6.out;have:=z6.out;have:=z7.out;have:=y8.out;have:=z8.out;have:=z9.out;have:=y10.out;have:=z10.out;have:=z11.out;have:=z13.out;have:=z15.out;have:=z16.out;have:=z17.out;have:=z18.out;have:=hBW.out;omega))
  have KG19:=hide (KG18.out.othM hO (by have:=z0z.out;have:=z2.out;have:=z3.out;have:=z4.out;have:=z5.out;have:=y6.out;have:=z6.out;have:=z7.out;have:=y8.out;have:=z8.out;have:=z9.out;have:=y10.out;have:=z10.out;have:=z11.out;have:=z13.out;have:=z15.out;have:=z16.out;have:=z17.out;have:=z18.out;have:=hBW.out;omega))
  have hm19:Below w4.heap.size w18 w19:=hO.below (fun k hk=>by have:=z0z.out;have:=z2.out;have:=z3.out;have:=z4.out;have:=z5.out;have:=y6.out;have:=z6.out;have:=z7.out;have:=y8.out;have:=z8.out;have:=z9.out;have:=y10.out;have:=z10.out;have:=z11.out;have:=z13.out;have:=z15.out;have:=z16.out;have:=z17.out;have:=z18.out;have:=hBW.out;omega) D18.out.size
  have B19:=hide (B18.out.trans (hm19.mono (by have:=z0z.out;have:=z2.out;have:=z3.out;have:=z4.out;have:=z5.out;have:=y6.out;have:=z6.out;have:=z7.out;have:=y8.out;have:=z8.out;have:=z9.out;have:=y10.out;have:=z10.out;have:=z11.out;have:=z13.out;have:=z15.out;have:=z16.out;have:=z17.out;have:=z18.out;have:=hBW.out;omega)))
  have D19:=hide (D18.out.trans hm19)
  have z19:=hide hO.size
  clear RA18 KA18 RP18 KP18 RW18 KW18 RX18 KX18 RY18 KY18 RG18 KG18 B18 D18 hm19 
  have RA19:=hide (blk_range KA19.out)
  have RP19:=hide (blk_range KP19.out)
  have RW19:=hide (blk_range KW19.out)
  have RX19:=hide (blk_range KX19.out)
  have RY19:=hide (blk_range KY19.out)
  have RG19:=hide (blk_range KG19.out)
  have DM19:=hide oM.rd
  clear hO C19 oM
  have C20:=hide (HHr.out uG w19 DM19.out)
  rw [ecG.out] at C20
  go_wp2_with (first
    | (refine wpList_load_mid rfl 51 _ rfl w.heap.size 0 rfl ca _ RA19.out Tryz.underlying51 rfl IA.out ?_)
    | (refine wpList_load_mid rfl 60 _ rfl (w.heap.size+1) 0 rfl cp _ RP19.out Tryz.underlying60 rfl IPp.out ?_)
    | (refine wpList_load_mid rfl 35 _ rfl BW 0 rfl cW _ RW19.out Tryz.underlying35 rfl IW.out ?_)
    | (refine wpList_load_mid rfl 66 _ rfl w5.heap.size 0 rfl cX _ RX19.out Tryz.underlying66 rfl IX.out ?_)
    | (refine wpList_load_mid rfl 73 _ rfl w7.heap.size 0 rfl cY _ RY19.out Tryz.underlying73 rfl IY.out ?_)
    | (refine wpList_load_mid rfl 35 _ rfl w9.heap.size 0 rfl cG _ RG19.out Tryz.underlying35 rfl IG.out ?_)
    | fail)
  refine C20.out.mono ?_
  rintro e w20 ⟨rfl,hb20⟩
  have KA20:=hide (KA19.out.below hb20 KA19.out.lt)
  have KP20:=hide (KP19.out.below hb20 KP19.out.lt)
  have KW20:=hide (KW19.out.below hb20 KW19.out.lt)
  have KX20:=hide (KX19.out.below hb20 KX19.out.lt)
  have KY20:=hide (KY19.out.below hb20 KY19.out.lt)
  have KG20:=hide (KG19.out.below hb20 KG19.out.lt)
  have B20:=hide (B19.out.trans (hb20.mono B19.out.size))
  have z20:=hide hb20.size
  have D20:=hide (D19.out.trans (hb20.mono D19.out.size))
  have DM20:=hide (DM19.out.below hb20 (Nat.le_refl _))
  clear RA19 KA19 RP19 KP19 RW19 KW19 RX19 KX19 RY19 KY19 RG19 KG19 B19 D19 DM19 hb20
  have RA20:=hide (blk_range KA20.out)
  have RP20:=hide (blk_range KP20.out)
  have RW20:=hide (blk_range KW20.out)
  have RX20:=hide (blk_range KX20.out)
  have RY20:=hide (blk_range KY20.out)
  have RG20:=hide (blk_range KG20.out)
  clear C20
  go_upto_region 31 with (first
    | (refine wpList_load_mid rfl 51 _ rfl w.heap.size 0 rfl ca _ RA20.out Tryz.underlying51 rfl IA.out ?_)
    | (refine wpList_load_mid rfl 60 _ rfl (w.heap.size+1) 0 rfl cp _ RP20.out Tryz.underlying60 rfl IPp.out ?_)
    | (refine wpList_load_mid rfl 35 _ rfl BW 0 rfl cW _ RW20.out Tryz.underlying35 rfl IW.out ?_)
    | (refine wpList_load_mid rfl 66 _ rfl w5.heap.size 0 rfl cX _ RX20.out Tryz.underlying66 rfl IX.out ?_)
    | (refine wpList_load_mid rfl 73 _ rfl w7.heap.size 0 rfl cY _ RY20.out Tryz.underlying73 rfl IY.out ?_)
    | (refine wpList_load_mid rfl 35 _ rfl w9.heap.size 0 rfl cG _ RG20.out Tryz.underlying35 rfl IG.out ?_)
    | fail)
  have HSd:=hide (fun V (hV:Below w20.heap.size w20 V)=>(show V.rangeAt w.heap.size 0 ca/\V.rangeAt (w.heap.size+1) 0 cp from ⟨range_below RA20.out hV KA20.out.lt,range_below RP20.out hV KP20.out.lt⟩))
  have HBd:=hide (fun V (hV:Below w20.heap.size w20 V)=>(B20.out.trans (hV.mono B20.out.size)))
  go_cut [15,16] from 17 (fun sp sb wc=>∃ (B:Nat) (u:Value),sp=.pointer (some ⟨B,0,none⟩)/\sb=.int .i64 QB/\Blk wc B 35 (clC QE u)/\RdV wc u QL/\w20.heap.size<=B/\Below w20.heap.size w20 wc)
  case first =>
    have bD:Below w20.heap.size w20 w20.drew:=(Below.refl _ w20).drew
    have hS0:=HSd.out _ bD
    refine wp_region_held_drew (S:=fun W=>W.rangeAt w.heap.size 0 ca/\W.rangeAt (w.heap.size+1) 0 cp) (by kernel_rfl) hS0 (fun hHeld=>?_)
    refine wpAnyH_take (i:=0) (v:=.agg ca.toArray) rfl (by kernel_rfl) (by kernel_rfl) (by kernel_rfl) (fun _ _ _ h=>h) (yieldsIf_load_mid (by rfl) 51 _ rfl w.heap.size 0 rfl ca _ (fun W hW=>hW.1) Tryz.underlying51 rfl IA.out) (by assumption) ?_
    change wpAnyH Tryz.prog _ _ _ _ _ _ (Act.put _ (some 95) _) _
    simp only [Act.put,List.setIfInBounds_toArray,List.set_cons_zero,List.set_cons_succ]
    refine wpAnyH_take (i:=2) (v:=.agg cp.toArray) rfl (by kernel_rfl) (by kernel_rfl) (by kernel_rfl) (fun _ _ _ h=>h) (yieldsIf_load_mid (by rfl) 60 _ rfl (w.heap.size+1) 0 rfl cp _ (fun W hW=>hW.2) Tryz.underlying60 rfl IPp.out) (by assumption) ?_
    change wpAnyH Tryz.prog _ _ _ _ _ _ (Act.put _ (some 97) _) _
    simp only [Act.put,List.setIfInBounds_toArray,List.set_cons_zero,List.set_cons_succ]
    refine wpAnyH_ready (rs:=[1,8]) (by kernel_rfl) (by simp) ?_
    refine AllReadyH.cons rfl (fun K hK=>?_) (AllReadyH.cons rfl (fun K hK=>?_) AllReadyH.nil)
    · skip
      go_simp
      go_wp2_with (go_at_call 26;(with_reducible refine (HTc.out _ (HBd.out _ bD)).mono ?_);rintro e v0 ⟨uc,rfl,oc,hb0⟩;obtain ⟨cc,hcc⟩:∃ c,clC a0 uc=c:=⟨_,rfl⟩;have ec:lgV a0 uc=.agg cc.toArray:=(by rw [<- hcc];rfl);rw [ec];have bc0:=bD.trans (hb0.mono bD.size);have rc0:=oc.rd;have hS0:=HSd.out _ bc0)
      refine hK.out _ _ hS0 (fun hHeld=>?_)
      try simp only [Act.put,List.setIfInBounds_toArray,List.set_cons_zero,List.set_cons_succ]
      refine wpAnyH_ready (rs:=[3,8]) (by kernel_rfl) (by simp) ?_
      refine AllReadyH.cons rfl (fun K hK=>?_) (AllReadyH.cons rfl (fun K hK=>?_) AllReadyH.nil)
      · skip
        go_simp
        go_wp2_with (go_at_call 19;(with_reducible refine (HTp.out _ (HBd.out _ bc0)).mono ?_);rintro e v1 ⟨up,rfl,op,hb1⟩;obtain ⟨cq,hcq⟩:∃ c,noC z1 up=c:=⟨_,rfl⟩;have ep:noV z1 up=.agg cq.toArray:=(by rw [<- hcq];rfl);rw [ep];have bc1:=bc0.trans (hb1.mono bc0.size);have rp1:=op.rd;have rc1:=rc0.below hb1 (Nat.le_refl _);have hS1:=HSd.out _ bc1)
        refine hK.out _ _ hS1 (fun hHeld=>?_)
        try simp only [Act.put,List.setIfInBounds_toArray,List.set_cons_zero,List.set_cons_succ]
        refine wpAnyH_ready (rs:=[4,8]) (by kernel_rfl) (by simp) ?_
        refine AllReadyH.cons rfl (fun K hK=>?_) (AllReadyH.cons rfl (fun K hK=>?_) AllReadyH.nil)
        · skip
          go_simp
          have CF:=hide (HI.out uc up v1 rc1 rp1)
          rw [ec,ep] at CF
          go_wp2_with (go_at_call 27;(with_reducible refine CF.out.mono ?_);rintro e v2 ⟨uF,rfl,oF,hb2⟩;obtain ⟨cF,hcF⟩:∃ c,clC QE uF=c:=⟨_,rfl⟩;have eF:lgV QE uF=.agg cF.toArray:=(by rw [<- hcF];rfl);rw [eF];have bc2:=bc1.trans (hb2.mono bc1.size);have hS2:=HSd.out _ bc2)
          refine hK.out _ _ hS2 (fun hHeld=>?_)
          try simp only [Act.put,List.setIfInBounds_toArray,List.set_cons_zero,List.set_cons_succ]
          refine wpAnyH_take (i:=5) (v:=.tuple #[.agg cF.toArray,.int .i64 QB]) rfl (by kernel_rfl) (by kernel_rfl) (by kernel_rfl) (fun _ _ _ h=>h) (Or.inl ⟨by rfl,fun W hW=>by go_simp⟩) (by assumption) ?_
          change wpAnyH Tryz.prog _ _ _ _ _ _ (Act.put _ (some 94) _) _
          simp only [Act.put,List.setIfInBounds_toArray,List.set_cons_zero,List.set_cons_succ]
          refine wpAnyH_take (i:=6) (v:=.agg cF.toArray) rfl (by kernel_rfl) (by kernel_rfl) (by kernel_rfl) (fun _ _ _ h=>h) (Or.inl ⟨by rfl,fun W hW=>by go_simp⟩) (by assumption) ?_
          change wpAnyH Tryz.prog _ _ _ _ _ _ (Act.put _ (some 100) _) _
          simp only [Act.put,List.setIfInBounds_toArray,List.set_cons_zero,List.set_cons_succ]
          refine wpAnyH_take (i:=7) (v:=.int .i64 QB) rfl (by kernel_rfl) (by kernel_rfl) (by kernel_rfl) (fun _ _ _ h=>h) (Or.inl ⟨by rfl,fun W hW=>by go_simp⟩) (by assumption) ?_
          change wpAnyH Tryz.prog _ _ _ _ _ _ (Act.put _ (some 101) _) _
          simp only [Act.put,List.setIfInBounds_toArray,List.set_cons_zero,List.set_cons_succ]
          refine wpAnyH_ready (rs:=[8]) (by kernel_rfl) (by simp) ?_
          refine AllReadyH.cons rfl (fun K hK=>?_) AllReadyH.nil
          go_simp
          have nby:Blk (v2.alloc (.cells #[.int .i64 0,.slice none 0 0] 35)) v2.heap.size 35 [.int .i64 0,.slice none 0 0]:=Blk.new v2 _ _
          have bay:Below w20.heap.size w20 (v2.alloc (.cells #[.int .i64 0,.slice none 0 0] 35)):=bc2.alloc bc2.size _
          have bly:Below v2.heap.size v2 (v2.alloc (.cells #[.int .i64 0,.slice none 0 0] 35)):=(Below.refl _ v2).alloc (Nat.le_refl _) _
          refine hK.out _ _ (HSd.out _ bay) (fun hHeld=>?_)
          try simp only [Act.put,List.setIfInBounds_toArray,List.set_cons_zero,List.set_cons_succ]
          have hlB:w20.heap.size<=v2.heap.size:=bc2.size
          have one9:cF.toArray.all (·.oneCell')=true:=by rw [List.all_toArray,<- hcF];exact clC_one oF.rd
          have inf9:(Tryz.prog.info? 35).map (·.size)=some cF.toArray.size:=by rw [List.size_toArray,<- hcF];exact Tryz.infoC2
          have len9:([.int .i64 0,.slice none 0 0]:List Value).length=cF.length:=by rw [<- hcF];rfl
          have b9:Below w20.heap.size w20 ((v2.alloc (.cells #[.int .i64 0,.slice none 0 0] 35)).setCells (v2.heap.size) 0 cF):=bay.trans (putC_below hlB _ _ _)
          have hS9:=HSd.out _ b9
          refine wpAnyH_ready (rs:=[9]) (by kernel_rfl) (by simp) ?_
          refine AllReadyH.cons rfl (fun K hK=>?_) AllReadyH.nil
          refine wp_store_mid 35 _ _ rfl (v2.heap.size) 0 cF.toArray rfl rfl (nby.there (by rw [List.size_toArray,<- hcF];rfl)) inf9 one9 ?_
          refine hK.out _ _ hS9 (fun hHeld=>?_)
          try simp only [Act.put,List.setIfInBounds_toArray,List.set_cons_zero,List.set_cons_succ]
          refine wpAnyH_take (i:=10) (v:=.int .i64 QB) rfl (by kernel_rfl) (by kernel_rfl) (by kernel_rfl) (fun _ _ _ h=>h) (Or.inl ⟨by rfl,fun W hW=>by go_simp⟩) (by assumption) ?_
          change wpAnyH Tryz.prog _ _ _ _ _ _ (Act.put _ (some 16) _) _
          simp only [Act.put,List.setIfInBounds_toArray,List.set_cons_zero,List.set_cons_succ]
          refine wpAnyH_done (by kernel_rfl) ?_ _
          go_wp2_with fail
          go_meet
          case rel=>exact ⟨v2.heap.size,uF,rfl,rfl,by rw [hcF];exact blk_all nby len9,((oF.oc.kept (Kept.of_below bly (Nat.le_refl _))).kept (Kept.setCs _ 0 cF (.inr (Nat.le_refl _)))).rd,hlB,b9⟩
        · skip
          go_simp
          have nb2z:Blk (v1.alloc (.cells #[.int .i64 0,.slice none 0 0] 35)) v1.heap.size 35 [.int .i64 0,.slice none 0 0]:=Blk.new v1 _ _
          have ba2z:Below w20.heap.size w20 (v1.alloc (.cells #[.int .i64 0,.slice none 0 0] 35)):=bc1.alloc bc1.size _
          have bl2z:Below v1.heap.size v1 (v1.alloc (.cells #[.int .i64 0,.slice none 0 0] 35)):=(Below.refl _ v1).alloc (Nat.le_refl _) _
          refine hK.out _ _ (HSd.out _ ba2z) (fun hHeld=>?_)
          try simp only [Act.put,List.setIfInBounds_toArray,List.set_cons_zero,List.set_cons_succ]
          have rcz:=rc1.below bl2z (Nat.le_refl _)
          have rpz:=rp1.below bl2z (Nat.le_refl _)
          refine wpAnyH_ready (rs:=[4]) (by kernel_rfl) (by simp) ?_
          refine AllReadyH.cons rfl (fun K hK=>?_) AllReadyH.nil
          go_simp
          have CF:=hide (HI.out uc up (v1.alloc (.cells #[.int .i64 0,.slice none 0 0] 35)) rcz rpz)
          rw [ec,ep] at CF
          go_wp2_with (go_at_call 27;(with_reducible refine CF.out.mono ?_);rintro e v2a ⟨uF,rfl,oF,hb2a⟩;obtain ⟨cF,hcF⟩:∃ c,clC QE uF=c:=⟨_,rfl⟩;have eF:lgV QE uF=.agg cF.toArray:=(by rw [<- hcF];rfl);rw [eF];have bc2a:=ba2z.trans (hb2a.mono ba2z.size);have hS2a:=HSd.out _ bc2a;have nk2a:=nb2z.below hb2a nb2z.lt)
          refine hK.out _ _ hS2a (fun hHeld=>?_)
          try simp only [Act.put,List.setIfInBounds_toArray,List.set_cons_zero,List.set_cons_succ]
          refine wpAnyH_take (i:=5) (v:=.tuple #[.agg cF.toArray,.int .i64 QB]) rfl (by kernel_rfl) (by kernel_rfl) (by kernel_rfl) (fun _ _ _ h=>h) (Or.inl ⟨by rfl,fun W hW=>by go_simp⟩) (by assumption) ?_
          change wpAnyH Tryz.prog _ _ _ _ _ _ (Act.put _ (some 94) _) _
          simp only [Act.put,List.setIfInBounds_toArray,List.set_cons_zero,List.set_cons_succ]
          refine wpAnyH_take (i:=6) (v:=.agg cF.toArray) rfl (by kernel_rfl) (by kernel_rfl) (by kernel_rfl) (fun _ _ _ h=>h) (Or.inl ⟨by rfl,fun W hW=>by go_simp⟩) (by assumption) ?_
          change wpAnyH Tryz.prog _ _ _ _ _ _ (Act.put _ (some 100) _) _
          simp only [Act.put,List.setIfInBounds_toArray,List.set_cons_zero,List.set_cons_succ]
          refine wpAnyH_take (i:=7) (v:=.int .i64 QB) rfl (by kernel_rfl) (by kernel_rfl) (by kernel_rfl) (fun _ _ _ h=>h) (Or.inl ⟨by rfl,fun W hW=>by go_simp⟩) (by assumption) ?_
          change wpAnyH Tryz.prog _ _ _ _ _ _ (Act.put _ (some 101) _) _
          simp only [Act.put,List.setIfInBounds_toArray,List.set_cons_zero,List.set_cons_succ]
          have hlB:w20.heap.size<=v1.heap.size:=bc1.size
          have one9:cF.toArray.all (·.oneCell')=true:=by rw [List.all_toArray,<- hcF];exact clC_one oF.rd
          have inf9:(Tryz.prog.info? 35).map (·.size)=some cF.toArray.size:=by rw [List.size_toArray,<- hcF];exact Tryz.infoC2
          have len9:([.int .i64 0,.slice none 0 0]:List Value).length=cF.length:=by rw [<- hcF];rfl
          have b9:Below w20.heap.size w20 (v2a.setCells (v1.heap.size) 0 cF):=bc2a.trans (putC_below hlB _ _ _)
          have hS9:=HSd.out _ b9
          refine wpAnyH_ready (rs:=[9]) (by kernel_rfl) (by simp) ?_
          refine AllReadyH.cons rfl (fun K hK=>?_) AllReadyH.nil
          refine wp_store_mid 35 _ _ rfl (v1.heap.size) 0 cF.toArray rfl rfl (nk2a.there (by rw [List.size_toArray,<- hcF];rfl)) inf9 one9 ?_
          refine hK.out _ _ hS9 (fun hHeld=>?_)
          try simp only [Act.put,List.setIfInBounds_toArray,List.set_cons_zero,List.set_cons_succ]
          refine wpAnyH_take (i:=10) (v:=.int .i64 QB) rfl (by kernel_rfl) (by kernel_rfl) (by kernel_rfl) (fun _ _ _ h=>h) (Or.inl ⟨by rfl,fun W hW=>by go_simp⟩) (by assumption) ?_
          change wpAnyH Tryz.prog _ _ _ _ _ _ (Act.put _ (some 16) _) _
          simp only [Act.put,List.setIfInBounds_toArray,List.set_cons_zero,List.set_cons_succ]
          refine wpAnyH_done (by kernel_rfl) ?_ _
          go_wp2_with fail
          go_meet
          case rel=>exact ⟨v1.heap.size,uF,rfl,rfl,by rw [hcF];exact blk_all nk2a len9,(oF.oc.kept (Kept.setCs _ 0 cF (.inl nb2z.lt))).rd,hlB,b9⟩
      · skip
        go_simp
        have nb1z:Blk (v0.alloc (.cells #[.int .i64 0,.slice none 0 0] 35)) v0.heap.size 35 [.int .i64 0,.slice none 0 0]:=Blk.new v0 _ _
        have ba1z:Below w20.heap.size w20 (v0.alloc (.cells #[.int .i64 0,.slice none 0 0] 35)):=bc0.alloc bc0.size _
        have bl1z:Below v0.heap.size v0 (v0.alloc (.cells #[.int .i64 0,.slice none 0 0] 35)):=(Below.refl _ v0).alloc (Nat.le_refl _) _
        refine hK.out _ _ (HSd.out _ ba1z) (fun hHeld=>?_)
        try simp only [Act.put,List.setIfInBounds_toArray,List.set_cons_zero,List.set_cons_succ]
        have rcz:=rc0.below bl1z (Nat.le_refl _)
        refine wpAnyH_ready (rs:=[3]) (by kernel_rfl) (by simp) ?_
        refine AllReadyH.cons rfl (fun K hK=>?_) AllReadyH.nil
        go_simp
        go_wp2_with (go_at_call 19;(with_reducible refine (HTp.out _ (HBd.out _ ba1z)).mono ?_);rintro e v1a ⟨up,rfl,op,hb1a⟩;obtain ⟨cq,hcq⟩:∃ c,noC z1 up=c:=⟨_,rfl⟩;have ep:noV z1 up=.agg cq.toArray:=(by rw [<- hcq];rfl);rw [ep];have bc1a:=ba1z.trans (hb1a.mono ba1z.size);have rp1a:=op.rd;have rc1a:=rcz.below hb1a (Nat.le_refl _);have hS1a:=HSd.out _ bc1a;have nk1a:=nb1z.below hb1a nb1z.lt)
        refine hK.out _ _ hS1a (fun hHeld=>?_)
        try simp only [Act.put,List.setIfInBounds_toArray,List.set_cons_zero,List.set_cons_succ]
        refine wpAnyH_ready (rs:=[4]) (by kernel_rfl) (by simp) ?_
        refine AllReadyH.cons rfl (fun K hK=>?_) AllReadyH.nil
        go_simp
        have CF:=hide (HI.out uc up v1a rc1a rp1a)
        rw [ec,ep] at CF
        go_wp2_with (go_at_call 27;(with_reducible refine CF.out.mono ?_);rintro e v2a ⟨uF,rfl,oF,hb2a⟩;obtain ⟨cF,hcF⟩:∃ c,clC QE uF=c:=⟨_,rfl⟩;have eF:lgV QE uF=.agg cF.toArray:=(by rw [<- hcF];rfl);rw [eF];have bc2a:=bc1a.trans (hb2a.mono bc1a.size);have hS2a:=HSd.out _ bc2a;have nk2a:=nk1a.below hb2a nk1a.lt)
        refine hK.out _ _ hS2a (fun hHeld=>?_)
        try simp only [Act.put,List.setIfInBounds_toArray,List.set_cons_zero,List.set_cons_succ]
        refine wpAnyH_take (i:=5) (v:=.tuple #[.agg cF.toArray,.int .i64 QB]) rfl (by kernel_rfl) (by kernel_rfl) (by kernel_rfl) (fun _ _ _ h=>h) (Or.inl ⟨by rfl,fun W hW=>by go_simp⟩) (by assumption) ?_
        change wpAnyH Tryz.prog _ _ _ _ _ _ (Act.put _ (some 94) _) _
        simp only [Act.put,List.setIfInBounds_toArray,List.set_cons_zero,List.set_cons_succ]
        refine wpAnyH_take (i:=6) (v:=.agg cF.toArray) rfl (by kernel_rfl) (by kernel_rfl) (by kernel_rfl) (fun _ _ _ h=>h) (Or.inl ⟨by rfl,fun W hW=>by go_simp⟩) (by assumption) ?_
        change wpAnyH Tryz.prog _ _ _ _ _ _ (Act.put _ (some 100) _) _
        simp only [Act.put,List.setIfInBounds_toArray,List.set_cons_zero,List.set_cons_succ]
        refine wpAnyH_take (i:=7) (v:=.int .i64 QB) rfl (by kernel_rfl) (by kernel_rfl) (by kernel_rfl) (fun _ _ _ h=>h) (Or.inl ⟨by rfl,fun W hW=>by go_simp⟩) (by assumption) ?_
        change wpAnyH Tryz.prog _ _ _ _ _ _ (Act.put _ (some 101) _) _
        simp only [Act.put,List.setIfInBounds_toArray,List.set_cons_zero,List.set_cons_succ]
        have hlB:w20.heap.size<=v0.heap.size:=bc0.size
        have one9:cF.toArray.all (·.oneCell')=true:=by rw [List.all_toArray,<- hcF];exact clC_one oF.rd
        have inf9:(Tryz.prog.info? 35).map (·.size)=some cF.toArray.size:=by rw [List.size_toArray,<- hcF];exact Tryz.infoC2
        have len9:([.int .i64 0,.slice none 0 0]:List Value).length=cF.length:=by rw [<- hcF];rfl
        have b9:Below w20.heap.size w20 (v2a.setCells (v0.heap.size) 0 cF):=bc2a.trans (putC_below hlB _ _ _)
        have hS9:=HSd.out _ b9
        refine wpAnyH_ready (rs:=[9]) (by kernel_rfl) (by simp) ?_
        refine AllReadyH.cons rfl (fun K hK=>?_) AllReadyH.nil
        refine wp_store_mid 35 _ _ rfl (v0.heap.size) 0 cF.toArray rfl rfl (nk2a.there (by rw [List.size_toArray,<- hcF];rfl)) inf9 one9 ?_
        refine hK.out _ _ hS9 (fun hHeld=>?_)
        try simp only [Act.put,List.setIfInBounds_toArray,List.set_cons_zero,List.set_cons_succ]
        refine wpAnyH_take (i:=10) (v:=.int .i64 QB) rfl (by kernel_rfl) (by kernel_rfl) (by kernel_rfl) (fun _ _ _ h=>h) (Or.inl ⟨by rfl,fun W hW=>by go_simp⟩) (by assumption) ?_
        change wpAnyH Tryz.prog _ _ _ _ _ _ (Act.put _ (some 16) _) _
        simp only [Act.put,List.setIfInBounds_toArray,List.set_cons_zero,List.set_cons_succ]
        refine wpAnyH_done (by kernel_rfl) ?_ _
        go_wp2_with fail
        go_meet
        case rel=>exact ⟨v0.heap.size,uF,rfl,rfl,by rw [hcF];exact blk_all nk2a len9,(oF.oc.kept (Kept.setCs _ 0 cF (.inl nk1a.lt))).rd,hlB,b9⟩
    · skip
      go_simp
      have nb0z:Blk (w20.alloc (.cells #[.int .i64 0,.slice none 0 0] 35)).drew w20.heap.size 35 [.int .i64 0,.slice none 0 0]:=Blk.new w20 _ _
      have ba0z:Below w20.heap.size w20 (w20.alloc (.cells #[.int .i64 0,.slice none 0 0] 35)).drew:=((Below.refl _ w20).alloc (Nat.le_refl _) _).drew
      refine hK.out _ _ (HSd.out _ ba0z) (fun hHeld=>?_)
      try simp only [Act.put,List.setIfInBounds_toArray,List.set_cons_zero,List.set_cons_succ]
      refine wpAnyH_ready (rs:=[1]) (by kernel_rfl) (by simp) ?_
      refine AllReadyH.cons rfl (fun K hK=>?_) AllReadyH.nil
      go_simp
      go_wp2_with (go_at_call 26;(with_reducible refine (HTc.out _ (HBd.out _ ba0z)).mono ?_);rintro e v0a ⟨uc,rfl,oc,hb0a⟩;obtain ⟨cc,hcc⟩:∃ c,clC a0 uc=c:=⟨_,rfl⟩;have ec:lgV a0 uc=.agg cc.toArray:=(by rw [<- hcc];rfl);rw [ec];have bc0a:=ba0z.trans (hb0a.mono ba0z.size);have rc0a:=oc.rd;have hS0a:=HSd.out _ bc0a;have nk0a:=nb0z.below hb0a nb0z.lt)
      refine hK.out _ _ hS0a (fun hHeld=>?_)
      try simp only [Act.put,List.setIfInBounds_toArray,List.set_cons_zero,List.set_cons_succ]
      refine wpAnyH_ready (rs:=[3]) (by kernel_rfl) (by simp) ?_
      refine AllReadyH.cons rfl (fun K hK=>?_) AllReadyH.nil
      go_simp
      go_wp2_with (go_at_call 19;(with_reducible refine (HTp.out _ (HBd.out _ bc0a)).mono ?_);rintro e v1a ⟨up,rfl,op,hb1a⟩;obtain ⟨cq,hcq⟩:∃ c,noC z1 up=c:=⟨_,rfl⟩;have ep:noV z1 up=.agg cq.toArray:=(by rw [<- hcq];rfl);rw [ep];have bc1a:=bc0a.trans (hb1a.mono bc0a.size);have rp1a:=op.rd;have rc1a:=rc0a.below hb1a (Nat.le_refl _);have hS1a:=HSd.out _ bc1a;have nk1a:=nk0a.below hb1a nk0a.lt)
      refine hK.out _ _ hS1a (fun hHeld=>?_)
      try simp only [Act.put,List.setIfInBounds_toArray,List.set_cons_zero,List.set_cons_succ]
      refine wpAnyH_ready (rs:=[4]) (by kernel_rfl) (by simp) ?_
      refine AllReadyH.cons rfl (fun K hK=>?_) AllReadyH.nil
      go_simp
      have CF:=hide (HI.out uc up v1a rc1a rp1a)
      rw [ec,ep] at CF
      go_wp2_with (go_at_call 27;(with_reducible refine CF.out.mono ?_);rintro e v2a ⟨uF,rfl,oF,hb2a⟩;obtain ⟨cF,hcF⟩:∃ c,clC QE uF=c:=⟨_,rfl⟩;have eF:lgV QE uF=.agg cF.toArray:=(by rw [<- hcF];rfl);rw [eF];have bc2a:=bc1a.trans (hb2a.mono bc1a.size);have hS2a:=HSd.out _ bc2a;have nk2a:=nk1a.below hb2a nk1a.lt)
      refine hK.out _ _ hS2a (fun hHeld=>?_)
      try simp only [Act.put,List.setIfInBounds_toArray,List.set_cons_zero,List.set_cons_succ]
      refine wpAnyH_take (i:=5) (v:=.tuple #[.agg cF.toArray,.int .i64 QB]) rfl (by kernel_rfl) (by kernel_rfl) (by kernel_rfl) (fun _ _ _ h=>h) (Or.inl ⟨by rfl,fun W hW=>by go_simp⟩) (by assumption) ?_
      change wpAnyH Tryz.prog _ _ _ _ _ _ (Act.put _ (some 94) _) _
      simp only [Act.put,List.setIfInBounds_toArray,List.set_cons_zero,List.set_cons_succ]
      refine wpAnyH_take (i:=6) (v:=.agg cF.toArray) rfl (by kernel_rfl) (by kernel_rfl) (by kernel_rfl) (fun _ _ _ h=>h) (Or.inl ⟨by rfl,fun W hW=>by go_simp⟩) (by assumption) ?_
      change wpAnyH Tryz.prog _ _ _ _ _ _ (Act.put _ (some 100) _) _
      simp only [Act.put,List.setIfInBounds_toArray,List.set_cons_zero,List.set_cons_succ]
      refine wpAnyH_take (i:=7) (v:=.int .i64 QB) rfl (by kernel_rfl) (by kernel_rfl) (by kernel_rfl) (fun _ _ _ h=>h) (Or.inl ⟨by rfl,fun W hW=>by go_simp⟩) (by assumption) ?_
      change wpAnyH Tryz.prog _ _ _ _ _ _ (Act.put _ (some 101) _) _
      simp only [Act.put,List.setIfInBounds_toArray,List.set_cons_zero,List.set_cons_succ]
      have hlB:w20.heap.size<=w20.heap.size:=Nat.le_refl _
      have one9:cF.toArray.all (·.oneCell')=true:=by rw [List.all_toArray,<- hcF];exact clC_one oF.rd
      have inf9:(Tryz.prog.info? 35).map (·.size)=some cF.toArray.size:=by rw [List.size_toArray,<- hcF];exact Tryz.infoC2
      have len9:([.int .i64 0,.slice none 0 0]:List Value).length=cF.length:=by rw [<- hcF];rfl
      have b9:Below w20.heap.size w20 (v2a.setCells (w20.heap.size) 0 cF):=bc2a.trans (putC_below hlB _ _ _)
      have hS9:=HSd.out _ b9
      refine wpAnyH_ready (rs:=[9]) (by kernel_rfl) (by simp) ?_
      refine AllReadyH.cons rfl (fun K hK=>?_) AllReadyH.nil
      refine wp_store_mid 35 _ _ rfl (w20.heap.size) 0 cF.toArray rfl rfl (nk2a.there (by rw [List.size_toArray,<- hcF];rfl)) inf9 one9 ?_
      refine hK.out _ _ hS9 (fun hHeld=>?_)
      try simp only [Act.put,List.setIfInBounds_toArray,List.set_cons_zero,List.set_cons_succ]
      refine wpAnyH_take (i:=10) (v:=.int .i64 QB) rfl (by kernel_rfl) (by kernel_rfl) (by kernel_rfl) (fun _ _ _ h=>h) (Or.inl ⟨by rfl,fun W hW=>by go_simp⟩) (by assumption) ?_
      change wpAnyH Tryz.prog _ _ _ _ _ _ (Act.put _ (some 16) _) _
      simp only [Act.put,List.setIfInBounds_toArray,List.set_cons_zero,List.set_cons_succ]
      refine wpAnyH_done (by kernel_rfl) ?_ _
      go_wp2_with fail
      go_meet
      case rel=>exact ⟨w20.heap.size,uF,rfl,rfl,by rw [hcF];exact blk_all nk2a len9,(oF.oc.kept (Kept.setCs _ 0 cF (.inl nk1a.lt))).rd,hlB,b9⟩
  clear HSd HBd
  obtain ⟨w21,rfl⟩:∃ x,x=wc:=⟨_,rfl⟩
  obtain ⟨BH,uH,rfl,rfl,kk,rH,hBH,hb21⟩:=hcut
  have KA21:=hide (KA20.out.below hb21 KA20.out.lt)
  have KP21:=hide (KP20.out.below hb21 KP20.out.lt)
  have KW21:=hide (KW20.out.below hb21 KW20.out.lt)
  have KX21:=hide (KX20.out.below hb21 KX20.out.lt)
  have KY21:=hide (KY20.out.below hb21 KY20.out.lt)
  have KG21:=hide (KG20.out.below hb21 KG20.out.lt)
  have B21:=hide (B20.out.trans (hb21.mono B20.out.size))
  have z21:=hide hb21.size
  have D21:=hide (D20.out.trans (hb21.mono D20.out.size))
  have DM21:=hide (DM20.out.below hb21 (Nat.le_refl _))
  clear RA20 KA20 RP20 KP20 RW20 KW20 RX20 KX20 RY20 KY20 RG20 KG20 B20 D20 DM20 hb21
  have RA21:=hide (blk_range KA21.out)
  have RP21:=hide (blk_range KP21.out)
  have RW21:=hide (blk_range KW21.out)
  have RX21:=hide (blk_range KX21.out)
  have RY21:=hide (blk_range KY21.out)
  have RG21:=hide (blk_range KG21.out)
  obtain ⟨cH,hcH⟩:∃ c,clC QE uH=c:=⟨_,rfl⟩
  have ecH:=hide (show lgV QE uH=.agg cH.toArray from by rw [<- hcH];rfl)
  rw [hcH] at kk
  have KH21:=hide kk
  have IH:=hide (show (Tryz.prog.info? 35).map (·.size)=some cH.length from by rw [<- hcH];exact Tryz.infoC2)
  clear kk
  have RH21:=hide (blk_range KH21.out)
  have C22:=hide (HEr.out uH uW w21 rH (RW.out.below D21.out (Nat.le_refl _)))
  rw [ecH.out,ecW.out] at C22
  clear rH hcH hBH
  go_wp2_with (first
    | (refine wpList_load_mid rfl 51 _ rfl w.heap.size 0 rfl ca _ RA21.out Tryz.underlying51 rfl IA.out ?_)
    | (refine wpList_load_mid rfl 60 _ rfl (w.heap.size+1) 0 rfl cp _ RP21.out Tryz.underlying60 rfl IPp.out ?_)
    | (refine wpList_load_mid rfl 35 _ rfl BW 0 rfl cW _ RW21.out Tryz.underlying35 rfl IW.out ?_)
    | (refine wpList_load_mid rfl 66 _ rfl w5.heap.size 0 rfl cX _ RX21.out Tryz.underlying66 rfl IX.out ?_)
    | (refine wpList_load_mid rfl 73 _ rfl w7.heap.size 0 rfl cY _ RY21.out Tryz.underlying73 rfl IY.out ?_)
    | (refine wpList_load_mid rfl 35 _ rfl w9.heap.size 0 rfl cG _ RG21.out Tryz.underlying35 rfl IG.out ?_)
    | (refine wpList_load_mid rfl 35 _ rfl BH 0 rfl cH _ RH21.out Tryz.underlying35 rfl IH.out ?_)
    | fail)
  refine C22.out.mono ?_
  rintro e w22 ⟨rfl,hb22⟩
  have KA22:=hide (KA21.out.below hb22 KA21.out.lt)
  have KP22:=hide (KP21.out.below hb22 KP21.out.lt)
  have KW22:=hide (KW21.out.below hb22 KW21.out.lt)
  have KX22:=hide (KX21.out.below hb22 KX21.out.lt)
  have KY22:=hide (KY21.out.below hb22 KY21.out.lt)
  have KG22:=hide (KG21.out.below hb22 KG21.out.lt)
  have KH22:=hide (KH21.out.below hb22 KH21.out.lt)
  have B22:=hide (B21.out.trans (hb22.mono B21.out.size))
  have z22:=hide hb22.size
  have D22:=hide (D21.out.trans (hb22.mono D21.out.size))
  have DM22:=hide (DM21.out.below hb22 (Nat.le_refl _))
  clear RA21 KA21 RP21 KP21 RW21 KW21 RX21 KX21 RY21 KY21 RG21 KG21 RH21 KH21 B21 D21 DM21 hb22
  have RA22:=hide (blk_range KA22.out)
  have RP22:=hide (blk_range KP22.out)
  have RW22:=hide (blk_range KW22.out)
  have RX22:=hide (blk_range KX22.out)
  have RY22:=hide (blk_range KY22.out)
  have RG22:=hide (blk_range KG22.out)
  have RH22:=hide (blk_range KH22.out)
  clear C22
  have C23:=hide (HHr.out uG w22 DM22.out)
  rw [ecG.out] at C23
  go_wp2_with (first
    | (refine wpList_load_mid rfl 51 _ rfl w.heap.size 0 rfl ca _ RA22.out Tryz.underlying51 rfl IA.out ?_)
    | (refine wpList_load_mid rfl 60 _ rfl (w.heap.size+1) 0 rfl cp _ RP22.out Tryz.underlying60 rfl IPp.out ?_)
    | (refine wpList_load_mid rfl 35 _ rfl BW 0 rfl cW _ RW22.out Tryz.underlying35 rfl IW.out ?_)
    | (refine wpList_load_mid rfl 66 _ rfl w5.heap.size 0 rfl cX _ RX22.out Tryz.underlying66 rfl IX.out ?_)
    | (refine wpList_load_mid rfl 73 _ rfl w7.heap.size 0 rfl cY _ RY22.out Tryz.underlying73 rfl IY.out ?_)
    | (refine wpList_load_mid rfl 35 _ rfl w9.heap.size 0 rfl cG _ RG22.out Tryz.underlying35 rfl IG.out ?_)
    | (refine wpList_load_mid rfl 35 _ rfl BH 0 rfl cH _ RH22.out Tryz.underlying35 rfl IH.out ?_)
    | fail)
  refine C23.out.mono ?_
  rintro e w23 ⟨rfl,hb23⟩
  have B23:=hide (B22.out.trans (hb23.mono B22.out.size))
  clear hb23
  go_wp2
  go_ret
  exact ⟨rfl,B23.out⟩
theorem fnExactFollowAll_lifted (os:Os) (started:os.Started) (H:Type) (enc:TypeId × Value->H) :
    ReturnsInHanded {} Tryz.checked os 5 .any (Rows.fnExactFollowAllSpec.pre6 enc Tryz.prog Tryz.f5 Rows.fnExactFollowAllRow.domain false) (Rows.fnExactFollowAllSpec.post enc Tryz.prog Tryz.f5 false true false false):=by
  refine returnsInHanded_of_change (C:=Tryz.checked) fnExactFollowAll_own started (by kernel_rfl) Tryz.func5
    (ChangeSpec.witness6 (enc:=enc) (C:=Tryz.checked) false ⟨#[],#[.agg #[.int .i64 0,.slice none 0 0],.agg #[.string ByteArray.empty,.int .i64 0,.int .i64 0,.slice none 0 0,.slice none 0 0,.slice none 0 0,.int .i64 0,.int .i64 0,.int .i64 0,.int .i64 0,.slice none 0 0,.int .i64 0,.slice none 0 0,.slice none 0 0,.int .i64 0,.slice none 0 0,.slice none 0 0,.slice none 0 0,.slice none 0 0,.slice none 0 0]],[]⟩ 8 (by kernel_rfl) (by kernel_rfl) (by kernel_rfl) (by kernel_rfl)) ?_
  intro W base args ds gs before hval0 hW hcnd _
  have hval:∀ (j:Nat) t v,Tryz.f5.params[j]?=some t->args[j]?=some v->Value.okWide Tryz.prog W .any base t v:=hval0
  have hW':=hW
  obtain ⟨p,q,hA0,hV,rfl,hfz,hnd⟩:=hW
  have hA:DataW.TrodAll enc Tryz.prog W 0 (fun _=>true) true Tryz.f5.params.toList args.toList ds p:=hA0
  rw [Tryz.params5] at hA hval
  obtain ⟨v0,vs0,d0,ds0,p0,q0,hargs,rfl,rfl,h0,r0⟩:=trodAll_cons hA
  obtain ⟨v1,vs1,d1,ds1,p1,q1,rfl,rfl,rfl,h1,r1⟩:=trodAll_cons r0
  obtain ⟨rfl,rfl,rfl⟩:=trodAll_nil r1
  obtain rfl:args=#[v0,v1]:=by cases args;simp_all
  obtain ⟨rfl,rfl⟩:=trodVars_none hV
  have k0:=h0
  have lt0:∀ x ∈ p0,x.block < W.heap.size:=by obtain ⟨m,hm⟩:=k0;exact DataW.trod_lt m _ _ _ hm
  obtain ⟨a0,y0,z0,rfl,w0⟩:∃ (e:Int) (v:Value) (l:List Ac),v0=lgV e v/\RdA W v l/\l.length<=maxLen/\∀ q ∈ l,q.1.size<=maxLen/\q.2.2.2.2.length<=maxLen:=by
    obtain ⟨cs,rfl,hsz⟩:=okWide_struct Tryz.underlying51 (hval 0 51 _ rfl rfl)
    obtain ⟨fuel,hf⟩:=h0
    obtain ⟨e,v,l,q,r⟩:=open_ledger (by simpa [Value.cells] using hf)
    exact ⟨e,v,l,by cases cs;simp at q;subst q;rfl,r⟩
  have k1:=h1
  have lt1:∀ x ∈ p1,x.block < W.heap.size:=by obtain ⟨m,hm⟩:=k1;exact DataW.trod_lt m _ _ _ hm
  obtain ⟨z1,y1,rfl,w1⟩:∃ (m:Nd) (v:Nv),v1=noV m v/\RdNd W m v/\FitNd m:=by
    obtain ⟨cs,rfl,hsz⟩:=okWide_struct Tryz.underlying60 (hval 1 60 _ rfl rfl)
    obtain ⟨fuel,hf⟩:=h1
    obtain ⟨m,v,q,rest⟩:=open_Nd (by simpa [Value.cells] using hf)
    exact ⟨m,v,by cases cs;simp at q;subst q;rfl,rest⟩
  clear hA0 hval0
  refine (fnExactFollowAll_walk a0 y0 z0 z1 y1 W w0 w1).mono fun e W' ⟨he,bel⟩=>?_
  subst he
  exact ⟨_,rfl,_,_,_,[],_,[],hW',trodAll_mk1 (shut_bool Tryz.underlying4 _),(trodAll_cons_mk (Below.trod fnExactFollowAll_laidOut (by kernel_rfl) (of_decide_eq_true (by kernel_rfl)) k0 bel lt0) (trodAll_cons_mk (Below.trod fnExactFollowAll_laidOut (by kernel_rfl) (of_decide_eq_true (by kernel_rfl)) k1 bel lt1) trodAll_mk0)),rfl,bel.frame _,fun h=>by cases h⟩
theorem fnExactFollowAll_holds:Rows.FnExactFollowAllSaid :=
  OpenClaim.holds_of_wide 5 Tryz.f5 rfl rfl rfl rfl rfl rfl rfl ⟨rfl,rfl,rfl,rfl,rfl⟩ rfl rfl rfl rfl rfl (by kernel_rfl) Tryz.func5 (by kernel_rfl)
    (of_decide_eq_true (by kernel_rfl)) (by unfold Func.isWrapper;first | (rw [if_pos (by decide +kernel)];kernel_rfl) | (rw [if_neg (by decide +kernel)];exact ⟨rfl,rfl⟩))
    (fun os started H enc _=>fnExactFollowAll_lifted os started H enc)
end Go.Proofs.YtaidhenkijjcfaaGreat
