/- At all nodes and epochs ProofOf of the program answers as the model's ProofOf, field by field, and the same bool; it writes into no argument and keeps nothing of one; its answer owns its memory: the law FnExactProofOf returns true, with no condition. -/
import Derived.Test.YtaidhenkijjcfaaGreatZoPfMk1
import Derived.Test.YtaidhenkijjcfaaGreatZoNdReb
import Derived.Test.YtaidhenkijjcfaaGreatZoNdEq
import Derived.Below
set_option maxRecDepth 100000
set_option maxHeartbeats 8000000
namespace Go.Proofs.YtaidhenkijjcfaaGreat
set_option linter.unusedVariables false
theorem totM_le5 (l:List Bk):totM l<=9 * l.length+5 * totK l:=by
  unfold totM totK
  induction l with
  | nil=>simp
  | cons b l ih=>simp only [List.map_cons,List.sum_cons,List.length_cons,mkN,wgK] at ih ⊢;omega
theorem nxs_le (l:List Ac):∀ k,nxs k l<=k+4 * l.length+2 * totA l:=by
  unfold totA
  induction l with
  | nil=>intro k;simp [nxs]
  | cons a l ih=>intro k;have:=ih (nx k a);simp only [nxs,List.map_cons,List.sum_cons,List.length_cons,wgA];unfold nx at this ⊢;omega
theorem nxG_le9 (l:List Pf):∀ k,nxG nxPf k l<=k+3 * l.length+9 * totG wgPf l:=by
  unfold totG
  induction l with
  | nil=>intro k;simp [nxG]
  | cons a l ih=>intro k;have:=ih (nxPf k a);have h:=totM_le5 a.bs;simp only [nxG,List.map_cons,List.sum_cons,List.length_cons,wgPf];unfold nxPf at this ⊢;omega
theorem totG_mem {α:Type} {f:α->Nat} {l:List α} {q:α} (h:q ∈ l):f q<=totG f l:=by
  unfold totG
  induction l with
  | nil=>simp at h
  | cons a l ih =>
    simp only [List.map_cons,List.sum_cons]
    rcases List.mem_cons.1 h with e | e
    · subst e;omega
    · have:=ih e;omega
theorem nlNd_le (p:Nd):nlNd 1 p<=1+4 * p.la.length+2 * totA p.la+2 * p.st.length+9 * p.tt.length+5 * totK p.tt+p.hw.length+p.tw.length+p.th.length+3 * p.vo.length+3 * p.go.length+p.dn.length+5 * p.pl.length+3 * p.ps.length+9 * totG wgPf p.ps:=by
  unfold nlNd
  have h1:=nxG_le9 p.ps (nxs 1 p.la+2 * p.st.length+totM p.tt+p.hw.length+p.tw.length+p.th.length+3 * p.vo.length+3 * p.go.length+p.dn.length+5 * p.pl.length)
  have h2:=nxs_le p.la 1
  have h3:=totM_le5 p.tt
  omega
theorem sized_marks (p:Nd) (h1:wgNd p<=1048576) (h2:p.la.length+totA p.la<=1048576) (h3:p.vo.length<=1048576) (h4:p.go.length<=1048576) :
    nlNd 1 p<=40000000/\(∀ b,nlNd 1 (rbP b p)<=40000000)/\p.tt.length<=3999999/\∀ q ∈ p.ps,q.bs.length<=3999999:=by
  unfold wgNd at h1
  have h5:=nlNd_le p
  refine ⟨by omega,fun b=>?_,by omega,fun q hq=>?_⟩
  · cases b
    · show nlNd 1 p<=40000000
      omega
    · have h6:=nlNd_le (rbP true p)
      simp only [rbP,if_true,List.length_nil] at h6
      show nlNd 1 (rbP true p)<=40000000
      simp only [rbP,if_true]
      omega
  · have h7:=totG_mem (f:=wgPf) hq
    have h8:wgPf q=(q.bs.length+totK q.bs)+q.qw.length:=rfl
    omega
theorem wpList_load_guard {P:Program} {ops:Array Oper} {rest:List Oper} {op:Oper} {a:Act} {w:World} {Q:Exit->Act->World->Prop} (hw:Region.wanted op (yielded ops a.tmps)=true) (ty:TypeId) (x:Operand) (ho:op.op=.load ty x)
    (b o:Nat) (hx:a.eval x=.pointer (some ⟨b,o,none⟩)) (cs:List Value) (d:TypeDesc) (hc:w.rangeAt b o cs)
    (hu:P.underlying ty=some d) (hd:d.isRow=true) (hi:(P.info? ty).map (·.size)=some cs.length)
    (h:wpList P ops Q rest (a.put op.dst (.agg cs.toArray)) w):wpList P ops Q (op :: rest) a w :=
  wpList_step fun K hK=>by rw [if_pos hw];exact wp_load_mid ty x ho b o hx cs d hc hu hd hi (hK _ _ h)
end Go.Proofs.YtaidhenkijjcfaaGreat
namespace Go.Proofs.YtaidhenkijjcfaaGreat
open Go.ChangeShapes Go.WideShapes Go.ChangeAt Go.RowKit
open Go.ChangeMaps (open_string shut_string)
set_option linter.unusedVariables false
theorem fnExactProofOf_own:ownKnob Tryz.prog.godebug=none:=by kernel_rfl
theorem fnExactProofOf_laidOut:laidOutB Tryz.prog=true:=by kernel_rfl
theorem Tryz.infoA:(Tryz.prog.info? 60).map (·.size)=some 20:=by kernel_rfl
theorem Tryz.infoB:(Tryz.prog.info? 73).map (·.size)=some 20:=by kernel_rfl
theorem poP_nl (l:List Pf) (e:Int) (h:totG wgPf l<=1048576):nlPf 1 (poP l e)<=40000000 :=
  poP_few e (fun q=>nlPf 1 q<=40000000) (fun q hq=>by
    have h1:=totG_mem (f:=wgPf) hq
    have h2:=totM_le5 q.bs
    have h3:wgPf q=(q.bs.length+totK q.bs)+q.qw.length:=rfl
    unfold nlPf
    omega) (by simp [nlPf,poZ,totM])
theorem wgNd_ps (p:Nd) (h:wgNd p<=1048576):totG wgPf p.ps<=1048576:=by unfold wgNd at h;omega
theorem fnExactProofOf_walk (z0:Nd) (y0:Nv) (a1:Int) (w:World) (w0:RdNd w z0 y0/\FitNd z0) (w1:(Lit.int .i64 a1).wf=true) :
    Calls Tryz.prog 4 #[noV z0 y0,.int .i64 a1] w fun e w'=>e=.returned (.bool true)/\Below w.heap.size w w':=by
  obtain ⟨hr,hft⟩:=w0
  clear w1
  obtain ⟨w1,hw1⟩:∃ x,w.alloc (.cells (noC z0 y0).toArray 60)=x:=⟨_,rfl⟩
  have b1:Below w.heap.size w w1:=by rw [<- hw1];exact (Below.refl _ w).alloc (Nat.le_refl _) _
  have KA1:=hide (show Blk w1 w.heap.size 60 (noC z0 y0) from by rw [<- hw1];exact Blk.new w _ _)
  have Hz:=hide (szwNode_one z0 y0 1048576 w1 (hr.below b1 (Nat.le_refl _)) (by omega) hft)
  have HT:=hide (fun (hf:FewNd z0) V (hV:Below w.heap.size w V)=>toNode_any z0 y0 V (hr.below hV (Nat.le_refl _)) hf)
  have HS:=hide (fun (hf:FewNd z0) h2 u V (h:RdNd V z0 u)=>specProofOf_any z0 u a1 V h hf.nq hf.fq h2)
  have HI:=hide (fun (hf:FewNd z0) h2 u V (h:RdNd V z0 u)=>implProofOf_any z0 u a1 V h hf.nq hf.fq h2)
  have IA:=hide (show (Tryz.prog.info? 60).map (·.size)=some (noC z0 y0).length from Tryz.infoA)
  have B1:=hide b1
  rw [show noV z0 y0=.agg (noC z0 y0).toArray from rfl] at Hz HT ⊢
  clear hr hft b1
  generalize noC z0 y0=cs at KA1 Hz HT IA hw1 ⊢
  have RA1:=hide (blk_range KA1.out)
  go_enter Tryz.func4,Tryz.ntmps4
  go_upto_region 2 with fail
  (try rw [hw1])
  clear hw1
  go_wp2_with (first
    | (refine wpList_load_mid rfl 60 _ rfl w.heap.size 0 rfl cs _ RA1.out Tryz.underlying60 rfl IA.out ?_)
    | fail)
  refine Hz.out.mono ?_
  rintro e w2 ⟨r,rfl,hfit,hb2⟩
  have Hfit:=hide hfit
  clear hfit Hz
  have KA2:=hide (KA1.out.below hb2 KA1.out.lt)
  have B2:=hide (B1.out.trans (hb2.mono B1.out.size))
  clear RA1 KA1 B1 
  have RA2:=hide (blk_range KA2.out)
  clear hb2
  by_cases hneg:r < 0
  · clear Hfit HT HS HI
    go_wp2
    go_ret
    exact ⟨rfl,B2.out⟩
  obtain ⟨⟨hfew,ha,hv,hg⟩,hsz⟩:=Hfit.out (by omega)
  obtain ⟨hn1,-,-,hl2⟩:=sized_marks z0 (by omega) ha hv hg
  have hn2:=poP_nl z0.ps a1 (wgNd_ps z0 (by omega))
  have hfP:FewPf (poP z0.ps a1):=poP_few a1 FewPf hfew.fq ⟨by simp [poZ],by simp [poZ],by simp [poZ]⟩
  have HT:=hide (HT.out hfew)
  have HS:=hide (HS.out hfew hl2)
  have HI:=hide (HI.out hfew hl2)
  have HEx:=hide (fun u t V (h1:RdNd V z0 u) (h2:RdNd V z0 t)=>eqNode_same z0 u t V h1 h2 hfew)
  have HMx:=hide (fun u lo hi V (h:OwnNd lo hi V z0 u) (h1:hi<=V.heap.size)=>markNode_own z0 u 1 lo hi V h h1 hfew hn1 (by omega))
  have HEr:=hide (fun u t V (h1:RdPf V (poP z0.ps a1) u) (h2:RdPf V (poP z0.ps a1) t)=>eqProof_same (poP z0.ps a1) u t V h1 h2 hfP)
  have HMr:=hide (fun u lo hi V (h:OwnPf lo hi V (poP z0.ps a1) u) (h1:hi<=V.heap.size)=>markProof_own (poP z0.ps a1) u 1 lo hi V h h1 hfP hn2 (by omega))
  have HHr:=hide (fun u V (h:RdPf V (mlPf 1 (poP z0.ps a1)) u)=>heldProof_own (poP z0.ps a1) u 1 V h hfP hn2 (by omega))
  clear Hfit hfew ha hv hg hsz hn1 hn2 hl2 hfP
  generalize poP z0.ps a1=Q at HS HI HEr HMr HHr
  generalize poO z0.ps a1=QB at HS HI
  generalize nlNd 1 z0=nX at HMx
  generalize nlPf 1 Q=nR at HMr HHr
  generalize mlPf 1 Q=QM at HMr HHr
  have hqq:(QB != QB)=false:=by cases QB <;> rfl
  go_wp2_with (first
    | (refine wpList_load_mid rfl 60 _ rfl w.heap.size 0 rfl cs _ RA2.out Tryz.underlying60 rfl IA.out ?_)
    | fail)
  refine (HT.out w2 B2.out).mono ?_
  rintro e w3 ⟨u3,rfl,o3,hb3⟩
  have C3:=hide (HS.out u3 w3 o3.rd)
  rw [show noV z0 u3=.agg (noC z0 u3).toArray from rfl] at C3 ⊢
  generalize noC z0 u3=c3 at C3 ⊢
  have KA3:=hide (KA2.out.below hb3 KA2.out.lt)
  have B3:=hide (B2.out.trans (hb3.mono B2.out.size))
  clear RA2 KA2 B2 
  have RA3:=hide (blk_range KA3.out)
  clear hb3 o3 HS
  go_wp2_with fail
  refine C3.out.mono ?_
  rintro e w4 ⟨uW,rfl,rW,hb4⟩
  clear C3
  have KA4:=hide (KA3.out.below hb4 KA3.out.lt)
  have B4:=hide (B3.out.trans (hb4.mono B3.out.size))
  clear RA3 KA3 B3 
  have RA4:=hide (blk_range KA4.out)
  obtain ⟨cW,hcW⟩:∃ c,pfC Q uW=c:=⟨_,rfl⟩
  have ecW:=hide (show pfV Q uW=.agg cW.toArray from by rw [<- hcW];rfl)
  rw [ecW.out]
  clear hb4
  have zz4:=B4.out.size
  have bz4:Blk (w4.alloc (.cells #[.int .i64 0,.slice none 0 0,.int .i64 0,.int .i64 0,.slice none 0 0] 42)) w4.heap.size 42 [.int .i64 0,.slice none 0 0,.int .i64 0,.int .i64 0,.slice none 0 0]:=Blk.new w4 _ _
  have oneW:=hide (show cW.toArray.all (·.oneCell')=true from by rw [List.all_toArray,<- hcW];exact pfC_one rW)
  have IW:=hide (show (Tryz.prog.info? 42).map (·.size)=some cW.length from by rw [<- hcW];exact Tryz.infoP5)
  have HtW:=hide (show (w4.alloc (.cells #[.int .i64 0,.slice none 0 0,.int .i64 0,.int .i64 0,.slice none 0 0] 42)).there w4.heap.size 0 cW.toArray.size from bz4.there (by rw [List.size_toArray,<- hcW];rfl))
  obtain ⟨w5,hw5⟩:∃ x,(w4.alloc (.cells #[.int .i64 0,.slice none 0 0,.int .i64 0,.int .i64 0,.slice none 0 0] 42)).setCells w4.heap.size 0 cW=x:=⟨_,rfl⟩
  have KW5:=hide (show Blk w5 w4.heap.size 42 cW from by rw [<- hw5];exact blk_all bz4 (by rw [<- hcW];rfl))
  have hb5:Below w4.heap.size w4 w5:=by rw [<- hw5];exact ((Below.refl _ w4).alloc (Nat.le_refl _) _).trans (putC_below (Nat.le_refl _) _ _ _)
  have Hw5:=hide hw5
  clear bz4 hw5
  have KA5:=hide (KA4.out.below hb5 KA4.out.lt)
  have B5:=hide (B4.out.trans (hb5.mono B4.out.size))
  clear RA4 KA4 B4 
  have RA5:=hide (blk_range KA5.out)
  have RW5:=hide (blk_range KW5.out)
  clear hb5 zz4
  have D5:=hide (Below.refl w5.heap.size w5)
  have RW:=hide (rW.below (show Below w4.heap.size w4 w5 from by rw [<- Hw5.out];exact ((Below.refl _ w4).alloc (Nat.le_refl _) _).trans (putC_below (Nat.le_refl _) _ _ _)) (Nat.le_refl _))
  clear rW hcW
  go_wp2_with (first
    | (refine wpList_load_mid rfl 60 _ rfl w.heap.size 0 rfl cs _ RA5.out Tryz.underlying60 rfl IA.out ?_)
    | (refine wpList_load_mid rfl 42 _ rfl w4.heap.size 0 rfl cW _ RW5.out Tryz.underlying42 rfl IW.out ?_)
    | ((refine wpList_store_mid rfl 42 _ _ rfl w4.heap.size 0 cW.toArray rfl rfl HtW.out (by simpa using IW.out) oneW.out ?_;rw [Hw5.out]))
    | fail)
  refine (HT.out w5 B5.out).mono ?_
  rintro e w6 ⟨uX,rfl,oX,hb6⟩
  have S56:=hide (And.intro KA5.out.lt (And.intro KW5.out.lt hb6.size))
  have D6:=hide (D5.out.trans (hb6.mono D5.out.size))
  have DX6:=hide oX
  have KA6:=hide (KA5.out.below hb6 KA5.out.lt)
  have KW6:=hide (KW5.out.below hb6 KW5.out.lt)
  have B6:=hide (B5.out.trans (hb6.mono B5.out.size))
  clear RA5 KA5 RW5 KW5 B5 
  have RA6:=hide (blk_range KA6.out)
  have RW6:=hide (blk_range KW6.out)
  obtain ⟨cX,hcX⟩:∃ c,noC z0 uX=c:=⟨_,rfl⟩
  have ecX:=hide (show noV z0 uX=.agg cX.toArray from by rw [<- hcX];rfl)
  rw [ecX.out]
  clear hb6 D5 oneW HtW Hw5
  have zz6:=B6.out.size
  have bz6:Blk (w6.alloc (.cells #[.string { data:=#[] },.int .i64 0,.int .i64 0,.slice none 0 0,.slice none 0 0,.slice none 0 0,.int .i64 0,.int .i64 0,.int .i64 0,.int .i64 0,.slice none 0 0,.int .i64 0,.slice none 0 0,.slice none 0 0,.int .i64 0,.slice none 0 0,.slice none 0 0,.slice none 0 0,.slice none 0 0,.slice none 0 0] 73)) w6.heap.size 73 [.string { data:=#[] },.int .i64 0,.int .i64 0,.slice none 0 0,.slice none 0 0,.slice none 0 0,.int .i64 0,.int .i64 0,.int .i64 0,.int .i64 0,.slice none 0 0,.int .i64 0,.slice none 0 0,.slice none 0 0,.int .i64 0,.slice none 0 0,.slice none 0 0,.slice none 0 0,.slice none 0 0,.slice none 0 0]:=Blk.new w6 _ _
  have oneX:=hide (show cX.toArray.all (·.oneCell')=true from by rw [List.all_toArray,<- hcX];exact noC_one oX.rd)
  have IX:=hide (show (Tryz.prog.info? 73).map (·.size)=some cX.length from by rw [<- hcX];exact Tryz.infoB)
  have HtX:=hide (show (w6.alloc (.cells #[.string { data:=#[] },.int .i64 0,.int .i64 0,.slice none 0 0,.slice none 0 0,.slice none 0 0,.int .i64 0,.int .i64 0,.int .i64 0,.int .i64 0,.slice none 0 0,.int .i64 0,.slice none 0 0,.slice none 0 0,.int .i64 0,.slice none 0 0,.slice none 0 0,.slice none 0 0,.slice none 0 0,.slice none 0 0] 73)).there w6.heap.size 0 cX.toArray.size from bz6.there (by rw [List.size_toArray,<- hcX];rfl))
  obtain ⟨w7,hw7⟩:∃ x,(w6.alloc (.cells #[.string { data:=#[] },.int .i64 0,.int .i64 0,.slice none 0 0,.slice none 0 0,.slice none 0 0,.int .i64 0,.int .i64 0,.int .i64 0,.int .i64 0,.slice none 0 0,.int .i64 0,.slice none 0 0,.slice none 0 0,.int .i64 0,.slice none 0 0,.slice none 0 0,.slice none 0 0,.slice none 0 0,.slice none 0 0] 73)).setCells w6.heap.size 0 cX=x:=⟨_,rfl⟩
  have KX7:=hide (show Blk w7 w6.heap.size 73 cX from by rw [<- hw7];exact blk_all bz6 (by rw [<- hcX];rfl))
  have hb7:Below w6.heap.size w6 w7:=by rw [<- hw7];exact ((Below.refl _ w6).alloc (Nat.le_refl _) _).trans (putC_below (Nat.le_refl _) _ _ _)
  have Hw7:=hide hw7
  clear bz6 hw7
  have KA7:=hide (KA6.out.below hb7 KA6.out.lt)
  have KW7:=hide (KW6.out.below hb7 KW6.out.lt)
  have B7:=hide (B6.out.trans (hb7.mono B6.out.size))
  have DX7:=hide (DX6.out.kept (Kept.of_oth (Oth.of_below (S:=fun _=>False) hb7) (fun _ _ _ e=>e)))
  clear RA6 KA6 RW6 KW6 B6 DX6
  have RA7:=hide (blk_range KA7.out)
  have RW7:=hide (blk_range KW7.out)
  have RX7:=hide (blk_range KX7.out)
  clear hb7 zz6
  have hb7:Below w6.heap.size w6 w7:=by rw [<- Hw7.out];exact ((Below.refl _ w6).alloc (Nat.le_refl _) _).trans (putC_below (Nat.le_refl _) _ _ _)
  have D7:=hide (D6.out.trans (hb7.mono D6.out.size))
  have C8:=hide (HI.out uX w7 DX7.out.rd)
  rw [ecX.out] at C8
  clear oX hcX hb7 D6
  go_wp2_with (first
    | (refine wpList_load_mid rfl 60 _ rfl w.heap.size 0 rfl cs _ RA7.out Tryz.underlying60 rfl IA.out ?_)
    | (refine wpList_load_mid rfl 42 _ rfl w4.heap.size 0 rfl cW _ RW7.out Tryz.underlying42 rfl IW.out ?_)
    | (refine wpList_load_mid rfl 73 _ rfl w6.heap.size 0 rfl cX _ RX7.out Tryz.underlying73 rfl IX.out ?_)
    | ((refine wpList_store_mid rfl 73 _ _ rfl w6.heap.size 0 cX.toArray rfl rfl HtX.out (by simpa using IX.out) oneX.out ?_;rw [Hw7.out]))
    | fail)
  refine C8.out.mono ?_
  rintro e w8 ⟨uG,rfl,oG,hb8⟩
  have S78:=hide (And.intro KX7.out.lt hb8.size)
  have D8:=hide (D7.out.trans (hb8.mono D7.out.size))
  have DG8:=hide oG
  have KA8:=hide (KA7.out.below hb8 KA7.out.lt)
  have KW8:=hide (KW7.out.below hb8 KW7.out.lt)
  have KX8:=hide (KX7.out.below hb8 KX7.out.lt)
  have B8:=hide (B7.out.trans (hb8.mono B7.out.size))
  have DX8:=hide (DX7.out.kept (Kept.of_oth (Oth.of_below (S:=fun _=>False) hb8) (fun _ _ _ e=>e)))
  clear RA7 KA7 RW7 KW7 RX7 KX7 B7 DX7
  have RA8:=hide (blk_range KA8.out)
  have RW8:=hide (blk_range KW8.out)
  have RX8:=hide (blk_range KX8.out)
  obtain ⟨cG,hcG⟩:∃ c,pfC Q uG=c:=⟨_,rfl⟩
  have ecG:=hide (show pfV Q uG=.agg cG.toArray from by rw [<- hcG];rfl)
  rw [ecG.out]
  clear hb8 D7 C8 oneX HtX Hw7
  have zz8:=B8.out.size
  have bz8:Blk (w8.alloc (.cells #[.int .i64 0,.slice none 0 0,.int .i64 0,.int .i64 0,.slice none 0 0] 42)) w8.heap.size 42 [.int .i64 0,.slice none 0 0,.int .i64 0,.int .i64 0,.slice none 0 0]:=Blk.new w8 _ _
  have oneG:=hide (show cG.toArray.all (·.oneCell')=true from by rw [List.all_toArray,<- hcG];exact pfC_one oG.rd)
  have IG:=hide (show (Tryz.prog.info? 42).map (·.size)=some cG.length from by rw [<- hcG];exact Tryz.infoP5)
  have HtG:=hide (show (w8.alloc (.cells #[.int .i64 0,.slice none 0 0,.int .i64 0,.int .i64 0,.slice none 0 0] 42)).there w8.heap.size 0 cG.toArray.size from bz8.there (by rw [List.size_toArray,<- hcG];rfl))
  obtain ⟨w9,hw9⟩:∃ x,(w8.alloc (.cells #[.int .i64 0,.slice none 0 0,.int .i64 0,.int .i64 0,.slice none 0 0] 42)).setCells w8.heap.size 0 cG=x:=⟨_,rfl⟩
  have KG9:=hide (show Blk w9 w8.heap.size 42 cG from by rw [<- hw9];exact blk_all bz8 (by rw [<- hcG];rfl))
  have hb9:Below w8.heap.size w8 w9:=by rw [<- hw9];exact ((Below.refl _ w8).alloc (Nat.le_refl _) _).trans (putC_below (Nat.le_refl _) _ _ _)
  have Hw9:=hide hw9
  clear bz8 hw9
  have KA9:=hide (KA8.out.below hb9 KA8.out.lt)
  have KW9:=hide (KW8.out.below hb9 KW8.out.lt)
  have KX9:=hide (KX8.out.below hb9 KX8.out.lt)
  have B9:=hide (B8.out.trans (hb9.mono B8.out.size))
  have DX9:=hide (DX8.out.kept (Kept.of_oth (Oth.of_below (S:=fun _=>False) hb9) (fun _ _ _ e=>e)))
  have DG9:=hide (DG8.out.kept (Kept.of_oth (Oth.of_below (S:=fun _=>False) hb9) (fun _ _ _ e=>e)))
  clear RA8 KA8 RW8 KW8 RX8 KX8 B8 DX8 DG8
  have RA9:=hide (blk_range KA9.out)
  have RW9:=hide (blk_range KW9.out)
  have RX9:=hide (blk_range KX9.out)
  have RG9:=hide (blk_range KG9.out)
  clear hb9 zz8
  have hb9:Below w8.heap.size w8 w9:=by rw [<- Hw9.out];exact ((Below.refl _ w8).alloc (Nat.le_refl _) _).trans (putC_below (Nat.le_refl _) _ _ _)
  have D9:=hide (D8.out.trans (hb9.mono D8.out.size))
  have C10:=hide (HEr.out uG uW w9 DG9.out.rd (RW.out.below D9.out (Nat.le_refl _)))
  rw [ecG.out,ecW.out] at C10
  clear oG hcG hb9 D8
  go_wp2_with (first
    | (refine wpList_load_mid rfl 60 _ rfl w.heap.size 0 rfl cs _ RA9.out Tryz.underlying60 rfl IA.out ?_)
    | (refine wpList_load_mid rfl 42 _ rfl w4.heap.size 0 rfl cW _ RW9.out Tryz.underlying42 rfl IW.out ?_)
    | (refine wpList_load_mid rfl 73 _ rfl w6.heap.size 0 rfl cX _ RX9.out Tryz.underlying73 rfl IX.out ?_)
    | (refine wpList_load_mid rfl 42 _ rfl w8.heap.size 0 rfl cG _ RG9.out Tryz.underlying42 rfl IG.out ?_)
    | ((refine wpList_store_mid rfl 42 _ _ rfl w8.heap.size 0 cG.toArray rfl rfl HtG.out (by simpa using IG.out) oneG.out ?_;rw [Hw9.out]))
    | fail)
  refine C10.out.mono ?_
  rintro e w10 ⟨rfl,hb10⟩
  have D10:=hide (D9.out.trans (hb10.mono D9.out.size))
  have KA10:=hide (KA9.out.below hb10 KA9.out.lt)
  have KW10:=hide (KW9.out.below hb10 KW9.out.lt)
  have KX10:=hide (KX9.out.below hb10 KX9.out.lt)
  have KG10:=hide (KG9.out.below hb10 KG9.out.lt)
  have B10:=hide (B9.out.trans (hb10.mono B9.out.size))
  have DX10:=hide (DX9.out.kept (Kept.of_oth (Oth.of_below (S:=fun _=>False) hb10) (fun _ _ _ e=>e)))
  have DG10:=hide (DG9.out.kept (Kept.of_oth (Oth.of_below (S:=fun _=>False) hb10) (fun _ _ _ e=>e)))
  clear RA9 KA9 RW9 KW9 RX9 KX9 RG9 KG9 B9 DX9 DG9
  have RA10:=hide (blk_range KA10.out)
  have RW10:=hide (blk_range KW10.out)
  have RX10:=hide (blk_range KX10.out)
  have RG10:=hide (blk_range KG10.out)
  clear hb10 D9 C10 oneG HtG Hw9
  have z10:=KX10.out.lt
  have HSS:Hid (∀ V,Below w10.heap.size w10 V->(V.rangeAt w6.heap.size 0 cX/\V.rangeAt w.heap.size 0 cs)):=hide (fun V hV=>⟨range_below RX10.out hV z10,range_below RA10.out hV KA10.out.lt⟩)
  have bD:Below w10.heap.size w10 w10.drew:=(Below.refl _ w10).drew
  have hS0:=HSS.out _ bD
  have HEX:=hide (fun t V (h1:RdNd V z0 uX) (h2:RdNd V z0 t)=>HEx.out uX t V h1 h2)
  rw [ecX.out] at HEX
  clear z10
  go_wp2
  refine wp_region_held_drew (S:=fun W=>W.rangeAt w6.heap.size 0 cX/\W.rangeAt w.heap.size 0 cs) (by kernel_rfl) hS0 (fun hHeld=>?_)
  refine wpAnyH_take (i:=0) (v:=.agg cX.toArray) rfl (by kernel_rfl) (by kernel_rfl) (by kernel_rfl) (fun _ _ _ h=>h) (yieldsIf_load_mid (by rfl) 73 _ rfl w6.heap.size 0 rfl cX _ (fun W hW=>hW.1) Tryz.underlying73 rfl IX.out) (by assumption) ?_
  change wpAnyH Tryz.prog _ _ _ _ _ _ (Act.put _ (some 45) _) _
  simp only [Act.put,List.setIfInBounds_toArray,List.set_cons_zero,List.set_cons_succ]
  refine wpAnyH_take (i:=1) (v:=.agg cs.toArray) rfl (by kernel_rfl) (by kernel_rfl) (by kernel_rfl) (fun _ _ _ h=>h) (yieldsIf_load_mid (by rfl) 60 _ rfl w.heap.size 0 rfl cs _ (fun W hW=>hW.2) Tryz.underlying60 rfl IA.out) (by assumption) ?_
  change wpAnyH Tryz.prog _ _ _ _ _ _ (Act.put _ (some 46) _) _
  simp only [Act.put,List.setIfInBounds_toArray,List.set_cons_zero,List.set_cons_succ]
  refine wpAnyH_ready (rs:=[2]) (by kernel_rfl) (by simp) ?_
  refine AllReadyH.cons rfl (fun K hK=>?_) AllReadyH.nil
  go_simp
  go_wp2_with (go_at_call 19;(with_reducible refine (HT.out _ (B10.out.trans (bD.mono B10.out.size))).mono ?_);rintro e w11 ⟨u11,rfl,o11,hb11⟩;have c11:=bD.trans (hb11.mono bD.size);have hS11:=HSS.out _ c11;have r11:=o11.rd)
  refine hK.out _ _ hS11 (fun hHeld=>?_)
  try simp only [Act.put,List.setIfInBounds_toArray,List.set_cons_zero,List.set_cons_succ]
  refine wpAnyH_ready (rs:=[3]) (by kernel_rfl) (by simp) ?_
  refine AllReadyH.cons rfl (fun K hK=>?_) AllReadyH.nil
  go_simp
  go_wp2_with (go_at_call 21;(with_reducible refine (HEX.out _ _ (DX10.out.rd.below c11 (Nat.le_refl _)) r11).mono ?_);rintro e w12 ⟨rfl,hb12⟩;have c12:=c11.trans (hb12.mono c11.size);have hS12:=HSS.out _ c12)
  refine hK.out _ _ hS12 (fun hHeld=>?_)
  try simp only [Act.put,List.setIfInBounds_toArray,List.set_cons_zero,List.set_cons_succ]
  refine wpAnyH_take (i:=4) (v:=.bool false) rfl (by kernel_rfl) (by kernel_rfl) (by kernel_rfl) (fun _ _ _ h=>h) (Or.inl ⟨by rfl,fun W hW=>by go_simp⟩) (by assumption) ?_
  change wpAnyH Tryz.prog _ _ _ _ _ _ (Act.put _ (some 49) _) _
  simp only [Act.put,List.setIfInBounds_toArray,List.set_cons_zero,List.set_cons_succ]
  refine wpAnyH_done (by kernel_rfl) ?_ _
  have D12:=hide (D10.out.trans (c12.mono D10.out.size))
  clear hS0 hS11 hS12 o11 r11 hb11 hb12 c11 HSS HEX bD
  have KA12:=hide (KA10.out.below c12 KA10.out.lt)
  have KW12:=hide (KW10.out.below c12 KW10.out.lt)
  have KX12:=hide (KX10.out.below c12 KX10.out.lt)
  have KG12:=hide (KG10.out.below c12 KG10.out.lt)
  have B12:=hide (B10.out.trans (c12.mono B10.out.size))
  have DX12:=hide (DX10.out.kept (Kept.of_oth (Oth.of_below (S:=fun _=>False) c12) (fun _ _ _ e=>e)))
  have DG12:=hide (DG10.out.kept (Kept.of_oth (Oth.of_below (S:=fun _=>False) c12) (fun _ _ _ e=>e)))
  clear RA10 KA10 RW10 KW10 RX10 KX10 RG10 KG10 B10 DX10 DG10
  have RA12:=hide (blk_range KA12.out)
  have RW12:=hide (blk_range KW12.out)
  have RX12:=hide (blk_range KX12.out)
  have RG12:=hide (blk_range KG12.out)
  clear c12 D10
  have C13:=hide (HMx.out uX w5.heap.size w6.heap.size w12 DX12.out (Nat.le_of_lt KX12.out.lt))
  rw [ecX.out] at C13
  clear DX12 HMx
  go_wp2_with (first
    | (refine wpList_load_mid rfl 60 _ rfl w.heap.size 0 rfl cs _ RA12.out Tryz.underlying60 rfl IA.out ?_)
    | (refine wpList_load_mid rfl 42 _ rfl w4.heap.size 0 rfl cW _ RW12.out Tryz.underlying42 rfl IW.out ?_)
    | (refine wpList_load_mid rfl 73 _ rfl w6.heap.size 0 rfl cX _ RX12.out Tryz.underlying73 rfl IX.out ?_)
    | (refine wpList_load_mid rfl 42 _ rfl w8.heap.size 0 rfl cG _ RG12.out Tryz.underlying42 rfl IG.out ?_)
    | fail)
  refine C13.out.mono ?_
  rintro e w13 ⟨rfl,-,hO⟩
  have KA13:=hide (KA12.out.othM hO (by obtain ⟨s1,s2,s3⟩:=S56.out;obtain ⟨s4,s5⟩:=S78.out;omega))
  have KW13:=hide (KW12.out.othM hO (by obtain ⟨s1,s2,s3⟩:=S56.out;obtain ⟨s4,s5⟩:=S78.out;omega))
  have KX13:=hide (KX12.out.othM hO (by obtain ⟨s1,s2,s3⟩:=S56.out;obtain ⟨s4,s5⟩:=S78.out;omega))
  have KG13:=hide (KG12.out.othM hO (by obtain ⟨s1,s2,s3⟩:=S56.out;obtain ⟨s4,s5⟩:=S78.out;omega))
  have hm13:Below w5.heap.size w12 w13:=hO.below (fun k hk=>by obtain ⟨s1,s2,s3⟩:=S56.out;obtain ⟨s4,s5⟩:=S78.out;omega) D12.out.size
  have B13:=hide (B12.out.trans (hm13.mono (by obtain ⟨s1,s2,s3⟩:=S56.out;obtain ⟨s4,s5⟩:=S78.out;omega)))
  have D13:=hide (D12.out.trans hm13)
  have DG13:=hide (DG12.out.kept (Kept.of_oth hO (fun k h1 h2=>by obtain ⟨s1,s2,s3⟩:=S56.out;obtain ⟨s4,s5⟩:=S78.out;omega)))
  clear RA12 KA12 RW12 KW12 RX12 KX12 RG12 KG12 B12 D12 hm13 DG12
  have RA13:=hide (blk_range KA13.out)
  have RW13:=hide (blk_range KW13.out)
  have RX13:=hide (blk_range KX13.out)
  have RG13:=hide (blk_range KG13.out)
  clear hO C13
  have C14:=hide (HEr.out uG uW w13 DG13.out.rd (RW.out.below D13.out (Nat.le_refl _)))
  rw [ecG.out,ecW.out] at C14
  have hnX:¬ ((nX:Int) < 0):=by omega
  go_wp2_with (first
    | (refine wpList_load_mid rfl 60 _ rfl w.heap.size 0 rfl cs _ RA13.out Tryz.underlying60 rfl IA.out ?_)
    | (refine wpList_load_mid rfl 42 _ rfl w4.heap.size 0 rfl cW _ RW13.out Tryz.underlying42 rfl IW.out ?_)
    | (refine wpList_load_mid rfl 73 _ rfl w6.heap.size 0 rfl cX _ RX13.out Tryz.underlying73 rfl IX.out ?_)
    | (refine wpList_load_mid rfl 42 _ rfl w8.heap.size 0 rfl cG _ RG13.out Tryz.underlying42 rfl IG.out ?_)
    | (refine wpList_load_guard (by kernel_rfl) 42 _ rfl w4.heap.size 0 rfl cW _ RW13.out Tryz.underlying42 rfl IW.out ?_)
    | (refine wpList_load_guard (by kernel_rfl) 42 _ rfl w8.heap.size 0 rfl cG _ RG13.out Tryz.underlying42 rfl IG.out ?_)
    | fail)
  refine C14.out.mono ?_
  rintro e w14 ⟨rfl,hb14⟩
  have D14:=hide (D13.out.trans (hb14.mono D13.out.size))
  have KA14:=hide (KA13.out.below hb14 KA13.out.lt)
  have KW14:=hide (KW13.out.below hb14 KW13.out.lt)
  have KX14:=hide (KX13.out.below hb14 KX13.out.lt)
  have KG14:=hide (KG13.out.below hb14 KG13.out.lt)
  have B14:=hide (B13.out.trans (hb14.mono B13.out.size))
  have DG14:=hide (DG13.out.kept (Kept.of_oth (Oth.of_below (S:=fun _=>False) hb14) (fun _ _ _ e=>e)))
  clear RA13 KA13 RW13 KW13 RX13 KX13 RG13 KG13 B13 DG13
  have RA14:=hide (blk_range KA14.out)
  have RW14:=hide (blk_range KW14.out)
  have RX14:=hide (blk_range KX14.out)
  have RG14:=hide (blk_range KG14.out)
  clear hb14 D13 C14
  have C15:=hide (HMr.out uG w7.heap.size w8.heap.size w14 DG14.out (Nat.le_of_lt KG14.out.lt))
  rw [ecG.out] at C15
  clear DG14 HMr
  go_wp2_with (first
    | (refine wpList_load_mid rfl 60 _ rfl w.heap.size 0 rfl cs _ RA14.out Tryz.underlying60 rfl IA.out ?_)
    | (refine wpList_load_mid rfl 42 _ rfl w4.heap.size 0 rfl cW _ RW14.out Tryz.underlying42 rfl IW.out ?_)
    | (refine wpList_load_mid rfl 73 _ rfl w6.heap.size 0 rfl cX _ RX14.out Tryz.underlying73 rfl IX.out ?_)
    | (refine wpList_load_mid rfl 42 _ rfl w8.heap.size 0 rfl cG _ RG14.out Tryz.underlying42 rfl IG.out ?_)
    | fail)
  refine C15.out.mono ?_
  rintro e w15 ⟨rfl,oM,hO⟩
  have KA15:=hide (KA14.out.othM hO (by obtain ⟨s1,s2,s3⟩:=S56.out;obtain ⟨s4,s5⟩:=S78.out;omega))
  have KW15:=hide (KW14.out.othM hO (by obtain ⟨s1,s2,s3⟩:=S56.out;obtain ⟨s4,s5⟩:=S78.out;omega))
  have KX15:=hide (KX14.out.othM hO (by obtain ⟨s1,s2,s3⟩:=S56.out;obtain ⟨s4,s5⟩:=S78.out;omega))
  have KG15:=hide (KG14.out.othM hO (by obtain ⟨s1,s2,s3⟩:=S56.out;obtain ⟨s4,s5⟩:=S78.out;omega))
  have hm15:Below w5.heap.size w14 w15:=hO.below (fun k hk=>by obtain ⟨s1,s2,s3⟩:=S56.out;obtain ⟨s4,s5⟩:=S78.out;omega) D14.out.size
  have B15:=hide (B14.out.trans (hm15.mono (by obtain ⟨s1,s2,s3⟩:=S56.out;obtain ⟨s4,s5⟩:=S78.out;omega)))
  have D15:=hide (D14.out.trans hm15)
  clear RA14 KA14 RW14 KW14 RX14 KX14 RG14 KG14 B14 D14 hm15 
  have RA15:=hide (blk_range KA15.out)
  have RW15:=hide (blk_range KW15.out)
  have RX15:=hide (blk_range KX15.out)
  have RG15:=hide (blk_range KG15.out)
  have DM15:=hide oM.rd
  clear hO C15 oM
  have hnR:¬ ((nR:Int) < 0):=by omega
  have C16:=hide (HHr.out uG w15 DM15.out)
  rw [ecG.out] at C16
  go_wp2_with (first
    | (refine wpList_load_mid rfl 60 _ rfl w.heap.size 0 rfl cs _ RA15.out Tryz.underlying60 rfl IA.out ?_)
    | (refine wpList_load_mid rfl 42 _ rfl w4.heap.size 0 rfl cW _ RW15.out Tryz.underlying42 rfl IW.out ?_)
    | (refine wpList_load_mid rfl 73 _ rfl w6.heap.size 0 rfl cX _ RX15.out Tryz.underlying73 rfl IX.out ?_)
    | (refine wpList_load_mid rfl 42 _ rfl w8.heap.size 0 rfl cG _ RG15.out Tryz.underlying42 rfl IG.out ?_)
    | fail)
  refine C16.out.mono ?_
  rintro e w16 ⟨rfl,hb16⟩
  have D16:=hide (D15.out.trans (hb16.mono D15.out.size))
  have KA16:=hide (KA15.out.below hb16 KA15.out.lt)
  have KW16:=hide (KW15.out.below hb16 KW15.out.lt)
  have KX16:=hide (KX15.out.below hb16 KX15.out.lt)
  have KG16:=hide (KG15.out.below hb16 KG15.out.lt)
  have B16:=hide (B15.out.trans (hb16.mono B15.out.size))
  have DM16:=hide (DM15.out.below hb16 (Nat.le_refl _))
  clear RA15 KA15 RW15 KW15 RX15 KX15 RG15 KG15 B15 DM15
  have RA16:=hide (blk_range KA16.out)
  have RW16:=hide (blk_range KW16.out)
  have RX16:=hide (blk_range KX16.out)
  have RG16:=hide (blk_range KG16.out)
  clear hb16 D15 C16
  go_wp2_with (first
    | (refine wpList_load_mid rfl 60 _ rfl w.heap.size 0 rfl cs _ RA16.out Tryz.underlying60 rfl IA.out ?_)
    | (refine wpList_load_mid rfl 42 _ rfl w4.heap.size 0 rfl cW _ RW16.out Tryz.underlying42 rfl IW.out ?_)
    | (refine wpList_load_mid rfl 73 _ rfl w6.heap.size 0 rfl cX _ RX16.out Tryz.underlying73 rfl IX.out ?_)
    | (refine wpList_load_mid rfl 42 _ rfl w8.heap.size 0 rfl cG _ RG16.out Tryz.underlying42 rfl IG.out ?_)
    | fail)
  refine (HT.out w16 B16.out).mono ?_
  rintro e w17 ⟨u17,rfl,o17,hb17⟩
  have D17:=hide (D16.out.trans (hb17.mono D16.out.size))
  have KA17:=hide (KA16.out.below hb17 KA16.out.lt)
  have KW17:=hide (KW16.out.below hb17 KW16.out.lt)
  have KX17:=hide (KX16.out.below hb17 KX16.out.lt)
  have KG17:=hide (KG16.out.below hb17 KG16.out.lt)
  have B17:=hide (B16.out.trans (hb17.mono B16.out.size))
  have DM17:=hide (DM16.out.below hb17 (Nat.le_refl _))
  clear RA16 KA16 RW16 KW16 RX16 KX16 RG16 KG16 B16 DM16
  have RA17:=hide (blk_range KA17.out)
  have RW17:=hide (blk_range KW17.out)
  have RX17:=hide (blk_range KX17.out)
  have RG17:=hide (blk_range KG17.out)
  have C18:=hide (HI.out u17 w17 o17.rd)
  rw [show noV z0 u17=.agg (noC z0 u17).toArray from rfl] at C18 ⊢
  generalize noC z0 u17=c17 at C18 ⊢
  clear hb17 D16 o17
  go_wp2_with fail
  refine C18.out.mono ?_
  rintro e w18 ⟨uH,rfl,oH,hb18⟩
  have D18:=hide (D17.out.trans (hb18.mono D17.out.size))
  clear C18
  have KA18:=hide (KA17.out.below hb18 KA17.out.lt)
  have KW18:=hide (KW17.out.below hb18 KW17.out.lt)
  have KX18:=hide (KX17.out.below hb18 KX17.out.lt)
  have KG18:=hide (KG17.out.below hb18 KG17.out.lt)
  have B18:=hide (B17.out.trans (hb18.mono B17.out.size))
  have DM18:=hide (DM17.out.below hb18 (Nat.le_refl _))
  clear RA17 KA17 RW17 KW17 RX17 KX17 RG17 KG17 B17 DM17
  have RA18:=hide (blk_range KA18.out)
  have RW18:=hide (blk_range KW18.out)
  have RX18:=hide (blk_range KX18.out)
  have RG18:=hide (blk_range KG18.out)
  obtain ⟨cH,hcH⟩:∃ c,pfC Q uH=c:=⟨_,rfl⟩
  have ecH:=hide (show pfV Q uH=.agg cH.toArray from by rw [<- hcH];rfl)
  rw [ecH.out]
  clear hb18 D17
  have zz18:=B18.out.size
  have bz18:Blk (w18.alloc (.cells #[.int .i64 0,.slice none 0 0,.int .i64 0,.int .i64 0,.slice none 0 0] 42)) w18.heap.size 42 [.int .i64 0,.slice none 0 0,.int .i64 0,.int .i64 0,.slice none 0 0]:=Blk.new w18 _ _
  have oneH:=hide (show cH.toArray.all (·.oneCell')=true from by rw [List.all_toArray,<- hcH];exact pfC_one oH.rd)
  have IH:=hide (show (Tryz.prog.info? 42).map (·.size)=some cH.length from by rw [<- hcH];exact Tryz.infoP5)
  have HtH:=hide (show (w18.alloc (.cells #[.int .i64 0,.slice none 0 0,.int .i64 0,.int .i64 0,.slice none 0 0] 42)).there w18.heap.size 0 cH.toArray.size from bz18.there (by rw [List.size_toArray,<- hcH];rfl))
  obtain ⟨w19,hw19⟩:∃ x,(w18.alloc (.cells #[.int .i64 0,.slice none 0 0,.int .i64 0,.int .i64 0,.slice none 0 0] 42)).setCells w18.heap.size 0 cH=x:=⟨_,rfl⟩
  have KH19:=hide (show Blk w19 w18.heap.size 42 cH from by rw [<- hw19];exact blk_all bz18 (by rw [<- hcH];rfl))
  have hb19:Below w18.heap.size w18 w19:=by rw [<- hw19];exact ((Below.refl _ w18).alloc (Nat.le_refl _) _).trans (putC_below (Nat.le_refl _) _ _ _)
  have Hw19:=hide hw19
  clear bz18 hw19
  have KA19:=hide (KA18.out.below hb19 KA18.out.lt)
  have KW19:=hide (KW18.out.below hb19 KW18.out.lt)
  have KX19:=hide (KX18.out.below hb19 KX18.out.lt)
  have KG19:=hide (KG18.out.below hb19 KG18.out.lt)
  have B19:=hide (B18.out.trans (hb19.mono B18.out.size))
  have DM19:=hide (DM18.out.below hb19 (Nat.le_refl _))
  clear RA18 KA18 RW18 KW18 RX18 KX18 RG18 KG18 B18 DM18
  have RA19:=hide (blk_range KA19.out)
  have RW19:=hide (blk_range KW19.out)
  have RX19:=hide (blk_range KX19.out)
  have RG19:=hide (blk_range KG19.out)
  have RH19:=hide (blk_range KH19.out)
  clear hb19 zz18
  have hb19:Below w18.heap.size w18 w19:=by rw [<- Hw19.out];exact ((Below.refl _ w18).alloc (Nat.le_refl _) _).trans (putC_below (Nat.le_refl _) _ _ _)
  have D19:=hide (D18.out.trans (hb19.mono D18.out.size))
  have C20:=hide (HEr.out uH uW w19 (oH.rd.below hb19 (Nat.le_refl _)) (RW.out.below D19.out (Nat.le_refl _)))
  rw [ecH.out,ecW.out] at C20
  clear oH hcH hb19 D18
  go_wp2_with (first
    | (refine wpList_load_mid rfl 60 _ rfl w.heap.size 0 rfl cs _ RA19.out Tryz.underlying60 rfl IA.out ?_)
    | (refine wpList_load_mid rfl 42 _ rfl w4.heap.size 0 rfl cW _ RW19.out Tryz.underlying42 rfl IW.out ?_)
    | (refine wpList_load_mid rfl 73 _ rfl w6.heap.size 0 rfl cX _ RX19.out Tryz.underlying73 rfl IX.out ?_)
    | (refine wpList_load_mid rfl 42 _ rfl w8.heap.size 0 rfl cG _ RG19.out Tryz.underlying42 rfl IG.out ?_)
    | (refine wpList_load_mid rfl 42 _ rfl w18.heap.size 0 rfl cH _ RH19.out Tryz.underlying42 rfl IH.out ?_)
    | ((refine wpList_store_mid rfl 42 _ _ rfl w18.heap.size 0 cH.toArray rfl rfl HtH.out (by simpa using IH.out) oneH.out ?_;rw [Hw19.out]))
    | fail)
  refine C20.out.mono ?_
  rintro e w20 ⟨rfl,hb20⟩
  have KA20:=hide (KA19.out.below hb20 KA19.out.lt)
  have KW20:=hide (KW19.out.below hb20 KW19.out.lt)
  have KX20:=hide (KX19.out.below hb20 KX19.out.lt)
  have KG20:=hide (KG19.out.below hb20 KG19.out.lt)
  have KH20:=hide (KH19.out.below hb20 KH19.out.lt)
  have B20:=hide (B19.out.trans (hb20.mono B19.out.size))
  have DM20:=hide (DM19.out.below hb20 (Nat.le_refl _))
  clear RA19 KA19 RW19 KW19 RX19 KX19 RG19 KG19 RH19 KH19 B19 DM19
  have RA20:=hide (blk_range KA20.out)
  have RW20:=hide (blk_range KW20.out)
  have RX20:=hide (blk_range KX20.out)
  have RG20:=hide (blk_range KG20.out)
  have RH20:=hide (blk_range KH20.out)
  clear hb20 D19 C20 oneH HtH Hw19
  have C21:=hide (HHr.out uG w20 DM20.out)
  rw [ecG.out] at C21
  go_wp2_with (first
    | (refine wpList_load_mid rfl 60 _ rfl w.heap.size 0 rfl cs _ RA20.out Tryz.underlying60 rfl IA.out ?_)
    | (refine wpList_load_mid rfl 42 _ rfl w4.heap.size 0 rfl cW _ RW20.out Tryz.underlying42 rfl IW.out ?_)
    | (refine wpList_load_mid rfl 73 _ rfl w6.heap.size 0 rfl cX _ RX20.out Tryz.underlying73 rfl IX.out ?_)
    | (refine wpList_load_mid rfl 42 _ rfl w8.heap.size 0 rfl cG _ RG20.out Tryz.underlying42 rfl IG.out ?_)
    | (refine wpList_load_mid rfl 42 _ rfl w18.heap.size 0 rfl cH _ RH20.out Tryz.underlying42 rfl IH.out ?_)
    | fail)
  refine C21.out.mono ?_
  rintro e w21 ⟨rfl,hb21⟩
  have B21:=hide (B20.out.trans (hb21.mono B20.out.size))
  clear hb21
  go_wp2
  go_ret
  exact ⟨rfl,B21.out⟩
theorem fnExactProofOf_lifted (os:Os) (started:os.Started) (H:Type) (enc:TypeId × Value->H) :
    ReturnsInHanded {} Tryz.checked os 4 .any (Rows.fnExactProofOfSpec.pre6 enc Tryz.prog Tryz.f4 Rows.fnExactProofOfRow.domain false) (Rows.fnExactProofOfSpec.post enc Tryz.prog Tryz.f4 false true false false):=by
  refine returnsInHanded_of_change (C:=Tryz.checked) fnExactProofOf_own started (by kernel_rfl) Tryz.func4
    (ChangeSpec.witness6 (enc:=enc) (C:=Tryz.checked) false ⟨#[],#[.agg #[.string ByteArray.empty,.int .i64 0,.int .i64 0,.slice none 0 0,.slice none 0 0,.slice none 0 0,.int .i64 0,.int .i64 0,.int .i64 0,.int .i64 0,.slice none 0 0,.int .i64 0,.slice none 0 0,.slice none 0 0,.int .i64 0,.slice none 0 0,.slice none 0 0,.slice none 0 0,.slice none 0 0,.slice none 0 0],.int .i64 0],[]⟩ 8 (by kernel_rfl) (by kernel_rfl) (by kernel_rfl) (by kernel_rfl)) ?_
  intro W base args ds gs before hval0 hW hcnd _
  have hval:∀ (j:Nat) t v,Tryz.f4.params[j]?=some t->args[j]?=some v->Value.okWide Tryz.prog W .any base t v:=hval0
  have hW':=hW
  obtain ⟨p,q,hA0,hV,rfl,hfz,hnd⟩:=hW
  have hA:DataW.TrodAll enc Tryz.prog W 0 (fun _=>true) true Tryz.f4.params.toList args.toList ds p:=hA0
  rw [Tryz.params4] at hA hval
  obtain ⟨v0,vs0,d0,ds0,p0,q0,hargs,rfl,rfl,h0,r0⟩:=trodAll_cons hA
  obtain ⟨v1,vs1,d1,ds1,p1,q1,rfl,rfl,rfl,h1,r1⟩:=trodAll_cons r0
  obtain ⟨rfl,rfl,rfl⟩:=trodAll_nil r1
  obtain rfl:args=#[v0,v1]:=by cases args;simp_all
  obtain ⟨rfl,rfl⟩:=trodVars_none hV
  have k0:=h0
  have lt0:∀ x ∈ p0,x.block < W.heap.size:=by obtain ⟨m,hm⟩:=k0;exact DataW.trod_lt m _ _ _ hm
  obtain ⟨z0,y0,rfl,w0⟩:∃ (m:Nd) (v:Nv),v0=noV m v/\RdNd W m v/\FitNd m:=by
    obtain ⟨cs,rfl,hsz⟩:=okWide_struct Tryz.underlying60 (hval 0 60 _ rfl rfl)
    obtain ⟨fuel,hf⟩:=h0
    obtain ⟨m,v,q,rest⟩:=open_Nd (by simpa [Value.cells] using hf)
    exact ⟨m,v,by cases cs;simp at q;subst q;rfl,rest⟩
  obtain ⟨a1,rfl,rfl,rfl,w1⟩:=open_int Tryz.underlying3 (hval 1 3 v1 rfl rfl) h1
  clear hA0 hval0
  refine (fnExactProofOf_walk z0 y0 a1 W w0 w1).mono fun e W' ⟨he,bel⟩=>?_
  subst he
  exact ⟨_,rfl,_,_,_,[],_,[],hW',trodAll_mk1 (shut_bool Tryz.underlying4 _),(trodAll_cons_mk (Below.trod fnExactProofOf_laidOut (by kernel_rfl) (of_decide_eq_true (by kernel_rfl)) k0 bel lt0) (trodAll_cons_mk (shut_int Tryz.underlying3 w1) trodAll_mk0)),rfl,bel.frame _,fun h=>by cases h⟩
theorem fnExactProofOf_holds:Rows.FnExactProofOfSaid :=
  OpenClaim.holds_of_wide 4 Tryz.f4 rfl rfl rfl rfl rfl rfl rfl ⟨rfl,rfl,rfl,rfl,rfl⟩ rfl rfl rfl rfl rfl (by kernel_rfl) Tryz.func4 (by kernel_rfl)
    (of_decide_eq_true (by kernel_rfl)) (by unfold Func.isWrapper;first | (rw [if_pos (by decide +kernel)];kernel_rfl) | (rw [if_neg (by decide +kernel)];exact ⟨rfl,rfl⟩))
    (fun os started H enc _=>fnExactProofOf_lifted os started H enc)
end Go.Proofs.YtaidhenkijjcfaaGreat
