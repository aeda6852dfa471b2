/- What a world's size leaves. -/
import Derived.Test.YthehfkafcdociaaGreatDoorZyFoFace
import Derived.Test.YthehfkafcdociaaGreatDoorZyFoSpec
import Derived.Test.YthehfkafcdociaaGreatDoorZyWdMk
namespace Go.Proofs.YthehfkafcdociaaGreatDoor
open Go.RowKit
set_option linter.unusedVariables false
theorem specFoldA_any (e0:Int) (vf vn vs vm:Value) (av:Option Addr) (cv:Nat) (l0:List Ac) (adb:Option Addr) (cpb:Nat) (bs:List Bk) (ad:Option Addr) (cd:Nat) (d:List Int) (w:World) (hA:RdA w (.slice av l0.length cv) l0) (hg0:FewG (e0,l0)) (hB:RdKs w (.slice adb bs.length cpb) bs) (hl:bs.length<=4000000) (hfb:∀ b ∈ bs,FewK b) (hD:RdI w (.slice ad d.length cd) d) (hd:d.length<=4000000) :
    Calls Tryz.prog 5 #[.agg #[.int .i64 e0,.slice av l0.length cv,vf,vn,.slice adb bs.length cpb,vs,vm],.slice ad d.length cd] w fun en w'=>∃ v',en=.returned (.tuple #[lgV (foA bs e0 l0 d).1 v',.bool (okD bs d)])/\OwnA w.heap.size w' v' (foA bs e0 l0 d).2/\Below w.heap.size w w' :=
  (specFold_any e0 vf vn vs vm av cv l0 adb cpb bs ad cd d w hA hg0 hB hl hfb hD hd).mono (fun en w' h=>by
    rcases h with ⟨h1,v',rfl,ho,hb⟩ | ⟨h1,v',rfl,ho,hb⟩
    · have e:foA bs e0 l0 d=foD bs e0 l0 d:=by unfold foA;rw [if_pos h1]
      exact ⟨v',by rw [e,h1],by rw [e];exact ho,hb⟩
    · have e:foA bs e0 l0 d=(e0,l0):=by unfold foA;rw [if_neg (by rw [h1];decide)]
      exact ⟨v',by rw [e,h1],by rw [e];exact ho,hb⟩)
end Go.Proofs.YthehfkafcdociaaGreatDoor
namespace Go.Proofs.YthehfkafcdociaaGreatDoor
open Go.RowKit Go.Sort
set_option linter.unusedVariables false
theorem totM_le5 (l:List Bk):totM l<=9 * l.length+5 * totK l:=by
  induction l with
  | nil=>simp [totM]
  | cons b l ih =>
    have e1:totM (b :: l)=mkN b+totM l:=by simp [totM]
    have e2:totK (b :: l)=wgK b+totK l:=by simp [totK]
    rw [e1,e2,List.length_cons]
    unfold mkN wgK
    omega
theorem nxs_le (l:List Ac):∀ k,nxs k l<=k+4 * l.length+2 * totA l:=fun k=>nxs_tot k l
theorem nxG_leW {α:Type} (nx:Nat->α->Nat) (wg:α->Nat) (c:Nat) (h:∀ k a,nx k a<=k+c+c * wg a):∀ (l:List α) (k:Nat),nxG nx k l<=k+c * l.length+c * totG wg l
  | [],k=>by simp [nxG,totG]
  | a :: t,k=>by
    have h1:=nxG_leW nx wg c h t (nx k a)
    have h2:=h k a
    have e:totG wg (a :: t)=wg a+totG wg t:=by simp [totG]
    have e1:c * (wg a+totG wg t)=c * wg a+c * totG wg t:=Nat.mul_add _ _ _
    have e2:c * (t.length+1)=c * t.length+c:=by rw [Nat.mul_add,Nat.mul_one]
    simp only [nxG,List.length_cons]
    rw [e,e1,e2]
    omega
theorem nxPf_le (k:Nat) (p:Pf):nxPf k p<=k+9+9 * wgPf p:=by
  have h:=totM_le5 p.bs
  have e:wgPf p=(p.bs.length+totK p.bs)+p.qw.length:=rfl
  unfold nxPf
  omega
theorem nxNd_le (k:Nat) (p:Nd):nxNd k p<=k+18+18 * wgNd p:=by
  have h1:=nxG_leW nxPf wgPf 9 nxPf_le p.ps
  have h2:=nxs_le p.la
  have h3:=totM_le5 p.tt
  have e:wgNd p=(p.la.length+totA p.la)+p.st.length+(p.tt.length+totK p.tt)+p.hw.length+(p.tw.length+p.th.length)+p.vo.length+p.go.length+p.dn.length+p.pl.length+(p.ps.length+totG wgPf p.ps):=rfl
  unfold nxNd
  have h4:=h1 (nxs (k+1+1+1) p.la+2 * p.st.length+totM p.tt+1+1+1+1+p.hw.length+1+p.tw.length+p.th.length+1+3 * p.vo.length+3 * p.go.length+p.dn.length+5 * p.pl.length)
  have h5:=h2 (k+1+1+1)
  omega
theorem nxSn_le (k:Nat) (p:Sn):nxSn k p<=k+18+18 * wgSn p:=by
  unfold nxSn
  omega
theorem nxMg_le (k:Nat) (p:Mg):nxMg k p<=k+18+18 * wgMg p:=by
  have h:=totM_le5 p.bs
  unfold nxMg wgMg
  omega
theorem nlWd_le (K:Nat) (p:Wd):nlWd K p<=K+18 * wgWd p:=by
  have h1:=nxG_leW nxNd wgNd 18 nxNd_le p.ns
  have h2:=nxG_leW nxSn wgSn 18 nxSn_le p.sg
  have h3:=nxG_leW nxMg wgMg 18 nxMg_le p.ms
  have h4:=nxs_le p.la K
  have h5:=totM_le5 p.bs
  have e:wgWd p=(p.la.length+totA p.la)+p.fo.length+(p.ns.length+totG wgNd p.ns)+(p.bs.length+totK p.bs)+(p.sg.length+totG wgSn p.sg)+(p.ms.length+totG wgMg p.ms):=rfl
  unfold nlWd
  have a1:=h1 (nxs K p.la+p.fo.length)
  have a2:=h2 (nxG nxNd (nxs K p.la+p.fo.length) p.ns+totM p.bs)
  have a3:=h3 (nxG nxSn (nxG nxNd (nxs K p.la+p.fo.length) p.ns+totM p.bs) p.sg)
  omega
theorem nlWd_ge (K:Nat) (p:Wd):K<=nlWd K p:=by
  unfold nlWd
  have h1:=nxs_ge K p.la
  have h2:=nxG_ge nxNd_ge (nxs K p.la+p.fo.length) p.ns
  have h3:=nxG_ge nxSn_ge (nxG nxNd (nxs K p.la+p.fo.length) p.ns+totM p.bs) p.sg
  have h4:=nxG_ge nxMg_ge (nxG nxSn (nxG nxNd (nxs K p.la+p.fo.length) p.ns+totM p.bs) p.sg) p.ms
  omega
theorem foB_is (s:Int × List Ac) (b:Bk):(foB s b).2=s.2\/acsB (foB s b).2=true:=by
  have h:(alA s.1 s.2 b.ts).1=s.2\/acsB (alA s.1 s.2 b.ts).1=true:=alS_is s.1 b.ts (s.2,0)
  unfold foB
  split
  · rcases neA_is s.1 (alA s.1 s.2 b.ts).1 with h1 | h1
    · rw [h1];exact h
    · exact .inr h1
  · exact h
theorem foD_is (bs:List Bk) (e:Int) (l:List Ac) (d:List Int):(foD bs e l d).2=l\/acsB (foD bs e l d).2=true:=by
  have go:∀ (d:List Int) (s:Int × List Ac),(d.foldl (foS bs) s).2=s.2\/acsB (d.foldl (foS bs) s).2=true:=by
    intro d
    induction d with
    | nil=>exact fun s=>.inl rfl
    | cons x t ih =>
      intro s
      rw [List.foldl_cons]
      have h1:(foS bs s x).2=s.2\/acsB (foS bs s x).2=true:=by
        unfold foS
        cases bs[x.toNat]? with
        | none=>exact .inl rfl
        | some b=>exact foB_is s b
      rcases ih (foS bs s x) with h | h
      · rw [h];exact h1
      · exact .inr h
  exact go d (e,l)
theorem foA_small (bs:List Bk) (e:Int) (l:List Ac) (d:List Int) (h:l.length+totA l<=1048576):(foA bs e l d).2.length<=4000000/\(∀ a ∈ (foA bs e l d).2,a.2.2.2.2.length<=4000000)/\nxs 1 (foA bs e l d).2<=40000000:=by
  have h0:l.length<=4000000/\(∀ a ∈ l,a.2.2.2.2.length<=4000000)/\nxs 1 l<=40000000:=by
    refine ⟨by omega,fun a ha=>by have h1:=totA_at l a ha;unfold wgA at h1;omega,by have:=nxs_tot 1 l;omega⟩
  have h1:(foA bs e l d).2=l\/acsB (foA bs e l d).2=true:=by
    unfold foA
    split
    · exact foD_is bs e l d
    · exact .inl rfl
  rcases h1 with h1 | h1
  · rw [h1];exact h0
  · have a1:=acs_len' h1
    have a2:=acs_four h1
    have a3:=nxs_four 1 _ a2
    exact ⟨by omega,fun a ha=>by have:=a2 a ha;omega,by omega⟩
theorem implFoldW (p:Wd) (u:Wv) (d:List Int) (dv:Value) (w:World) (hgh:Gh w) (h:RdWd w p u) (hf:FewWd p) (hg:FewG (p.ep,p.la)) (hd:RdI w dv d) (hl:d.length<=4000000) :
    Calls Tryz.prog 8 #[wdV p u,dv] w fun en w'=>∃ v',en=.returned (.tuple #[lgV (foA p.bs p.ep p.la d).1 v',.bool (okD p.bs d)])/\OwnA w.heap.size w' v' (foA p.bs p.ep p.la d).2/\Below w.heap.size w w':=by
  obtain ⟨va,vf,vn,vb,vs,vm⟩:=u
  obtain ⟨hA,h2,h3,hB,h5,h6⟩:=h
  simp only at *
  obtain ⟨av,cv,rfl⟩:=hA.shape
  obtain ⟨adb,cpb,rfl⟩:=hB.shape
  obtain ⟨ad,cd,rfl⟩:=hd.shape
  exact implFold_any p.ep vf vn vs vm av cv p.la adb cpb p.bs ad cd d w hgh hA hg hB hf.nb hf.fb hd hl
theorem specFoldW (p:Wd) (u:Wv) (d:List Int) (dv:Value) (w:World) (h:RdWd w p u) (hf:FewWd p) (hg:FewG (p.ep,p.la)) (hd:RdI w dv d) (hl:d.length<=4000000) :
    Calls Tryz.prog 5 #[wdV p u,dv] w fun en w'=>∃ v',en=.returned (.tuple #[lgV (foA p.bs p.ep p.la d).1 v',.bool (okD p.bs d)])/\OwnA w.heap.size w' v' (foA p.bs p.ep p.la d).2/\Below w.heap.size w w':=by
  obtain ⟨va,vf,vn,vb,vs,vm⟩:=u
  obtain ⟨hA,h2,h3,hB,h5,h6⟩:=h
  simp only at *
  obtain ⟨av,cv,rfl⟩:=hA.shape
  obtain ⟨adb,cpb,rfl⟩:=hB.shape
  obtain ⟨ad,cd,rfl⟩:=hd.shape
  exact specFoldA_any p.ep vf vn vs vm av cv p.la adb cpb p.bs ad cd d w hA hg hB hf.nb hf.fb hd hl
end Go.Proofs.YthehfkafcdociaaGreatDoor
