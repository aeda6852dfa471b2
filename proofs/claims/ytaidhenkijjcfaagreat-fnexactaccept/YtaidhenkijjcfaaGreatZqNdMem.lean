/- A node. -/
import Derived.Test.YtaidhenkijjcfaaGreatZqBkHeld
set_option maxRecDepth 20000
set_option maxHeartbeats 8000000
namespace Go.Proofs.YtaidhenkijjcfaaGreat
open Go.RowKit Go.Sort
set_option linter.unusedVariables false
def nlPf (K:Nat) (p:Pf):Nat:=K+totM p.bs+p.qw.length
def mlPf (K:Nat) (p:Pf):Pf:=⟨p.ep,mkLk (K) p.bs,p.qr,p.qb,mkS (K+totM p.bs) p.qw.length⟩
theorem Blk.othP {S:Nat->Prop} {W V:World} {B:Nat} {t:TypeId} {cs:List Value} (h:Blk W B t cs) (hO:Oth S W V) (hn:¬ S B):Blk V B t cs:=(hO.block B h.lt hn).trans h
theorem markProof_own (p:Pf) (u:Pv) (K lo hi:Nat) (w:World) (ho:OwnPf lo hi w p u) (hw:hi<=w.heap.size) (hf:FewPf p) (hle:nlPf K p<=40000000) (hK0:0 < K) :
    Calls Tryz.prog 15 #[pfV p u,.int .i64 (K:Int)] w (Mkd (nlPf K p) lo hi (fun w'=>OwnPf lo hi w' (mlPf K p) u) w):=by
  have hnb:=hf.nb
  have hfb:=hf.fb
  have hnw:=hf.nw
  have HE:=hide (show nlPf K p=nlPf K p from rfl)
  obtain ⟨m0,m1,m2,b0,b1,b2,b3,xb,xw⟩:=ho.ex
  obtain ⟨ep,bs,qr,qb,qw⟩:=p
  obtain ⟨yb,yw⟩:=u
  clear ho hf HE
  simp only at *
  obtain ⟨adb,cpb,rfl⟩:=xb.rd.shape
  obtain ⟨adw,cpw,rfl⟩:=xw.rd.shape
  have HT:=hide (show nlPf K ⟨ep,bs,qr,qb,qw⟩=K+totM bs+qw.length from rfl)
  rw [HT.out] at hle ⊢
  have HD:=hide (show mlPf K ⟨ep,bs,qr,qb,qw⟩=⟨ep,mkLk (K) bs,qr,qb,mkS (K+totM bs) qw.length⟩ from rfl)
  rw [HD.out]
  clear HD HT
  obtain ⟨w0,hw0⟩:∃ x,w.alloc (.cells #[.int .i64 ep,.slice adb bs.length cpb,.int .i64 qr,.int .i64 qb,.slice adw qw.length cpw] 42)=x:=⟨_,rfl⟩
  have b0:Below w.heap.size w w0:=by rw [<- hw0];exact (Below.refl _ w).alloc (Nat.le_refl _) _
  have K0:=hide (show Blk w0 w.heap.size 42 [.int .i64 ep,.slice adb bs.length cpb,.int .i64 qr,.int .i64 qb,.slice adw qw.length cpw] from by rw [<- hw0];exact Blk.new w _ _)
  have Xb:=hide (xb.kept (Kept.of_below b0 (Nat.le_refl _)))
  clear xb
  have Xw:=hide (xw.kept (Kept.of_below b0 (Nat.le_refl _)))
  clear xw
  have HO:=hide (Oth.of_below (S:=fun x=>lo<=x/\x < hi) b0)
  clear b0
  simp only [pfV] at *
  go_enter Tryz.func15,Tryz.ntmps15
  have kk:=K0.out
  have c1:=kk.cell 1
  simp only [List.getElem?_cons_zero,List.getElem?_cons_succ] at c1
  clear kk
  have hq0:K+totM bs<=40000000:=by omega
  have HA:=hide (mkuBlock (.slice adb bs.length cpb) bs (K) m0 m1 _ Xb.out hnb hfb (by omega) (by omega))
  go_wp2_with fail
  (try rw [hw0])
  clear hw0
  refine HA.out.mono ?_
  rintro e w1 ⟨rfl,hx,hoth⟩
  have HOn:=hide (HO.out.trans (hoth.mono (fun x hx=>⟨by omega,by omega⟩)))
  clear HO
  have HO:=HOn
  clear HOn
  have Kn:=hide (K0.out.othP hoth (by omega))
  clear K0
  have K0:=Kn
  clear Kn
  have Xw:=hide (Xw.out.kept (Kept.of_oth hoth (fun k h1 h2=>by omega)))
  have Xn:=hide hx
  clear Xb
  have Xb:=Xn
  clear Xn
  obtain ⟨Q1,hQ1⟩:∃ x:Nat,K+totM bs=x:=⟨_,rfl⟩
  have HQ1:=hide hQ1
  rw [hQ1] at hle ⊢
  have hp1:0 < Q1:=by omega
  rw [hQ1] at hq0
  clear hx hoth HA hQ1 c1
  have kk:=K0.out
  have c2:=kk.cell 2
  have c3:=kk.cell 3
  have c4:=kk.cell 4
  simp only [List.getElem?_cons_zero,List.getElem?_cons_succ] at c2 c3 c4
  clear kk
  have hq1:Q1+qw.length<=40000000:=by omega
  have HA:=hide (mkuQc qr qb (.slice adw qw.length cpw) qw (Q1) m1 m2 _ Xw.out hnw (by omega) (by omega))
  simp only [qcV] at HA
  go_wp2_with fail
  refine HA.out.mono ?_
  rintro e w2 ⟨rfl,hx,hoth⟩
  have HOn:=hide (HO.out.trans (hoth.mono (fun x hx=>⟨by omega,by omega⟩)))
  clear HO
  have HO:=HOn
  clear HOn
  have Kn:=hide (K0.out.othP hoth (by omega))
  clear K0
  have K0:=Kn
  clear Kn
  have Xb:=hide (Xb.out.kept (Kept.of_oth hoth (fun k h1 h2=>by omega)))
  have Xn:=hide hx
  clear Xw
  have Xw:=Xn
  clear Xn
  obtain ⟨Q2,hQ2⟩:∃ x:Nat,Q1+qw.length=x:=⟨_,rfl⟩
  have HQ2:=hide hQ2
  rw [hQ2] at hle ⊢
  have hp2:0 < Q2:=by omega
  rw [hQ2] at hq1
  clear hx hoth HA hQ2 c2 c3 c4
  go_wp2
  go_ret
  unfold Mkd
  simp only [HQ1.out,HQ2.out]
  exact ⟨rfl,⟨m0,m1,m2,b0,b1,b2,b3,Xb.out,Xw.out⟩,HO.out⟩
end Go.Proofs.YtaidhenkijjcfaaGreat
namespace Go.Proofs.YtaidhenkijjcfaaGreat
open Go.RowKit
set_option linter.unusedVariables false
structure Nd where
  nm:ByteArray
  ep:Int
  be:Int
  la:List Ac
  st:List Vl
  tt:List Bk
  rd:Int
  vd:Int
  hr:Int
  hb:Int
  hw:List ByteArray
  tr:Int
  tw:List ByteArray
  th:List Int
  ld:Int
  vo:List Tr
  go:List Tr
  dn:List Int
  pl:List Tx5
  ps:List Pf
structure Nv where
  a:Value
  s:Value
  t:Value
  w:Value
  x:Value
  h:Value
  v:Value
  g:Value
  d:Value
  p:Value
  q:Value
def noC (p:Nd) (u:Nv):List Value:=[.string p.nm,.int .i64 p.ep,.int .i64 p.be,u.a,u.s,u.t,.int .i64 p.rd,.int .i64 p.vd,.int .i64 p.hr,.int .i64 p.hb,u.w,.int .i64 p.tr,u.x,u.h,.int .i64 p.ld,u.v,u.g,u.d,u.p,u.q]
def noV (p:Nd) (u:Nv):Value:=.agg #[.string p.nm,.int .i64 p.ep,.int .i64 p.be,u.a,u.s,u.t,.int .i64 p.rd,.int .i64 p.vd,.int .i64 p.hr,.int .i64 p.hb,u.w,.int .i64 p.tr,u.x,u.h,.int .i64 p.ld,u.v,u.g,u.d,u.p,u.q]
def noCZ:List Value:=[.string { data:=#[] },.int .i64 0,.int .i64 0,.slice none 0 0,.slice none 0 0,.slice none 0 0,.int .i64 0,.int .i64 0,.int .i64 0,.int .i64 0,.slice none 0 0,.int .i64 0,.slice none 0 0,.slice none 0 0,.int .i64 0,.slice none 0 0,.slice none 0 0,.slice none 0 0,.slice none 0 0,.slice none 0 0]
structure RdNd (w:World) (p:Nd) (u:Nv):Prop where
  ka:RdA w u.a p.la
  ks:RdV w u.s p.st
  kt:RdKs w u.t p.tt
  kw:RdS w u.w p.hw
  kx:RdS w u.x p.tw
  kh:RdI w u.h p.th
  kv:RdR w u.v p.vo
  kg:RdR w u.g p.go
  kd:RdI w u.d p.dn
  kp:RdT w u.p p.pl
  kq:RdPs w u.q p.ps
structure OwnNd (lo hi:Nat) (w:World) (p:Nd) (u:Nv):Prop where
  ex:∃ m0 m1 m2 m3 m4 m5 m6 m7 m8 m9 m10:Nat,lo<=m0/\m0<=m1/\m1<=m2/\m2<=m3/\m3<=m4/\m4<=m5/\m5<=m6/\m6<=m7/\m7<=m8/\m8<=m9/\m9<=m10/\m10<=hi/\OwnX m0 m1 w u.a p.la/\InV m1 m2 w u.s p.st/\OwnKx m2 m3 w u.t p.tt/\InS m3 m4 w u.w p.hw/\InS m4 m5 w u.x p.tw/\InI m4 m5 w u.h p.th/\InR 173 m5 m6 w u.v p.vo/\InR 175 m6 m7 w u.g p.go/\InI m7 m8 w u.d p.dn/\InT m8 m9 w u.p p.pl/\OwnPx m9 m10 w u.q p.ps
def RdNs (w:World) (v:Value) (l:List Nd):Prop:=∃ Z:List (Nd × Nv),Z.map (·.1)=l/\RdRow 20 (fun q=>noC q.1 q.2) (fun w q=>RdNd w q.1 q.2) w v Z
def OwnNx (lo hi:Nat) (w:World) (v:Value) (l:List Nd):Prop:=∃ Z:List (Nd × Nv),Z.map (·.1)=l/\OwnRow 73 20 (fun q=>noC q.1 q.2) (fun a b w q=>OwnNd a b w q.1 q.2) lo hi w v Z
end Go.Proofs.YtaidhenkijjcfaaGreat
