/- A node. -/
import Derived.Test.YtfdbedenlbikgaaZoInr
namespace Go.Proofs.Ytfdbedenlbikgaa
open Go.RowKit
set_option linter.unusedVariables false
structure Pf where
  ep:Int
  bs:List Bk
  qr:Int
  qb:Int
  qw:List ByteArray
structure Pv where
  b:Value
  w:Value
def pfC (p:Pf) (u:Pv):List Value:=[.int .i64 p.ep,u.b,.int .i64 p.qr,.int .i64 p.qb,u.w]
def pfV (p:Pf) (u:Pv):Value:=.agg #[.int .i64 p.ep,u.b,.int .i64 p.qr,.int .i64 p.qb,u.w]
def pfCZ:List Value:=[.int .i64 0,.slice none 0 0,.int .i64 0,.int .i64 0,.slice none 0 0]
theorem pfC_sz (q:Pf × Pv):(pfC q.1 q.2).length=5:=rfl
structure RdPf (w:World) (p:Pf) (u:Pv):Prop where
  kb:RdKs w u.b p.bs
  kw:RdS w u.w p.qw
theorem RdPf.below {B:Nat} {w w':World} {p:Pf} {u:Pv} (h:RdPf w p u) (hb:Below B w w') (hB:w.heap.size<=B):RdPf w' p u:=⟨h.kb.below hb hB,h.kw.below hb hB⟩
structure OwnPf (lo hi:Nat) (w:World) (p:Pf) (u:Pv):Prop where
  ex:∃ m0 m1 m2:Nat,lo<=m0/\m0<=m1/\m1<=m2/\m2<=hi/\OwnKx m0 m1 w u.b p.bs/\InS m1 m2 w u.w p.qw
theorem OwnPf.rd {lo hi:Nat} {w:World} {p:Pf} {u:Pv} (h:OwnPf lo hi w p u):RdPf w p u:=by
  obtain ⟨m0,m1,m2,k0,k1,k2,k3,xb,xw⟩:=h.ex
  exact ⟨xb.rd,xw.rd⟩
theorem OwnPf.kept {lo hi:Nat} {w w':World} {p:Pf} {u:Pv} (h:OwnPf lo hi w p u) (hk:Kept lo hi w w'):OwnPf lo hi w' p u:=by
  obtain ⟨m0,m1,m2,k0,k1,k2,k3,xb,xw⟩:=h.ex
  exact ⟨m0,m1,m2,k0,k1,k2,k3,xb.kept (hk.mono (by omega) (by omega)),xw.kept (hk.mono (by omega) (by omega))⟩
def RdPs (w:World) (v:Value) (l:List Pf):Prop:=∃ Z:List (Pf × Pv),Z.map (·.1)=l/\RdRow 5 (fun q=>pfC q.1 q.2) (fun w q=>RdPf w q.1 q.2) w v Z
theorem RdPs.shape {w:World} {v:Value} {l:List Pf} (h:RdPs w v l):∃ a cap,v=.slice a l.length cap:=by
  obtain ⟨Z,rfl,h⟩:=h
  obtain ⟨a,cap,rfl⟩:=h.shape
  exact ⟨a,cap,by simp⟩
theorem RdPs.below {B:Nat} {w w':World} {v:Value} {l:List Pf} (h:RdPs w v l) (hb:Below B w w') (hB:w.heap.size<=B):RdPs w' v l:=by
  obtain ⟨Z,hZ,h⟩:=h
  exact ⟨Z,hZ,h.below hb hB (fun q hq=>hq.below hb hB)⟩
def OwnPx (lo hi:Nat) (w:World) (v:Value) (l:List Pf):Prop:=∃ Z:List (Pf × Pv),Z.map (·.1)=l/\OwnRow 174 5 (fun q=>pfC q.1 q.2) (fun a b w q=>OwnPf a b w q.1 q.2) lo hi w v Z
theorem OwnPx.rd {lo hi:Nat} {w:World} {v:Value} {l:List Pf} (h:OwnPx lo hi w v l):RdPs w v l:=by
  obtain ⟨Z,hZ,h⟩:=h
  exact ⟨Z,hZ,h.rd pfC_sz (fun a b q hq=>hq.rd)⟩
theorem OwnPx.kept {lo hi:Nat} {w w':World} {v:Value} {l:List Pf} (h:OwnPx lo hi w v l) (hk:Kept lo hi w w'):OwnPx lo hi w' v l:=by
  obtain ⟨Z,hZ,h⟩:=h
  exact ⟨Z,hZ,h.kept hk (fun a b q h1 h2 hq=>hq.kept (hk.mono h1 h2))⟩
theorem OwnPx.wide {lo hi lo' hi':Nat} {w:World} {v:Value} {l:List Pf} (h:OwnPx lo hi w v l) (h1:lo'<=lo) (h2:hi<=hi'):OwnPx lo' hi' w v l:=by
  obtain ⟨Z,hZ,h⟩:=h
  exact ⟨Z,hZ,h.wide h1 h2⟩
structure Nd where
  nm:ByteArray
  ep:Int
  be:Int
  la:List Ac
  st:List Vl
  tt:List Bk
  rd:Int
  vd:Int
  hr:Int
  hb:Int
  hw:List ByteArray
  tr:Int
  tw:List ByteArray
  th:List Int
  ld:Int
  vo:List Tr
  go:List Tr
  dn:List Int
  pl:List Tx5
  ps:List Pf
structure Nv where
  a:Value
  s:Value
  t:Value
  w:Value
  x:Value
  h:Value
  v:Value
  g:Value
  d:Value
  p:Value
  q:Value
def noC (p:Nd) (u:Nv):List Value:=[.string p.nm,.int .i64 p.ep,.int .i64 p.be,u.a,u.s,u.t,.int .i64 p.rd,.int .i64 p.vd,.int .i64 p.hr,.int .i64 p.hb,u.w,.int .i64 p.tr,u.x,u.h,.int .i64 p.ld,u.v,u.g,u.d,u.p,u.q]
def noV (p:Nd) (u:Nv):Value:=.agg #[.string p.nm,.int .i64 p.ep,.int .i64 p.be,u.a,u.s,u.t,.int .i64 p.rd,.int .i64 p.vd,.int .i64 p.hr,.int .i64 p.hb,u.w,.int .i64 p.tr,u.x,u.h,.int .i64 p.ld,u.v,u.g,u.d,u.p,u.q]
def noCZ:List Value:=[.string { data:=#[] },.int .i64 0,.int .i64 0,.slice none 0 0,.slice none 0 0,.slice none 0 0,.int .i64 0,.int .i64 0,.int .i64 0,.int .i64 0,.slice none 0 0,.int .i64 0,.slice none 0 0,.slice none 0 0,.int .i64 0,.slice none 0 0,.slice none 0 0,.slice none 0 0,.slice none 0 0,.slice none 0 0]
theorem noC_sz (q:Nd × Nv):(noC q.1 q.2).length=20:=rfl
structure RdNd (w:World) (p:Nd) (u:Nv):Prop where
  ka:RdA w u.a p.la
  ks:RdV w u.s p.st
  kt:RdKs w u.t p.tt
  kw:RdS w u.w p.hw
  kx:RdS w u.x p.tw
  kh:RdI w u.h p.th
  kv:RdR w u.v p.vo
  kg:RdR w u.g p.go
  kd:RdI w u.d p.dn
  kp:RdT w u.p p.pl
  kq:RdPs w u.q p.ps
theorem RdNd.below {B:Nat} {w w':World} {p:Nd} {u:Nv} (h:RdNd w p u) (hb:Below B w w') (hB:w.heap.size<=B):RdNd w' p u:=⟨h.ka.below hb hB,h.ks.below hb hB,h.kt.below hb hB,h.kw.below hb hB,h.kx.below hb hB,h.kh.below hb hB,h.kv.below hb hB,h.kg.below hb hB,h.kd.below hb hB,h.kp.below hb hB,h.kq.below hb hB⟩
structure OwnNd (lo hi:Nat) (w:World) (p:Nd) (u:Nv):Prop where
  ex:∃ m0 m1 m2 m3 m4 m5 m6 m7 m8 m9 m10:Nat,lo<=m0/\m0<=m1/\m1<=m2/\m2<=m3/\m3<=m4/\m4<=m5/\m5<=m6/\m6<=m7/\m7<=m8/\m8<=m9/\m9<=m10/\m10<=hi/\OwnX m0 m1 w u.a p.la/\InV m1 m2 w u.s p.st/\OwnKx m2 m3 w u.t p.tt/\InS m3 m4 w u.w p.hw/\InS m4 m5 w u.x p.tw/\InI m4 m5 w u.h p.th/\InR 109 m5 m6 w u.v p.vo/\InR 110 m6 m7 w u.g p.go/\InI m7 m8 w u.d p.dn/\InT m8 m9 w u.p p.pl/\OwnPx m9 m10 w u.q p.ps
theorem OwnNd.rd {lo hi:Nat} {w:World} {p:Nd} {u:Nv} (h:OwnNd lo hi w p u):RdNd w p u:=by
  obtain ⟨m0,m1,m2,m3,m4,m5,m6,m7,m8,m9,m10,k0,k1,k2,k3,k4,k5,k6,k7,k8,k9,k10,k11,xa,xs,xt,xw,xx,xh,xv,xg,xd,xp,xq⟩:=h.ex
  exact ⟨xa.rd,xs.rd,xt.rd,xw.rd,xx.rd,xh.rd,xv.rd,xg.rd,xd.rd,xp.rd,xq.rd⟩
theorem OwnNd.kept {lo hi:Nat} {w w':World} {p:Nd} {u:Nv} (h:OwnNd lo hi w p u) (hk:Kept lo hi w w'):OwnNd lo hi w' p u:=by
  obtain ⟨m0,m1,m2,m3,m4,m5,m6,m7,m8,m9,m10,k0,k1,k2,k3,k4,k5,k6,k7,k8,k9,k10,k11,xa,xs,xt,xw,xx,xh,xv,xg,xd,xp,xq⟩:=h.ex
  exact ⟨m0,m1,m2,m3,m4,m5,m6,m7,m8,m9,m10,k0,k1,k2,k3,k4,k5,k6,k7,k8,k9,k10,k11,xa.kept (hk.mono (by omega) (by omega)),xs.kept (hk.mono (by omega) (by omega)),xt.kept (hk.mono (by omega) (by omega)),xw.kept (hk.mono (by omega) (by omega)),xx.kept (hk.mono (by omega) (by omega)),xh.kept (hk.mono (by omega) (by omega)),xv.kept (hk.mono (by omega) (by omega)),xg.kept (hk.mono (by omega) (by omega)),xd.kept (hk.mono (by omega) (by omega)),xp.kept (hk.mono (by omega) (by omega)),xq.kept (hk.mono (by omega) (by omega))⟩
def RdNs (w:World) (v:Value) (l:List Nd):Prop:=∃ Z:List (Nd × Nv),Z.map (·.1)=l/\RdRow 20 (fun q=>noC q.1 q.2) (fun w q=>RdNd w q.1 q.2) w v Z
theorem RdNs.shape {w:World} {v:Value} {l:List Nd} (h:RdNs w v l):∃ a cap,v=.slice a l.length cap:=by
  obtain ⟨Z,rfl,h⟩:=h
  obtain ⟨a,cap,rfl⟩:=h.shape
  exact ⟨a,cap,by simp⟩
theorem RdNs.below {B:Nat} {w w':World} {v:Value} {l:List Nd} (h:RdNs w v l) (hb:Below B w w') (hB:w.heap.size<=B):RdNs w' v l:=by
  obtain ⟨Z,hZ,h⟩:=h
  exact ⟨Z,hZ,h.below hb hB (fun q hq=>hq.below hb hB)⟩
def OwnNx (lo hi:Nat) (w:World) (v:Value) (l:List Nd):Prop:=∃ Z:List (Nd × Nv),Z.map (·.1)=l/\OwnRow 63 20 (fun q=>noC q.1 q.2) (fun a b w q=>OwnNd a b w q.1 q.2) lo hi w v Z
theorem OwnNx.rd {lo hi:Nat} {w:World} {v:Value} {l:List Nd} (h:OwnNx lo hi w v l):RdNs w v l:=by
  obtain ⟨Z,hZ,h⟩:=h
  exact ⟨Z,hZ,h.rd noC_sz (fun a b q hq=>hq.rd)⟩
theorem OwnNx.kept {lo hi:Nat} {w w':World} {v:Value} {l:List Nd} (h:OwnNx lo hi w v l) (hk:Kept lo hi w w'):OwnNx lo hi w' v l:=by
  obtain ⟨Z,hZ,h⟩:=h
  exact ⟨Z,hZ,h.kept hk (fun a b q h1 h2 hq=>hq.kept (hk.mono h1 h2))⟩
theorem OwnNx.wide {lo hi lo' hi':Nat} {w:World} {v:Value} {l:List Nd} (h:OwnNx lo hi w v l) (h1:lo'<=lo) (h2:hi<=hi'):OwnNx lo' hi' w v l:=by
  obtain ⟨Z,hZ,h⟩:=h
  exact ⟨Z,hZ,h.wide h1 h2⟩
end Go.Proofs.Ytfdbedenlbikgaa
