/- A word (the datum is MgMem's). In memory. -/
import Derived.Test.YthehfkafcdociaaGreatDoorZyPfMem
namespace Go.Proofs.YthehfkafcdociaaGreatDoor
open Go.RowKit
set_option linter.unusedVariables false
structure Nd where
  nm:ByteArray
  ep:Int
  be:Int
  la:List Ac
  st:List Vl
  tt:List Bk
  rd:Int
  vd:Int
  hr:Int
  hb:Int
  hw:List ByteArray
  tr:Int
  tw:List ByteArray
  th:List Int
  ld:Int
  vo:List Tr
  go:List Tr
  dn:List Int
  pl:List Tx5
  ps:List Pf
structure Nv where
  a:Value
  s:Value
  t:Value
  w:Value
  x:Value
  h:Value
  v:Value
  g:Value
  d:Value
  p:Value
  q:Value
def noC (p:Nd) (u:Nv):List Value:=[.string p.nm,.int .i64 p.ep,.int .i64 p.be,u.a,u.s,u.t,.int .i64 p.rd,.int .i64 p.vd,.int .i64 p.hr,.int .i64 p.hb,u.w,.int .i64 p.tr,u.x,u.h,.int .i64 p.ld,u.v,u.g,u.d,u.p,u.q]
def noV (p:Nd) (u:Nv):Value:=.agg #[.string p.nm,.int .i64 p.ep,.int .i64 p.be,u.a,u.s,u.t,.int .i64 p.rd,.int .i64 p.vd,.int .i64 p.hr,.int .i64 p.hb,u.w,.int .i64 p.tr,u.x,u.h,.int .i64 p.ld,u.v,u.g,u.d,u.p,u.q]
def noCZ:List Value:=[.string { data:=#[] },.int .i64 0,.int .i64 0,.slice none 0 0,.slice none 0 0,.slice none 0 0,.int .i64 0,.int .i64 0,.int .i64 0,.int .i64 0,.slice none 0 0,.int .i64 0,.slice none 0 0,.slice none 0 0,.int .i64 0,.slice none 0 0,.slice none 0 0,.slice none 0 0,.slice none 0 0,.slice none 0 0]
theorem noC_sz (q:Nd × Nv):(noC q.1 q.2).length=20:=rfl
structure RdNd (w:World) (p:Nd) (u:Nv):Prop where
  ka:RdA w u.a p.la
  ks:RdV w u.s p.st
  kt:RdKs w u.t p.tt
  kw:RdS w u.w p.hw
  kx:RdS w u.x p.tw
  kh:RdI w u.h p.th
  kv:RdR w u.v p.vo
  kg:RdR w u.g p.go
  kd:RdI w u.d p.dn
  kp:RdT w u.p p.pl
  kq:RdPs w u.q p.ps
theorem RdNd.below {B:Nat} {w w':World} {p:Nd} {u:Nv} (h:RdNd w p u) (hb:Below B w w') (hB:w.heap.size<=B):RdNd w' p u:=⟨h.ka.below hb hB,h.ks.below hb hB,h.kt.below hb hB,h.kw.below hb hB,h.kx.below hb hB,h.kh.below hb hB,h.kv.below hb hB,h.kg.below hb hB,h.kd.below hb hB,h.kp.below hb hB,h.kq.below hb hB⟩
structure OwnNd (lo hi:Nat) (w:World) (p:Nd) (u:Nv):Prop where
  ex:∃ m0 m1 m2 m3 m4 m5 m6 m7 m8 m9 m10:Nat,lo<=m0/\m0<=m1/\m1<=m2/\m2<=m3/\m3<=m4/\m4<=m5/\m5<=m6/\m6<=m7/\m7<=m8/\m8<=m9/\m9<=m10/\m10<=hi/\OwnX m0 m1 w u.a p.la/\InV m1 m2 w u.s p.st/\OwnKx m2 m3 w u.t p.tt/\InS m3 m4 w u.w p.hw/\InS m4 m5 w u.x p.tw/\InI m4 m5 w u.h p.th/\InR 135 m5 m6 w u.v p.vo/\InR 136 m6 m7 w u.g p.go/\InI m7 m8 w u.d p.dn/\InT m8 m9 w u.p p.pl/\OwnPx m9 m10 w u.q p.ps
theorem OwnNd.rd {lo hi:Nat} {w:World} {p:Nd} {u:Nv} (h:OwnNd lo hi w p u):RdNd w p u:=by
  obtain ⟨m0,m1,m2,m3,m4,m5,m6,m7,m8,m9,m10,k0,k1,k2,k3,k4,k5,k6,k7,k8,k9,k10,k11,xa,xs,xt,xw,xx,xh,xv,xg,xd,xp,xq⟩:=h.ex
  exact ⟨xa.rd,xs.rd,xt.rd,xw.rd,xx.rd,xh.rd,xv.rd,xg.rd,xd.rd,xp.rd,xq.rd⟩
theorem OwnNd.kept {lo hi:Nat} {w w':World} {p:Nd} {u:Nv} (h:OwnNd lo hi w p u) (hk:Kept lo hi w w'):OwnNd lo hi w' p u:=by
  obtain ⟨m0,m1,m2,m3,m4,m5,m6,m7,m8,m9,m10,k0,k1,k2,k3,k4,k5,k6,k7,k8,k9,k10,k11,xa,xs,xt,xw,xx,xh,xv,xg,xd,xp,xq⟩:=h.ex
  exact ⟨m0,m1,m2,m3,m4,m5,m6,m7,m8,m9,m10,k0,k1,k2,k3,k4,k5,k6,k7,k8,k9,k10,k11,xa.kept (hk.mono (by omega) (by omega)),xs.kept (hk.mono (by omega) (by omega)),xt.kept (hk.mono (by omega) (by omega)),xw.kept (hk.mono (by omega) (by omega)),xx.kept (hk.mono (by omega) (by omega)),xh.kept (hk.mono (by omega) (by omega)),xv.kept (hk.mono (by omega) (by omega)),xg.kept (hk.mono (by omega) (by omega)),xd.kept (hk.mono (by omega) (by omega)),xp.kept (hk.mono (by omega) (by omega)),xq.kept (hk.mono (by omega) (by omega))⟩
def RdNs (w:World) (v:Value) (l:List Nd):Prop:=∃ Z:List (Nd × Nv),Z.map (·.1)=l/\RdRow 20 (fun q=>noC q.1 q.2) (fun w q=>RdNd w q.1 q.2) w v Z
theorem RdNs.shape {w:World} {v:Value} {l:List Nd} (h:RdNs w v l):∃ a cap,v=.slice a l.length cap:=by
  obtain ⟨Z,rfl,h⟩:=h
  obtain ⟨a,cap,rfl⟩:=h.shape
  exact ⟨a,cap,by simp⟩
theorem RdNs.below {B:Nat} {w w':World} {v:Value} {l:List Nd} (h:RdNs w v l) (hb:Below B w w') (hB:w.heap.size<=B):RdNs w' v l:=by
  obtain ⟨Z,hZ,h⟩:=h
  exact ⟨Z,hZ,h.below hb hB (fun q hq=>hq.below hb hB)⟩
def OwnNx (lo hi:Nat) (w:World) (v:Value) (l:List Nd):Prop:=∃ Z:List (Nd × Nv),Z.map (·.1)=l/\OwnRow 130 20 (fun q=>noC q.1 q.2) (fun a b w q=>OwnNd a b w q.1 q.2) lo hi w v Z
theorem OwnNx.rd {lo hi:Nat} {w:World} {v:Value} {l:List Nd} (h:OwnNx lo hi w v l):RdNs w v l:=by
  obtain ⟨Z,hZ,h⟩:=h
  exact ⟨Z,hZ,h.rd noC_sz (fun a b q hq=>hq.rd)⟩
theorem OwnNx.kept {lo hi:Nat} {w w':World} {v:Value} {l:List Nd} (h:OwnNx lo hi w v l) (hk:Kept lo hi w w'):OwnNx lo hi w' v l:=by
  obtain ⟨Z,hZ,h⟩:=h
  exact ⟨Z,hZ,h.kept hk (fun a b q h1 h2 hq=>hq.kept (hk.mono h1 h2))⟩
theorem OwnNx.wide {lo hi lo' hi':Nat} {w:World} {v:Value} {l:List Nd} (h:OwnNx lo hi w v l) (h1:lo'<=lo) (h2:hi<=hi'):OwnNx lo' hi' w v l:=by
  obtain ⟨Z,hZ,h⟩:=h
  exact ⟨Z,hZ,h.wide h1 h2⟩
structure Sn where
  kd:Int
  ep:Int
  rd:Int
  wt:Int
  wo:ByteArray
structure Sv
def snC (p:Sn) (u:Sv):List Value:=[.int .i64 p.kd,.int .i64 p.ep,.int .i64 p.rd,.int .i64 p.wt,.string p.wo]
def snV (p:Sn) (u:Sv):Value:=.agg #[.int .i64 p.kd,.int .i64 p.ep,.int .i64 p.rd,.int .i64 p.wt,.string p.wo]
def snCZ:List Value:=[.int .i64 0,.int .i64 0,.int .i64 0,.int .i64 0,.string { data:=#[] }]
theorem snC_sz (q:Sn × Sv):(snC q.1 q.2).length=5:=rfl
structure RdSn (w:World) (p:Sn) (u:Sv):Prop
theorem RdSn.below {B:Nat} {w w':World} {p:Sn} {u:Sv} (h:RdSn w p u) (hb:Below B w w') (hB:w.heap.size<=B):RdSn w' p u:=⟨⟩
structure OwnSn (lo hi:Nat) (w:World) (p:Sn) (u:Sv):Prop where
  ex:∃ m0:Nat,lo<=m0/\m0<=hi/\True
theorem OwnSn.rd {lo hi:Nat} {w:World} {p:Sn} {u:Sv} (h:OwnSn lo hi w p u):RdSn w p u:=by
  obtain ⟨m0,k0,k1,xx⟩:=h.ex
  exact ⟨⟩
theorem OwnSn.kept {lo hi:Nat} {w w':World} {p:Sn} {u:Sv} (h:OwnSn lo hi w p u) (hk:Kept lo hi w w'):OwnSn lo hi w' p u:=by
  obtain ⟨m0,k0,k1,xx⟩:=h.ex
  exact ⟨m0,k0,k1,xx⟩
def RdSs (w:World) (v:Value) (l:List Sn):Prop:=∃ Z:List (Sn × Sv),Z.map (·.1)=l/\RdRow 5 (fun q=>snC q.1 q.2) (fun w q=>RdSn w q.1 q.2) w v Z
theorem RdSs.shape {w:World} {v:Value} {l:List Sn} (h:RdSs w v l):∃ a cap,v=.slice a l.length cap:=by
  obtain ⟨Z,rfl,h⟩:=h
  obtain ⟨a,cap,rfl⟩:=h.shape
  exact ⟨a,cap,by simp⟩
theorem RdSs.below {B:Nat} {w w':World} {v:Value} {l:List Sn} (h:RdSs w v l) (hb:Below B w w') (hB:w.heap.size<=B):RdSs w' v l:=by
  obtain ⟨Z,hZ,h⟩:=h
  exact ⟨Z,hZ,h.below hb hB (fun q hq=>hq.below hb hB)⟩
def OwnSx (lo hi:Nat) (w:World) (v:Value) (l:List Sn):Prop:=∃ Z:List (Sn × Sv),Z.map (·.1)=l/\OwnRow 133 5 (fun q=>snC q.1 q.2) (fun a b w q=>OwnSn a b w q.1 q.2) lo hi w v Z
theorem OwnSx.rd {lo hi:Nat} {w:World} {v:Value} {l:List Sn} (h:OwnSx lo hi w v l):RdSs w v l:=by
  obtain ⟨Z,hZ,h⟩:=h
  exact ⟨Z,hZ,h.rd snC_sz (fun a b q hq=>hq.rd)⟩
theorem OwnSx.kept {lo hi:Nat} {w w':World} {v:Value} {l:List Sn} (h:OwnSx lo hi w v l) (hk:Kept lo hi w w'):OwnSx lo hi w' v l:=by
  obtain ⟨Z,hZ,h⟩:=h
  exact ⟨Z,hZ,h.kept hk (fun a b q h1 h2 hq=>hq.kept (hk.mono h1 h2))⟩
theorem OwnSx.wide {lo hi lo' hi':Nat} {w:World} {v:Value} {l:List Sn} (h:OwnSx lo hi w v l) (h1:lo'<=lo) (h2:hi<=hi'):OwnSx lo' hi' w v l:=by
  obtain ⟨Z,hZ,h⟩:=h
  exact ⟨Z,hZ,h.wide h1 h2⟩
structure Mg where
  kd:Int
  tn:ByteArray
  ep:Int
  bs:List Bk
  vr:Int
  vb:Int
  vw:ByteArray
  gr:Int
  gh:Int
  gw:ByteArray
  qr:Int
  qb:Int
  qw:List ByteArray
  tr:Int
  tw:List ByteArray
  th:List Int
structure Mv where
  b:Value
  q:Value
  w:Value
  h:Value
def mgC (m:Mg) (v:Mv):List Value:=[.int .i64 m.kd,.string m.tn,.int .i64 m.ep,v.b,.int .i64 m.vr,.int .i64 m.vb,.string m.vw,.int .i64 m.gr,.int .i64 m.gh,.string m.gw,.int .i64 m.qr,.int .i64 m.qb,v.q,.int .i64 m.tr,v.w,v.h]
def mgV (m:Mg) (v:Mv):Value:=.agg #[.int .i64 m.kd,.string m.tn,.int .i64 m.ep,v.b,.int .i64 m.vr,.int .i64 m.vb,.string m.vw,.int .i64 m.gr,.int .i64 m.gh,.string m.gw,.int .i64 m.qr,.int .i64 m.qb,v.q,.int .i64 m.tr,v.w,v.h]
structure RdM (w:World) (m:Mg) (v:Mv):Prop where
  b:RdKs w v.b m.bs
  q:RdS w v.q m.qw
  p:RdS w v.w m.tw
  h:RdI w v.h m.th
def mgCZ:List Value:=[.int .i64 0,.string { data:=#[] },.int .i64 0,.slice none 0 0,.int .i64 0,.int .i64 0,.string { data:=#[] },.int .i64 0,.int .i64 0,.string { data:=#[] },.int .i64 0,.int .i64 0,.slice none 0 0,.int .i64 0,.slice none 0 0,.slice none 0 0]
theorem mgC_sz (q:Mg × Mv):(mgC q.1 q.2).length=16:=rfl
structure RdMg (w:World) (p:Mg) (u:Mv):Prop where
  kb:RdKs w u.b p.bs
  kq:RdS w u.q p.qw
  kw:RdS w u.w p.tw
  kh:RdI w u.h p.th
theorem RdMg.below {B:Nat} {w w':World} {p:Mg} {u:Mv} (h:RdMg w p u) (hb:Below B w w') (hB:w.heap.size<=B):RdMg w' p u:=⟨h.kb.below hb hB,h.kq.below hb hB,h.kw.below hb hB,h.kh.below hb hB⟩
structure OwnMg (lo hi:Nat) (w:World) (p:Mg) (u:Mv):Prop where
  ex:∃ m0 m1 m2 m3:Nat,lo<=m0/\m0<=m1/\m1<=m2/\m2<=m3/\m3<=hi/\OwnKx m0 m1 w u.b p.bs/\InS m1 m2 w u.q p.qw/\InS m2 m3 w u.w p.tw/\InI m2 m3 w u.h p.th
theorem OwnMg.rd {lo hi:Nat} {w:World} {p:Mg} {u:Mv} (h:OwnMg lo hi w p u):RdMg w p u:=by
  obtain ⟨m0,m1,m2,m3,k0,k1,k2,k3,k4,xb,xq,xw,xh⟩:=h.ex
  exact ⟨xb.rd,xq.rd,xw.rd,xh.rd⟩
theorem OwnMg.kept {lo hi:Nat} {w w':World} {p:Mg} {u:Mv} (h:OwnMg lo hi w p u) (hk:Kept lo hi w w'):OwnMg lo hi w' p u:=by
  obtain ⟨m0,m1,m2,m3,k0,k1,k2,k3,k4,xb,xq,xw,xh⟩:=h.ex
  exact ⟨m0,m1,m2,m3,k0,k1,k2,k3,k4,xb.kept (hk.mono (by omega) (by omega)),xq.kept (hk.mono (by omega) (by omega)),xw.kept (hk.mono (by omega) (by omega)),xh.kept (hk.mono (by omega) (by omega))⟩
def RdMs (w:World) (v:Value) (l:List Mg):Prop:=∃ Z:List (Mg × Mv),Z.map (·.1)=l/\RdRow 16 (fun q=>mgC q.1 q.2) (fun w q=>RdMg w q.1 q.2) w v Z
theorem RdMs.shape {w:World} {v:Value} {l:List Mg} (h:RdMs w v l):∃ a cap,v=.slice a l.length cap:=by
  obtain ⟨Z,rfl,h⟩:=h
  obtain ⟨a,cap,rfl⟩:=h.shape
  exact ⟨a,cap,by simp⟩
theorem RdMs.below {B:Nat} {w w':World} {v:Value} {l:List Mg} (h:RdMs w v l) (hb:Below B w w') (hB:w.heap.size<=B):RdMs w' v l:=by
  obtain ⟨Z,hZ,h⟩:=h
  exact ⟨Z,hZ,h.below hb hB (fun q hq=>hq.below hb hB)⟩
def OwnMx (lo hi:Nat) (w:World) (v:Value) (l:List Mg):Prop:=∃ Z:List (Mg × Mv),Z.map (·.1)=l/\OwnRow 138 16 (fun q=>mgC q.1 q.2) (fun a b w q=>OwnMg a b w q.1 q.2) lo hi w v Z
theorem OwnMx.rd {lo hi:Nat} {w:World} {v:Value} {l:List Mg} (h:OwnMx lo hi w v l):RdMs w v l:=by
  obtain ⟨Z,hZ,h⟩:=h
  exact ⟨Z,hZ,h.rd mgC_sz (fun a b q hq=>hq.rd)⟩
theorem OwnMx.kept {lo hi:Nat} {w w':World} {v:Value} {l:List Mg} (h:OwnMx lo hi w v l) (hk:Kept lo hi w w'):OwnMx lo hi w' v l:=by
  obtain ⟨Z,hZ,h⟩:=h
  exact ⟨Z,hZ,h.kept hk (fun a b q h1 h2 hq=>hq.kept (hk.mono h1 h2))⟩
theorem OwnMx.wide {lo hi lo' hi':Nat} {w:World} {v:Value} {l:List Mg} (h:OwnMx lo hi w v l) (h1:lo'<=lo) (h2:hi<=hi'):OwnMx lo' hi' w v l:=by
  obtain ⟨Z,hZ,h⟩:=h
  exact ⟨Z,hZ,h.wide h1 h2⟩
end Go.Proofs.YthehfkafcdociaaGreatDoor
