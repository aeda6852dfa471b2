/- A world. -/
import Derived.Test.YteefibiikampbaaGreatDoorZfNdMem
namespace Go.Proofs.YteefibiikampbaaGreatDoor
open Go.RowKit
set_option linter.unusedVariables false
structure Sn where
  kd:Int
  ep:Int
  rd:Int
  wt:Int
  wo:ByteArray
structure Sv
def snC (p:Sn) (u:Sv):List Value:=[.int .i64 p.kd,.int .i64 p.ep,.int .i64 p.rd,.int .i64 p.wt,.string p.wo]
def snV (p:Sn) (u:Sv):Value:=.agg #[.int .i64 p.kd,.int .i64 p.ep,.int .i64 p.rd,.int .i64 p.wt,.string p.wo]
def snCZ:List Value:=[.int .i64 0,.int .i64 0,.int .i64 0,.int .i64 0,.string { data:=#[] }]
theorem snC_sz (q:Sn × Sv):(snC q.1 q.2).length=5:=rfl
structure RdSn (w:World) (p:Sn) (u:Sv):Prop
theorem RdSn.below {B:Nat} {w w':World} {p:Sn} {u:Sv} (h:RdSn w p u) (hb:Below B w w') (hB:w.heap.size<=B):RdSn w' p u:=⟨⟩
structure OwnSn (lo hi:Nat) (w:World) (p:Sn) (u:Sv):Prop where
  ex:∃ m0:Nat,lo<=m0/\m0<=hi/\True
theorem OwnSn.rd {lo hi:Nat} {w:World} {p:Sn} {u:Sv} (h:OwnSn lo hi w p u):RdSn w p u:=by
  obtain ⟨m0,k0,k1,xx⟩:=h.ex
  exact ⟨⟩
theorem OwnSn.kept {lo hi:Nat} {w w':World} {p:Sn} {u:Sv} (h:OwnSn lo hi w p u) (hk:Kept lo hi w w'):OwnSn lo hi w' p u:=by
  obtain ⟨m0,k0,k1,xx⟩:=h.ex
  exact ⟨m0,k0,k1,xx⟩
def RdSs (w:World) (v:Value) (l:List Sn):Prop:=∃ Z:List (Sn × Sv),Z.map (·.1)=l/\RdRow 5 (fun q=>snC q.1 q.2) (fun w q=>RdSn w q.1 q.2) w v Z
theorem RdSs.shape {w:World} {v:Value} {l:List Sn} (h:RdSs w v l):∃ a cap,v=.slice a l.length cap:=by
  obtain ⟨Z,rfl,h⟩:=h
  obtain ⟨a,cap,rfl⟩:=h.shape
  exact ⟨a,cap,by simp⟩
theorem RdSs.below {B:Nat} {w w':World} {v:Value} {l:List Sn} (h:RdSs w v l) (hb:Below B w w') (hB:w.heap.size<=B):RdSs w' v l:=by
  obtain ⟨Z,hZ,h⟩:=h
  exact ⟨Z,hZ,h.below hb hB (fun q hq=>hq.below hb hB)⟩
def OwnSx (lo hi:Nat) (w:World) (v:Value) (l:List Sn):Prop:=∃ Z:List (Sn × Sv),Z.map (·.1)=l/\OwnRow 137 5 (fun q=>snC q.1 q.2) (fun a b w q=>OwnSn a b w q.1 q.2) lo hi w v Z
theorem OwnSx.rd {lo hi:Nat} {w:World} {v:Value} {l:List Sn} (h:OwnSx lo hi w v l):RdSs w v l:=by
  obtain ⟨Z,hZ,h⟩:=h
  exact ⟨Z,hZ,h.rd snC_sz (fun a b q hq=>hq.rd)⟩
theorem OwnSx.kept {lo hi:Nat} {w w':World} {v:Value} {l:List Sn} (h:OwnSx lo hi w v l) (hk:Kept lo hi w w'):OwnSx lo hi w' v l:=by
  obtain ⟨Z,hZ,h⟩:=h
  exact ⟨Z,hZ,h.kept hk (fun a b q h1 h2 hq=>hq.kept (hk.mono h1 h2))⟩
theorem OwnSx.wide {lo hi lo' hi':Nat} {w:World} {v:Value} {l:List Sn} (h:OwnSx lo hi w v l) (h1:lo'<=lo) (h2:hi<=hi'):OwnSx lo' hi' w v l:=by
  obtain ⟨Z,hZ,h⟩:=h
  exact ⟨Z,hZ,h.wide h1 h2⟩
structure Mg where
  kd:Int
  tn:ByteArray
  ep:Int
  bs:List Bk
  vr:Int
  vb:Int
  vw:ByteArray
  gr:Int
  gh:Int
  gw:ByteArray
  qr:Int
  qb:Int
  qw:List ByteArray
  tr:Int
  tw:List ByteArray
  th:List Int
structure Mv where
  b:Value
  q:Value
  w:Value
  h:Value
def mgC (m:Mg) (v:Mv):List Value:=[.int .i64 m.kd,.string m.tn,.int .i64 m.ep,v.b,.int .i64 m.vr,.int .i64 m.vb,.string m.vw,.int .i64 m.gr,.int .i64 m.gh,.string m.gw,.int .i64 m.qr,.int .i64 m.qb,v.q,.int .i64 m.tr,v.w,v.h]
def mgV (m:Mg) (v:Mv):Value:=.agg #[.int .i64 m.kd,.string m.tn,.int .i64 m.ep,v.b,.int .i64 m.vr,.int .i64 m.vb,.string m.vw,.int .i64 m.gr,.int .i64 m.gh,.string m.gw,.int .i64 m.qr,.int .i64 m.qb,v.q,.int .i64 m.tr,v.w,v.h]
structure RdM (w:World) (m:Mg) (v:Mv):Prop where
  b:RdKs w v.b m.bs
  q:RdS w v.q m.qw
  p:RdS w v.w m.tw
  h:RdI w v.h m.th
def mgCZ:List Value:=[.int .i64 0,.string { data:=#[] },.int .i64 0,.slice none 0 0,.int .i64 0,.int .i64 0,.string { data:=#[] },.int .i64 0,.int .i64 0,.string { data:=#[] },.int .i64 0,.int .i64 0,.slice none 0 0,.int .i64 0,.slice none 0 0,.slice none 0 0]
theorem mgC_sz (q:Mg × Mv):(mgC q.1 q.2).length=16:=rfl
structure RdMg (w:World) (p:Mg) (u:Mv):Prop where
  kb:RdKs w u.b p.bs
  kq:RdS w u.q p.qw
  kw:RdS w u.w p.tw
  kh:RdI w u.h p.th
theorem RdMg.below {B:Nat} {w w':World} {p:Mg} {u:Mv} (h:RdMg w p u) (hb:Below B w w') (hB:w.heap.size<=B):RdMg w' p u:=⟨h.kb.below hb hB,h.kq.below hb hB,h.kw.below hb hB,h.kh.below hb hB⟩
structure OwnMg (lo hi:Nat) (w:World) (p:Mg) (u:Mv):Prop where
  ex:∃ m0 m1 m2 m3:Nat,lo<=m0/\m0<=m1/\m1<=m2/\m2<=m3/\m3<=hi/\OwnKx m0 m1 w u.b p.bs/\InS m1 m2 w u.q p.qw/\InS m2 m3 w u.w p.tw/\InI m2 m3 w u.h p.th
theorem OwnMg.rd {lo hi:Nat} {w:World} {p:Mg} {u:Mv} (h:OwnMg lo hi w p u):RdMg w p u:=by
  obtain ⟨m0,m1,m2,m3,k0,k1,k2,k3,k4,xb,xq,xw,xh⟩:=h.ex
  exact ⟨xb.rd,xq.rd,xw.rd,xh.rd⟩
theorem OwnMg.kept {lo hi:Nat} {w w':World} {p:Mg} {u:Mv} (h:OwnMg lo hi w p u) (hk:Kept lo hi w w'):OwnMg lo hi w' p u:=by
  obtain ⟨m0,m1,m2,m3,k0,k1,k2,k3,k4,xb,xq,xw,xh⟩:=h.ex
  exact ⟨m0,m1,m2,m3,k0,k1,k2,k3,k4,xb.kept (hk.mono (by omega) (by omega)),xq.kept (hk.mono (by omega) (by omega)),xw.kept (hk.mono (by omega) (by omega)),xh.kept (hk.mono (by omega) (by omega))⟩
def RdMs (w:World) (v:Value) (l:List Mg):Prop:=∃ Z:List (Mg × Mv),Z.map (·.1)=l/\RdRow 16 (fun q=>mgC q.1 q.2) (fun w q=>RdMg w q.1 q.2) w v Z
theorem RdMs.shape {w:World} {v:Value} {l:List Mg} (h:RdMs w v l):∃ a cap,v=.slice a l.length cap:=by
  obtain ⟨Z,rfl,h⟩:=h
  obtain ⟨a,cap,rfl⟩:=h.shape
  exact ⟨a,cap,by simp⟩
theorem RdMs.below {B:Nat} {w w':World} {v:Value} {l:List Mg} (h:RdMs w v l) (hb:Below B w w') (hB:w.heap.size<=B):RdMs w' v l:=by
  obtain ⟨Z,hZ,h⟩:=h
  exact ⟨Z,hZ,h.below hb hB (fun q hq=>hq.below hb hB)⟩
def OwnMx (lo hi:Nat) (w:World) (v:Value) (l:List Mg):Prop:=∃ Z:List (Mg × Mv),Z.map (·.1)=l/\OwnRow 142 16 (fun q=>mgC q.1 q.2) (fun a b w q=>OwnMg a b w q.1 q.2) lo hi w v Z
theorem OwnMx.rd {lo hi:Nat} {w:World} {v:Value} {l:List Mg} (h:OwnMx lo hi w v l):RdMs w v l:=by
  obtain ⟨Z,hZ,h⟩:=h
  exact ⟨Z,hZ,h.rd mgC_sz (fun a b q hq=>hq.rd)⟩
theorem OwnMx.kept {lo hi:Nat} {w w':World} {v:Value} {l:List Mg} (h:OwnMx lo hi w v l) (hk:Kept lo hi w w'):OwnMx lo hi w' v l:=by
  obtain ⟨Z,hZ,h⟩:=h
  exact ⟨Z,hZ,h.kept hk (fun a b q h1 h2 hq=>hq.kept (hk.mono h1 h2))⟩
theorem OwnMx.wide {lo hi lo' hi':Nat} {w:World} {v:Value} {l:List Mg} (h:OwnMx lo hi w v l) (h1:lo'<=lo) (h2:hi<=hi'):OwnMx lo' hi' w v l:=by
  obtain ⟨Z,hZ,h⟩:=h
  exact ⟨Z,hZ,h.wide h1 h2⟩
structure Wd where
  ep:Int
  la:List Ac
  fo:List ByteArray
  ns:List Nd
  bs:List Bk
  sg:List Sn
  ms:List Mg
structure Wv where
  a:Value
  f:Value
  n:Value
  b:Value
  s:Value
  m:Value
def wdC (p:Wd) (u:Wv):List Value:=[.int .i64 p.ep,u.a,u.f,u.n,u.b,u.s,u.m]
def wdV (p:Wd) (u:Wv):Value:=.agg #[.int .i64 p.ep,u.a,u.f,u.n,u.b,u.s,u.m]
def wdCZ:List Value:=[.int .i64 0,.slice none 0 0,.slice none 0 0,.slice none 0 0,.slice none 0 0,.slice none 0 0,.slice none 0 0]
structure RdWd (w:World) (p:Wd) (u:Wv):Prop where
  ka:RdA w u.a p.la
  kf:RdS w u.f p.fo
  kn:RdNs w u.n p.ns
  kb:RdKs w u.b p.bs
  ks:RdSs w u.s p.sg
  km:RdMs w u.m p.ms
theorem RdWd.below {B:Nat} {w w':World} {p:Wd} {u:Wv} (h:RdWd w p u) (hb:Below B w w') (hB:w.heap.size<=B):RdWd w' p u:=⟨h.ka.below hb hB,h.kf.below hb hB,h.kn.below hb hB,h.kb.below hb hB,h.ks.below hb hB,h.km.below hb hB⟩
structure OwnWd (lo hi:Nat) (w:World) (p:Wd) (u:Wv):Prop where
  ex:∃ m0 m1 m2 m3 m4 m5 m6:Nat,lo<=m0/\m0<=m1/\m1<=m2/\m2<=m3/\m3<=m4/\m4<=m5/\m5<=m6/\m6<=hi/\OwnX m0 m1 w u.a p.la/\InS m1 m2 w u.f p.fo/\OwnNx m2 m3 w u.n p.ns/\OwnKx m3 m4 w u.b p.bs/\OwnSx m4 m5 w u.s p.sg/\OwnMx m5 m6 w u.m p.ms
theorem OwnWd.rd {lo hi:Nat} {w:World} {p:Wd} {u:Wv} (h:OwnWd lo hi w p u):RdWd w p u:=by
  obtain ⟨m0,m1,m2,m3,m4,m5,m6,k0,k1,k2,k3,k4,k5,k6,k7,xa,xf,xn,xb,xs,xm⟩:=h.ex
  exact ⟨xa.rd,xf.rd,xn.rd,xb.rd,xs.rd,xm.rd⟩
def RdWs (w:World) (v:Value) (l:List Wd):Prop:=∃ Z:List (Wd × Wv),Z.map (·.1)=l/\RdRow 7 (fun q=>wdC q.1 q.2) (fun w q=>RdWd w q.1 q.2) w v Z
def OwnWx (lo hi:Nat) (w:World) (v:Value) (l:List Wd):Prop:=∃ Z:List (Wd × Wv),Z.map (·.1)=l/\OwnRow 44 7 (fun q=>wdC q.1 q.2) (fun a b w q=>OwnWd a b w q.1 q.2) lo hi w v Z
end Go.Proofs.YteefibiikampbaaGreatDoor
