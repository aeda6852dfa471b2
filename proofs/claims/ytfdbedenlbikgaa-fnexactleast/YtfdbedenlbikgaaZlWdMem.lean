/- A world. -/
import Derived.Test.YtfdbedenlbikgaaZlMgMem
import Derived.Test.YtfdbedenlbikgaaZlNdMem
namespace Go.Proofs.Ytfdbedenlbikgaa
open Go.RowKit
set_option linter.unusedVariables false
def mgCZ:List Value:=[.int .i64 0,.string { data:=#[] },.int .i64 0,.slice none 0 0,.int .i64 0,.int .i64 0,.string { data:=#[] },.int .i64 0,.int .i64 0,.string { data:=#[] },.int .i64 0,.int .i64 0,.slice none 0 0,.int .i64 0,.slice none 0 0,.slice none 0 0]
theorem mgC_sz (q:Mg × Mv):(mgC q.1 q.2).length=16:=rfl
structure RdMg (w:World) (p:Mg) (u:Mv):Prop where
  kb:RdKs w u.b p.bs
  kq:RdS w u.q p.qw
  kw:RdS w u.w p.tw
  kh:RdI w u.h p.th
theorem RdMg.below {B:Nat} {w w':World} {p:Mg} {u:Mv} (h:RdMg w p u) (hb:Below B w w') (hB:w.heap.size<=B):RdMg w' p u:=⟨h.kb.below hb hB,h.kq.below hb hB,h.kw.below hb hB,h.kh.below hb hB⟩
structure OwnMg (lo hi:Nat) (w:World) (p:Mg) (u:Mv):Prop where
  ex:∃ m0 m1 m2 m3:Nat,lo<=m0/\m0<=m1/\m1<=m2/\m2<=m3/\m3<=hi/\OwnKx m0 m1 w u.b p.bs/\InS m1 m2 w u.q p.qw/\InS m2 m3 w u.w p.tw/\InI m2 m3 w u.h p.th
theorem OwnMg.rd {lo hi:Nat} {w:World} {p:Mg} {u:Mv} (h:OwnMg lo hi w p u):RdMg w p u:=by
  obtain ⟨m0,m1,m2,m3,k0,k1,k2,k3,k4,xb,xq,xw,xh⟩:=h.ex
  exact ⟨xb.rd,xq.rd,xw.rd,xh.rd⟩
theorem OwnMg.kept {lo hi:Nat} {w w':World} {p:Mg} {u:Mv} (h:OwnMg lo hi w p u) (hk:Kept lo hi w w'):OwnMg lo hi w' p u:=by
  obtain ⟨m0,m1,m2,m3,k0,k1,k2,k3,k4,xb,xq,xw,xh⟩:=h.ex
  exact ⟨m0,m1,m2,m3,k0,k1,k2,k3,k4,xb.kept (hk.mono (by omega) (by omega)),xq.kept (hk.mono (by omega) (by omega)),xw.kept (hk.mono (by omega) (by omega)),xh.kept (hk.mono (by omega) (by omega))⟩
def RdMs (w:World) (v:Value) (l:List Mg):Prop:=∃ Z:List (Mg × Mv),Z.map (·.1)=l/\RdRow 16 (fun q=>mgC q.1 q.2) (fun w q=>RdMg w q.1 q.2) w v Z
theorem RdMs.shape {w:World} {v:Value} {l:List Mg} (h:RdMs w v l):∃ a cap,v=.slice a l.length cap:=by
  obtain ⟨Z,rfl,h⟩:=h
  obtain ⟨a,cap,rfl⟩:=h.shape
  exact ⟨a,cap,by simp⟩
theorem RdMs.below {B:Nat} {w w':World} {v:Value} {l:List Mg} (h:RdMs w v l) (hb:Below B w w') (hB:w.heap.size<=B):RdMs w' v l:=by
  obtain ⟨Z,hZ,h⟩:=h
  exact ⟨Z,hZ,h.below hb hB (fun q hq=>hq.below hb hB)⟩
def OwnMx (lo hi:Nat) (w:World) (v:Value) (l:List Mg):Prop:=∃ Z:List (Mg × Mv),Z.map (·.1)=l/\OwnRow 112 16 (fun q=>mgC q.1 q.2) (fun a b w q=>OwnMg a b w q.1 q.2) lo hi w v Z
theorem OwnMx.rd {lo hi:Nat} {w:World} {v:Value} {l:List Mg} (h:OwnMx lo hi w v l):RdMs w v l:=by
  obtain ⟨Z,hZ,h⟩:=h
  exact ⟨Z,hZ,h.rd mgC_sz (fun a b q hq=>hq.rd)⟩
theorem OwnMx.kept {lo hi:Nat} {w w':World} {v:Value} {l:List Mg} (h:OwnMx lo hi w v l) (hk:Kept lo hi w w'):OwnMx lo hi w' v l:=by
  obtain ⟨Z,hZ,h⟩:=h
  exact ⟨Z,hZ,h.kept hk (fun a b q h1 h2 hq=>hq.kept (hk.mono h1 h2))⟩
theorem OwnMx.wide {lo hi lo' hi':Nat} {w:World} {v:Value} {l:List Mg} (h:OwnMx lo hi w v l) (h1:lo'<=lo) (h2:hi<=hi'):OwnMx lo' hi' w v l:=by
  obtain ⟨Z,hZ,h⟩:=h
  exact ⟨Z,hZ,h.wide h1 h2⟩
structure Wd where
  ep:Int
  la:List Ac
  fo:List ByteArray
  ns:List Nd
  bs:List Bk
  sg:List Sn
  ms:List Mg
structure Wv where
  a:Value
  f:Value
  n:Value
  b:Value
  s:Value
  m:Value
def wdC (p:Wd) (u:Wv):List Value:=[.int .i64 p.ep,u.a,u.f,u.n,u.b,u.s,u.m]
def wdV (p:Wd) (u:Wv):Value:=.agg #[.int .i64 p.ep,u.a,u.f,u.n,u.b,u.s,u.m]
def wdCZ:List Value:=[.int .i64 0,.slice none 0 0,.slice none 0 0,.slice none 0 0,.slice none 0 0,.slice none 0 0,.slice none 0 0]
structure RdWd (w:World) (p:Wd) (u:Wv):Prop where
  ka:RdA w u.a p.la
  kf:RdS w u.f p.fo
  kn:RdNs w u.n p.ns
  kb:RdKs w u.b p.bs
  ks:RdSs w u.s p.sg
  km:RdMs w u.m p.ms
theorem RdWd.below {B:Nat} {w w':World} {p:Wd} {u:Wv} (h:RdWd w p u) (hb:Below B w w') (hB:w.heap.size<=B):RdWd w' p u:=⟨h.ka.below hb hB,h.kf.below hb hB,h.kn.below hb hB,h.kb.below hb hB,h.ks.below hb hB,h.km.below hb hB⟩
structure OwnWd (lo hi:Nat) (w:World) (p:Wd) (u:Wv):Prop where
  ex:∃ m0 m1 m2 m3 m4 m5 m6:Nat,lo<=m0/\m0<=m1/\m1<=m2/\m2<=m3/\m3<=m4/\m4<=m5/\m5<=m6/\m6<=hi/\OwnZ m0 m1 w u.a p.la/\InS m1 m2 w u.f p.fo/\OwnNx m2 m3 w u.n p.ns/\OwnKx m3 m4 w u.b p.bs/\OwnSx m4 m5 w u.s p.sg/\OwnMx m5 m6 w u.m p.ms
theorem OwnWd.rd {lo hi:Nat} {w:World} {p:Wd} {u:Wv} (h:OwnWd lo hi w p u):RdWd w p u:=by
  obtain ⟨m0,m1,m2,m3,m4,m5,m6,k0,k1,k2,k3,k4,k5,k6,k7,xa,xf,xn,xb,xs,xm⟩:=h.ex
  exact ⟨xa.rd,xf.rd,xn.rd,xb.rd,xs.rd,xm.rd⟩
def RdWs (w:World) (v:Value) (l:List Wd):Prop:=∃ Z:List (Wd × Wv),Z.map (·.1)=l/\RdRow 7 (fun q=>wdC q.1 q.2) (fun w q=>RdWd w q.1 q.2) w v Z
def OwnWx (lo hi:Nat) (w:World) (v:Value) (l:List Wd):Prop:=∃ Z:List (Wd × Wv),Z.map (·.1)=l/\OwnRow 42 7 (fun q=>wdC q.1 q.2) (fun a b w q=>OwnWd a b w q.1 q.2) lo hi w v Z
end Go.Proofs.Ytfdbedenlbikgaa
