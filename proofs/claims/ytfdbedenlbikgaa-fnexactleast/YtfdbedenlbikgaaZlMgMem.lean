/- Words. -/
import Derived.Test.YtfdbedenlbikgaaZlInr
namespace Go.Proofs.Ytfdbedenlbikgaa
open Go.RowKit
set_option linter.unusedVariables false
structure Sn where
  kd:Int
  ep:Int
  rd:Int
  wt:Int
  wo:ByteArray
structure Sv
def snC (p:Sn) (u:Sv):List Value:=[.int .i64 p.kd,.int .i64 p.ep,.int .i64 p.rd,.int .i64 p.wt,.string p.wo]
def snV (p:Sn) (u:Sv):Value:=.agg #[.int .i64 p.kd,.int .i64 p.ep,.int .i64 p.rd,.int .i64 p.wt,.string p.wo]
def snCZ:List Value:=[.int .i64 0,.int .i64 0,.int .i64 0,.int .i64 0,.string { data:=#[] }]
theorem snC_sz (q:Sn × Sv):(snC q.1 q.2).length=5:=rfl
structure RdSn (w:World) (p:Sn) (u:Sv):Prop
theorem RdSn.below {B:Nat} {w w':World} {p:Sn} {u:Sv} (h:RdSn w p u) (hb:Below B w w') (hB:w.heap.size<=B):RdSn w' p u:=⟨⟩
structure OwnSn (lo hi:Nat) (w:World) (p:Sn) (u:Sv):Prop where
  ex:∃ m0:Nat,lo<=m0/\m0<=hi/\True
theorem OwnSn.rd {lo hi:Nat} {w:World} {p:Sn} {u:Sv} (h:OwnSn lo hi w p u):RdSn w p u:=by
  obtain ⟨m0,k0,k1,xx⟩:=h.ex
  exact ⟨⟩
theorem OwnSn.kept {lo hi:Nat} {w w':World} {p:Sn} {u:Sv} (h:OwnSn lo hi w p u) (hk:Kept lo hi w w'):OwnSn lo hi w' p u:=by
  obtain ⟨m0,k0,k1,xx⟩:=h.ex
  exact ⟨m0,k0,k1,xx⟩
def RdSs (w:World) (v:Value) (l:List Sn):Prop:=∃ Z:List (Sn × Sv),Z.map (·.1)=l/\RdRow 5 (fun q=>snC q.1 q.2) (fun w q=>RdSn w q.1 q.2) w v Z
theorem RdSs.shape {w:World} {v:Value} {l:List Sn} (h:RdSs w v l):∃ a cap,v=.slice a l.length cap:=by
  obtain ⟨Z,rfl,h⟩:=h
  obtain ⟨a,cap,rfl⟩:=h.shape
  exact ⟨a,cap,by simp⟩
theorem RdSs.below {B:Nat} {w w':World} {v:Value} {l:List Sn} (h:RdSs w v l) (hb:Below B w w') (hB:w.heap.size<=B):RdSs w' v l:=by
  obtain ⟨Z,hZ,h⟩:=h
  exact ⟨Z,hZ,h.below hb hB (fun q hq=>hq.below hb hB)⟩
def OwnSx (lo hi:Nat) (w:World) (v:Value) (l:List Sn):Prop:=∃ Z:List (Sn × Sv),Z.map (·.1)=l/\OwnRow 107 5 (fun q=>snC q.1 q.2) (fun a b w q=>OwnSn a b w q.1 q.2) lo hi w v Z
theorem OwnSx.rd {lo hi:Nat} {w:World} {v:Value} {l:List Sn} (h:OwnSx lo hi w v l):RdSs w v l:=by
  obtain ⟨Z,hZ,h⟩:=h
  exact ⟨Z,hZ,h.rd snC_sz (fun a b q hq=>hq.rd)⟩
theorem OwnSx.kept {lo hi:Nat} {w w':World} {v:Value} {l:List Sn} (h:OwnSx lo hi w v l) (hk:Kept lo hi w w'):OwnSx lo hi w' v l:=by
  obtain ⟨Z,hZ,h⟩:=h
  exact ⟨Z,hZ,h.kept hk (fun a b q h1 h2 hq=>hq.kept (hk.mono h1 h2))⟩
theorem OwnSx.wide {lo hi lo' hi':Nat} {w:World} {v:Value} {l:List Sn} (h:OwnSx lo hi w v l) (h1:lo'<=lo) (h2:hi<=hi'):OwnSx lo' hi' w v l:=by
  obtain ⟨Z,hZ,h⟩:=h
  exact ⟨Z,hZ,h.wide h1 h2⟩
structure Mg where
  kd:Int
  tn:ByteArray
  ep:Int
  bs:List Bk
  vr:Int
  vb:Int
  vw:ByteArray
  gr:Int
  gh:Int
  gw:ByteArray
  qr:Int
  qb:Int
  qw:List ByteArray
  tr:Int
  tw:List ByteArray
  th:List Int
structure Mv where
  b:Value
  q:Value
  w:Value
  h:Value
def mgC (m:Mg) (v:Mv):List Value:=[.int .i64 m.kd,.string m.tn,.int .i64 m.ep,v.b,.int .i64 m.vr,.int .i64 m.vb,.string m.vw,.int .i64 m.gr,.int .i64 m.gh,.string m.gw,.int .i64 m.qr,.int .i64 m.qb,v.q,.int .i64 m.tr,v.w,v.h]
def mgV (m:Mg) (v:Mv):Value:=.agg #[.int .i64 m.kd,.string m.tn,.int .i64 m.ep,v.b,.int .i64 m.vr,.int .i64 m.vb,.string m.vw,.int .i64 m.gr,.int .i64 m.gh,.string m.gw,.int .i64 m.qr,.int .i64 m.qb,v.q,.int .i64 m.tr,v.w,v.h]
structure RdM (w:World) (m:Mg) (v:Mv):Prop where
  b:RdKs w v.b m.bs
  q:RdS w v.q m.qw
  p:RdS w v.w m.tw
  h:RdI w v.h m.th
end Go.Proofs.Ytfdbedenlbikgaa
