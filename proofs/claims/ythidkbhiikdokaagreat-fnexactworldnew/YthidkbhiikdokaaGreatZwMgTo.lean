/- A word (the datum is MgMem's). Taken over from the laws' own. -/
import Derived.Test.YthidkbhiikdokaaGreatZwMgMem
namespace Go.Proofs.YthidkbhiikdokaaGreat
open Go.RowKit
set_option linter.unusedVariables false
def mgCZ:List Value:=[.int .i64 0,.string { data:=#[] },.int .i64 0,.slice none 0 0,.int .i64 0,.int .i64 0,.string { data:=#[] },.int .i64 0,.int .i64 0,.string { data:=#[] },.int .i64 0,.int .i64 0,.slice none 0 0,.int .i64 0,.slice none 0 0,.slice none 0 0]
theorem mgC_sz (q:Mg × Mv):(mgC q.1 q.2).length=16:=rfl
structure RdMg (w:World) (p:Mg) (u:Mv):Prop where
  kb:RdKs w u.b p.bs
  kq:RdS w u.q p.qw
  kw:RdS w u.w p.tw
  kh:RdI w u.h p.th
theorem RdMg.below {B:Nat} {w w':World} {p:Mg} {u:Mv} (h:RdMg w p u) (hb:Below B w w') (hB:w.heap.size<=B):RdMg w' p u:=⟨h.kb.below hb hB,h.kq.below hb hB,h.kw.below hb hB,h.kh.below hb hB⟩
structure OwnMg (lo hi:Nat) (w:World) (p:Mg) (u:Mv):Prop where
  ex:∃ m0 m1 m2 m3:Nat,lo<=m0/\m0<=m1/\m1<=m2/\m2<=m3/\m3<=hi/\OwnKx m0 m1 w u.b p.bs/\InS m1 m2 w u.q p.qw/\InS m2 m3 w u.w p.tw/\InI m2 m3 w u.h p.th
theorem OwnMg.rd {lo hi:Nat} {w:World} {p:Mg} {u:Mv} (h:OwnMg lo hi w p u):RdMg w p u:=by
  obtain ⟨m0,m1,m2,m3,k0,k1,k2,k3,k4,xb,xq,xw,xh⟩:=h.ex
  exact ⟨xb.rd,xq.rd,xw.rd,xh.rd⟩
theorem OwnMg.kept {lo hi:Nat} {w w':World} {p:Mg} {u:Mv} (h:OwnMg lo hi w p u) (hk:Kept lo hi w w'):OwnMg lo hi w' p u:=by
  obtain ⟨m0,m1,m2,m3,k0,k1,k2,k3,k4,xb,xq,xw,xh⟩:=h.ex
  exact ⟨m0,m1,m2,m3,k0,k1,k2,k3,k4,xb.kept (hk.mono (by omega) (by omega)),xq.kept (hk.mono (by omega) (by omega)),xw.kept (hk.mono (by omega) (by omega)),xh.kept (hk.mono (by omega) (by omega))⟩
def RdMs (w:World) (v:Value) (l:List Mg):Prop:=∃ Z:List (Mg × Mv),Z.map (·.1)=l/\RdRow 16 (fun q=>mgC q.1 q.2) (fun w q=>RdMg w q.1 q.2) w v Z
theorem RdMs.shape {w:World} {v:Value} {l:List Mg} (h:RdMs w v l):∃ a cap,v=.slice a l.length cap:=by
  obtain ⟨Z,rfl,h⟩:=h
  obtain ⟨a,cap,rfl⟩:=h.shape
  exact ⟨a,cap,by simp⟩
theorem RdMs.below {B:Nat} {w w':World} {v:Value} {l:List Mg} (h:RdMs w v l) (hb:Below B w w') (hB:w.heap.size<=B):RdMs w' v l:=by
  obtain ⟨Z,hZ,h⟩:=h
  exact ⟨Z,hZ,h.below hb hB (fun q hq=>hq.below hb hB)⟩
def OwnMx (lo hi:Nat) (w:World) (v:Value) (l:List Mg):Prop:=∃ Z:List (Mg × Mv),Z.map (·.1)=l/\OwnRow 104 16 (fun q=>mgC q.1 q.2) (fun a b w q=>OwnMg a b w q.1 q.2) lo hi w v Z
theorem OwnMx.rd {lo hi:Nat} {w:World} {v:Value} {l:List Mg} (h:OwnMx lo hi w v l):RdMs w v l:=by
  obtain ⟨Z,hZ,h⟩:=h
  exact ⟨Z,hZ,h.rd mgC_sz (fun a b q hq=>hq.rd)⟩
theorem OwnMx.kept {lo hi:Nat} {w w':World} {v:Value} {l:List Mg} (h:OwnMx lo hi w v l) (hk:Kept lo hi w w'):OwnMx lo hi w' v l:=by
  obtain ⟨Z,hZ,h⟩:=h
  exact ⟨Z,hZ,h.kept hk (fun a b q h1 h2 hq=>hq.kept (hk.mono h1 h2))⟩
structure FewMg (p:Mg):Prop where
  nb:p.bs.length<=4000000
  fb:∀ b ∈ p.bs,FewK b
  nq:p.qw.length<=4000000
  nw:p.tw.length<=4000000
  nh:p.th.length<=4000000
end Go.Proofs.YthidkbhiikdokaaGreat
