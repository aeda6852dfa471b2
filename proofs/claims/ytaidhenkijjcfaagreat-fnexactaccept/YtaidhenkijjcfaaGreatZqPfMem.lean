/- A proof. -/
import Derived.Test.YtaidhenkijjcfaaGreatZqMkIn
namespace Go.Proofs.YtaidhenkijjcfaaGreat
open Go.RowKit Go.Sort
set_option linter.unusedVariables false
def clC (e:Int) (v:Value):List Value:=[.int .i64 e,v]
theorem clC_one {w:World} {e:Int} {v:Value} {l:List Vl} (h:RdV w v l):(clC e v).all (·.oneCell')=true:=by
  obtain ⟨a,c,rfl⟩:=h.shape
  rfl
theorem OwnC.kept {lo hi:Nat} {w w':World} {v:Value} {l:List Vl} (h:OwnC lo hi w v l) (hk:Kept lo hi w w'):OwnC lo hi w' v l:=⟨row_kept h.own hk (Nat.le_refl _) h.top,h.top⟩
theorem markClient_own (e:Int) (v:Value) (l:List Vl) (K lo hi:Nat) (w:World) (ho:OwnC lo hi w v l) (hl:l.length<=4000000) (hk:K<=40000000) (hk0:0 < K) :
    Calls Tryz.prog 14 #[lgV e v,.int .i64 (K:Int)] w (Mkd (K+2 * l.length) lo hi (fun w'=>OwnC lo hi w' v (mkV K l.length)) w) :=
  (markClient_any e v l K lo hi w ho (by omega) (by omega) hk0).mono (fun _ _ h=>⟨h.1,h.2.1,oth_btw h.2.2⟩)
end Go.Proofs.YtaidhenkijjcfaaGreat
namespace Go.Proofs.YtaidhenkijjcfaaGreat
open Go.RowKit
set_option linter.unusedVariables false
structure Pf where
  ep:Int
  bs:List Bk
  qr:Int
  qb:Int
  qw:List ByteArray
structure Pv where
  b:Value
  w:Value
def pfC (p:Pf) (u:Pv):List Value:=[.int .i64 p.ep,u.b,.int .i64 p.qr,.int .i64 p.qb,u.w]
def pfV (p:Pf) (u:Pv):Value:=.agg #[.int .i64 p.ep,u.b,.int .i64 p.qr,.int .i64 p.qb,u.w]
def pfCZ:List Value:=[.int .i64 0,.slice none 0 0,.int .i64 0,.int .i64 0,.slice none 0 0]
structure RdPf (w:World) (p:Pf) (u:Pv):Prop where
  kb:RdKs w u.b p.bs
  kw:RdS w u.w p.qw
theorem RdPf.below {B:Nat} {w w':World} {p:Pf} {u:Pv} (h:RdPf w p u) (hb:Below B w w') (hB:w.heap.size<=B):RdPf w' p u:=⟨h.kb.below hb hB,h.kw.below hb hB⟩
structure OwnPf (lo hi:Nat) (w:World) (p:Pf) (u:Pv):Prop where
  ex:∃ m0 m1 m2:Nat,lo<=m0/\m0<=m1/\m1<=m2/\m2<=hi/\OwnKx m0 m1 w u.b p.bs/\InS m1 m2 w u.w p.qw
theorem OwnPf.rd {lo hi:Nat} {w:World} {p:Pf} {u:Pv} (h:OwnPf lo hi w p u):RdPf w p u:=by
  obtain ⟨m0,m1,m2,k0,k1,k2,k3,xb,xw⟩:=h.ex
  exact ⟨xb.rd,xw.rd⟩
theorem OwnPf.kept {lo hi:Nat} {w w':World} {p:Pf} {u:Pv} (h:OwnPf lo hi w p u) (hk:Kept lo hi w w'):OwnPf lo hi w' p u:=by
  obtain ⟨m0,m1,m2,k0,k1,k2,k3,xb,xw⟩:=h.ex
  exact ⟨m0,m1,m2,k0,k1,k2,k3,xb.kept (hk.mono (by omega) (by omega)),xw.kept (hk.mono (by omega) (by omega))⟩
def RdPs (w:World) (v:Value) (l:List Pf):Prop:=∃ Z:List (Pf × Pv),Z.map (·.1)=l/\RdRow 5 (fun q=>pfC q.1 q.2) (fun w q=>RdPf w q.1 q.2) w v Z
def OwnPx (lo hi:Nat) (w:World) (v:Value) (l:List Pf):Prop:=∃ Z:List (Pf × Pv),Z.map (·.1)=l/\OwnRow 42 5 (fun q=>pfC q.1 q.2) (fun a b w q=>OwnPf a b w q.1 q.2) lo hi w v Z
end Go.Proofs.YtaidhenkijjcfaaGreat
