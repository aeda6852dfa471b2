/- A list of blocks held against its marks. -/
import Derived.Test.YtaidhenkijjcfaaGreatZqMkRow
namespace Go.Proofs.YtaidhenkijjcfaaGreat
open Go.RowKit Go.Sort
set_option linter.unusedVariables false
def nxPf (K:Nat) (p:Pf):Nat:=K+1+totM p.bs+1+1+p.qw.length
def mkPf (K:Nat) (p:Pf):Pf:=⟨((K:Nat):Int),mkLk (K+1) p.bs,((K+1+totM p.bs:Nat):Int),((K+1+totM p.bs+1:Nat):Int),mkS (K+1+totM p.bs+1+1) p.qw.length⟩
def pfQ (K:Nat) (q:Pf × Pv):Pf × Pv:=(mkPf K q.1,q.2)
def pfN (K:Nat) (q:Pf × Pv):Nat:=nxPf K q.1
end Go.Proofs.YtaidhenkijjcfaaGreat
namespace Go.Proofs.YtaidhenkijjcfaaGreat
open Go.RowKit Go.Sort
set_option linter.unusedVariables false
end Go.Proofs.YtaidhenkijjcfaaGreat
