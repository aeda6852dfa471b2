/- Nodes by value. -/
import Derived.Test.YtaidhenkijjcfaaGreatZqNdMem
namespace Go.Proofs.YtaidhenkijjcfaaGreat
open Go.RowKit
set_option linter.unusedVariables false
structure FewNd (p:Nd):Prop where
  na:p.la.length<=4000000
  fa:∀ a ∈ p.la,a.2.2.2.2.length<=4000000
  ns:p.st.length<=4000000
  nt:p.tt.length<=4000000
  ft:∀ b ∈ p.tt,FewK b
  nw:p.hw.length<=4000000
  nx:p.tw.length<=4000000
  nh:p.th.length<=4000000
  nv:p.vo.length<=4000000
  ng:p.go.length<=4000000
  nd:p.dn.length<=4000000
  np:p.pl.length<=4000000
  nq:p.ps.length<=4000000
  fq:∀ q ∈ p.ps,FewPf q
end Go.Proofs.YtaidhenkijjcfaaGreat
namespace Go.Proofs.YtaidhenkijjcfaaGreat
open Go.RowKit Go.Sort
set_option linter.unusedVariables false
def nlNd (K:Nat) (p:Nd):Nat:=nxG nxPf (nxs (K) p.la+2 * p.st.length+totM p.tt+p.hw.length+p.tw.length+p.th.length+3 * p.vo.length+3 * p.go.length+p.dn.length+5 * p.pl.length) p.ps
def mlNd (K:Nat) (p:Nd):Nd:=⟨p.nm,p.ep,p.be,mkAs (K) p.la,mkV (nxs (K) p.la) p.st.length,mkLk (nxs (K) p.la+2 * p.st.length) p.tt,p.rd,p.vd,p.hr,p.hb,mkS (nxs (K) p.la+2 * p.st.length+totM p.tt) p.hw.length,p.tr,mkS (nxs (K) p.la+2 * p.st.length+totM p.tt+p.hw.length) p.tw.length,mkI (nxs (K) p.la+2 * p.st.length+totM p.tt+p.hw.length+p.tw.length) p.th.length,p.ld,mkR (nxs (K) p.la+2 * p.st.length+totM p.tt+p.hw.length+p.tw.length+p.th.length) p.vo.length,mkR (nxs (K) p.la+2 * p.st.length+totM p.tt+p.hw.length+p.tw.length+p.th.length+3 * p.vo.length) p.go.length,mkI (nxs (K) p.la+2 * p.st.length+totM p.tt+p.hw.length+p.tw.length+p.th.length+3 * p.vo.length+3 * p.go.length) p.dn.length,mkT (nxs (K) p.la+2 * p.st.length+totM p.tt+p.hw.length+p.tw.length+p.th.length+3 * p.vo.length+3 * p.go.length+p.dn.length) p.pl.length,mkG mkPf nxPf (nxs (K) p.la+2 * p.st.length+totM p.tt+p.hw.length+p.tw.length+p.th.length+3 * p.vo.length+3 * p.go.length+p.dn.length+5 * p.pl.length) p.ps⟩
end Go.Proofs.YtaidhenkijjcfaaGreat
