/- A node. -/
import Derived.Test.YtaidhenkijjcfaaGreatZrNdTo
import Derived.Test.YtaidhenkijjcfaaGreatZrKsOpen
namespace Go.Proofs.YtaidhenkijjcfaaGreat
open Go.RowKit
set_option linter.unusedVariables false
structure FitPf (p:Pf):Prop where
  wep:(Lit.int .i64 p.ep).wf=true
  lb:p.bs.length<=maxLen
  gb:∀ b ∈ p.bs,FitK b
  wqr:(Lit.int .i64 p.qr).wf=true
  wqb:(Lit.int .i64 p.qb).wf=true
  lw:p.qw.length<=maxLen
  gw:∀ a ∈ p.qw,a.size<=maxLen
structure FitNd (p:Nd):Prop where
  znm:p.nm.size<=maxLen
  wep:(Lit.int .i64 p.ep).wf=true
  wbe:(Lit.int .i64 p.be).wf=true
  la:p.la.length<=maxLen
  ga:∀ a ∈ p.la,a.1.size<=maxLen/\a.2.2.2.2.length<=maxLen
  ls:p.st.length<=maxLen
  gs:∀ a ∈ p.st,a.1.size<=maxLen
  lt:p.tt.length<=maxLen
  gt:∀ b ∈ p.tt,FitK b
  wrd:(Lit.int .i64 p.rd).wf=true
  wvd:(Lit.int .i64 p.vd).wf=true
  whr:(Lit.int .i64 p.hr).wf=true
  whb:(Lit.int .i64 p.hb).wf=true
  lw:p.hw.length<=maxLen
  gw:∀ a ∈ p.hw,a.size<=maxLen
  wtr:(Lit.int .i64 p.tr).wf=true
  lx:p.tw.length<=maxLen
  gx:∀ a ∈ p.tw,a.size<=maxLen
  lh:p.th.length<=maxLen
  wld:(Lit.int .i64 p.ld).wf=true
  lv:p.vo.length<=maxLen
  gv:∀ a ∈ p.vo,a.2.2.size<=maxLen
  lg:p.go.length<=maxLen
  gg:∀ a ∈ p.go,a.2.2.size<=maxLen
  ld:p.dn.length<=maxLen
  lp:p.pl.length<=maxLen
  gp:∀ a ∈ p.pl,a.2.1.size<=maxLen/\a.2.2.1.size<=maxLen
  lq:p.ps.length<=maxLen
  gq:∀ q ∈ p.ps,FitPf q
end Go.Proofs.YtaidhenkijjcfaaGreat
