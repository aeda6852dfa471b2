/- A block that came in, opened. -/
import Derived.Test.YthidkbhiikdokaaGreatZwBkTo
import Derived.Test.YthidkbhiikdokaaGreatZwTxOpen
namespace Go.Proofs.YthidkbhiikdokaaGreat
open Go.RowKit Go.ChangeShapes Go.WideShapes
set_option linter.unusedVariables false
section
variable {H:Type} {enc:TypeId × Value->H} {w:World} {base:Nat} {spare:Nat->Bool} {held:Bool}
end
end Go.Proofs.YthidkbhiikdokaaGreat
namespace Go.Proofs.YthidkbhiikdokaaGreat
open Go.RowKit Go.ChangeShapes Go.WideShapes
set_option linter.unusedVariables false
structure FitK (b:Bk):Prop where
  q:b.qw.length<=maxLen
  w:b.tw.length<=maxLen
  h:b.th.length<=maxLen
  t:b.ts.length<=maxLen
  n:b.nx.length<=maxLen
  qs:∀ s ∈ b.qw,s.size<=maxLen
  ws:∀ s ∈ b.tw,s.size<=maxLen
  ts:∀ t ∈ b.ts,t.2.1.size<=maxLen/\t.2.2.1.size<=maxLen
  ns:∀ p ∈ b.nx,p.1.size<=maxLen
  ms:b.md.size<=maxLen
  rs:b.rt.size<=maxLen
  wf:(Lit.int .i64 b.id).wf=true/\(Lit.int .i64 b.ep).wf=true/\(Lit.int .i64 b.rd).wf=true/\(Lit.int .i64 b.qr).wf=true/\(Lit.int .i64 b.qb).wf=true/\(Lit.int .i64 b.tr).wf=true
end Go.Proofs.YthidkbhiikdokaaGreat
