/- A block marked, with what its lists are then; a block held against its marks. -/
import Derived.Test.YtaidhenkijjcfaaGreatZrKsHeld
namespace Go.Proofs.YtaidhenkijjcfaaGreat
open Go.RowKit Go.Sort
set_option linter.unusedVariables false
end Go.Proofs.YtaidhenkijjcfaaGreat
namespace Go.Proofs.YtaidhenkijjcfaaGreat
open Go.RowKit
set_option linter.unusedVariables false
def mkK (k:Nat) (b:Bk):Bk :=
  ⟨b.id,b.ep,b.rd,b.md,b.qr,b.qb,mkS k b.qw.length,b.tr,mkS (k+b.qw.length) b.tw.length,mkI (k+b.qw.length+b.tw.length) b.th.length,mkT (k+b.qw.length+b.tw.length+b.th.length) b.ts.length,b.en,mkV (k+b.qw.length+b.tw.length+b.th.length+5 * b.ts.length) b.nx.length,b.rt⟩
def mkC (k:Nat) (b:Bk):Nat:=k+b.qw.length+b.tw.length+b.th.length+5 * b.ts.length+2 * b.nx.length
end Go.Proofs.YtaidhenkijjcfaaGreat
