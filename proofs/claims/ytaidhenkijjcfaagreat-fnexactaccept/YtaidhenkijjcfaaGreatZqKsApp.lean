/- A block is put behind others; the model's copy of a list of blocks. -/
import Derived.Test.YtaidhenkijjcfaaGreatZqTrChain
import Derived.Test.YtaidhenkijjcfaaGreatZqKsCopy
namespace Go.Proofs.YtaidhenkijjcfaaGreat
open Go.RowKit
set_option linter.unusedVariables false
def ofN (i:Nat):Int:=(i:Int)
structure UpTo (l:List Bk) (id0 id:Int) (O:List Nat):Prop where
  all:chA l id0=chA l id ++ O
  there:O=[]\/id < 0\/0<=atI l id
end Go.Proofs.YtaidhenkijjcfaaGreat
