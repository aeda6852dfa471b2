/- Blocks copied. -/
import Derived.Test.YtaidhenkijjcfaaGreatZqBkPuts
import Derived.Test.YtaidhenkijjcfaaGreatZqTxApp
import Derived.Deep.CutBlock
namespace Go.Proofs.YtaidhenkijjcfaaGreat
open Go.RowKit
set_option linter.unusedVariables false
structure Cp (w S:World) (cs:List Value):Prop where
  p:Blk S w.heap.size 92 cs
  r:Blk S (w.heap.size+1) 92 [.int .i64 0,.int .i64 0,.int .i64 0,.string { data:=#[] },.int .i64 0,.int .i64 0,.slice none 0 0,.int .i64 0,.slice none 0 0,.slice none 0 0,.slice none 0 0,.bool false,.slice none 0 0,.string { data:=#[] }]
  b:Below w.heap.size w S
structure CpG (T:TypeId) (zs:List Value) (w S:World) (cs:List Value):Prop where
  p:Blk S w.heap.size T cs
  r:Blk S (w.heap.size+1) T zs
  b:Below w.heap.size w S
end Go.Proofs.YtaidhenkijjcfaaGreat
