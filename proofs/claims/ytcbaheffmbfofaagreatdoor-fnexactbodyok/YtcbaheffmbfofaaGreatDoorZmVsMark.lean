/- Part of a proof: joined, and pruned of what the theorem does not use. -/
import Derived.Test.YtcbaheffmbfofaaGreatDoorZmAcMark
import Derived.Deep.RegionWith
import Derived.Test.YtcbaheffmbfofaaGreatDoorZmTxRow
import Derived.Lib.QuietBelow
import Derived.BigQuiet
import Derived.Test.YtcbaheffmbfofaaGreatDoorZmVsMem
namespace Go.Proofs.YtcbaheffmbfofaaGreatDoor
open Go.RowKit
set_option linter.unusedVariables false
end Go.Proofs.YtcbaheffmbfofaaGreatDoor
namespace Go.Proofs.YtcbaheffmbfofaaGreatDoor
open Go.RowKit Go.Sort
set_option linter.unusedVariables false
structure Oth (S:Nat->Prop) (w w':World):Prop where
  os:w'.os=w.os
  tape:w'.tape=w.tape
  output:w'.output=w.output
  size:w.heap.size<=w'.heap.size
  block:∀ k,k < w.heap.size->¬ S k->w'.heap[k]?=w.heap[k]?
def mkT (k n:Nat):List Tx5:=(List.range n).map (fun j=>(((k+5 * j:Nat):Int),mtx (k+5 * j+1),mtx (k+5 * j+2),((k+5 * j+3:Nat):Int),((k+5 * j+4:Nat):Int)))
end Go.Proofs.YtcbaheffmbfofaaGreatDoor
namespace Go.Proofs.YtcbaheffmbfofaaGreatDoor
open Go.RowKit
set_option linter.unusedVariables false
def mkV (k n:Nat):List Vl:=(List.range n).map (fun i=>(mtx (k+2 * i),((k+2 * i+1:Nat):Int)))
end Go.Proofs.YtcbaheffmbfofaaGreatDoor
