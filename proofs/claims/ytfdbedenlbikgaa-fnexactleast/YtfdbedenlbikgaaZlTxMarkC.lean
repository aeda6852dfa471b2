/- Orders marked, with what they are then, and held against their marks. -/
import Derived.Test.YtfdbedenlbikgaaZlTxRow
import Derived.Deep.RegionWith
namespace Go.Proofs.Ytfdbedenlbikgaa
open Go.RowKit
set_option linter.unusedVariables false
end Go.Proofs.Ytfdbedenlbikgaa
namespace Go.Proofs.Ytfdbedenlbikgaa
open Go.RowKit Go.Sort
set_option linter.unusedVariables false
structure Oth (S:Nat->Prop) (w w':World):Prop where
  os:w'.os=w.os
  tape:w'.tape=w.tape
  output:w'.output=w.output
  size:w.heap.size<=w'.heap.size
  block:∀ k,k < w.heap.size->¬ S k->w'.heap[k]?=w.heap[k]?
theorem Oth.of_below {S:Nat->Prop} {w w':World} (h:Below w.heap.size w w'):Oth S w w':=⟨h.os,h.tape,h.output,h.size,fun k hk _=>h.block k hk⟩
theorem Oth.trans {S:Nat->Prop} {a b c:World} (h:Oth S a b) (k:Oth S b c):Oth S a c :=
  ⟨k.os.trans h.os,k.tape.trans h.tape,k.output.trans h.output,Nat.le_trans h.size k.size,fun i hi ho=>(k.block i (Nat.lt_of_lt_of_le hi h.size) ho).trans (h.block i hi ho)⟩
theorem Oth.of_grown {S:Nat->Prop} {w w':World} {row:Option Nat} (h:w.grownBy w' row) (hr:∀ k,row=some k->S k):Oth S w w' :=
  ⟨h.os,h.tape,h.output,h.size,fun k hk ho=>h.block k hk (fun e=>ho (hr k e.symm))⟩
theorem Oth.set {S:Nat->Prop} {w w':World} (h:Oth S w w') {g:Nat} (h1:S g) (j:Nat) (u:Value):Oth S w (w'.setCell ⟨g,j,none⟩ u) :=
  h.trans (Oth.of_grown (grown_set w' g j u) (fun k e=>by cases e;exact h1))
def mkT (k n:Nat):List Tx5:=(List.range n).map (fun j=>(((k+5 * j:Nat):Int),mtx (k+5 * j+1),mtx (k+5 * j+2),((k+5 * j+3:Nat):Int),((k+5 * j+4:Nat):Int)))
end Go.Proofs.Ytfdbedenlbikgaa
