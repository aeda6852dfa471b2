/- Part of a proof: joined, and pruned of what the theorem does not use. -/
import Derived.Test.YtcbaheffmbfofaaGreatDoorZmBkTo
import Derived.Test.YtcbaheffmbfofaaGreatDoorZmVsMark
import Derived.Test.YtcbaheffmbfofaaGreatDoorZmAcMark
import Derived.Deep.RegionWith
import Derived.Lib.QuietBelow
import Derived.BigQuiet
import Derived.Test.YtcbaheffmbfofaaGreatDoorZmBkOpen
namespace Go.Proofs.YtcbaheffmbfofaaGreatDoor
open Go.RowKit
set_option linter.unusedVariables false
def mkI (k n:Nat):List Int:=(List.range n).map (fun j=>((k+j:Nat):Int))
end Go.Proofs.YtcbaheffmbfofaaGreatDoor
namespace Go.Proofs.YtcbaheffmbfofaaGreatDoor
open Go.RowKit Go.Sort
set_option linter.unusedVariables false
end Go.Proofs.YtcbaheffmbfofaaGreatDoor
namespace Go.Proofs.YtcbaheffmbfofaaGreatDoor
open Go.RowKit
set_option linter.unusedVariables false
section
variable {base:Nat} {w w':World} {b:Bk} {v:Bv}
end
end Go.Proofs.YtcbaheffmbfofaaGreatDoor
namespace Go.Proofs.YtcbaheffmbfofaaGreatDoor
open Go.RowKit
set_option linter.unusedVariables false
def mkB (K:Nat) (b:Bk):Bk :=
  ⟨((K:Nat):Int),((K+1:Nat):Int),((K+2:Nat):Int),mtx (K+3),((K+4:Nat):Int),((K+5:Nat):Int),mkS (K+6) b.qw.length,((K+6+b.qw.length:Nat):Int),mkS (K+6+b.qw.length+1) b.tw.length,mkI (K+6+b.qw.length+1+b.tw.length) b.th.length,
    mkT (K+6+b.qw.length+1+b.tw.length+b.th.length) b.ts.length,decide (((K+6+b.qw.length+1+b.tw.length+b.th.length+5 * b.ts.length:Nat):Int) % 3=0),mkV (K+6+b.qw.length+1+b.tw.length+b.th.length+5 * b.ts.length+1) b.nx.length,mtx (K+6+b.qw.length+1+b.tw.length+b.th.length+5 * b.ts.length+1+2 * b.nx.length)⟩
def mkN (b:Bk):Nat:=9+b.qw.length+b.tw.length+b.th.length+5 * b.ts.length+2 * b.nx.length
def totM (l:List Bk):Nat:=(l.map mkN).sum
def mkLk:Nat->List Bk->List Bk
  | _,[]=>[]
  | k,b :: l=>mkB k b :: mkLk (k+mkN b) l
def mixZ (k:Nat) (Z:List (Bk × Bv)) (j:Nat):List (Bk × Bv):=(((mkLk k (Z.map (·.1))).zip (Z.map (·.2))).take j) ++ Z.drop j
structure MidK (base:Nat) (S:Nat->Prop) (w0 w:World) (g n cap:Nat) (Z:List (Bk × Bv)) (Y:List Value):Prop where
  row:w.ownsRow base 50 14 (.slice (some ⟨g,0,none⟩) n cap) n Y
  kvs:Kvs base w g Z
  oth:Oth S w0 w
end Go.Proofs.YtcbaheffmbfofaaGreatDoor
