/- A block copied. -/
import Derived.Test.YtohachldbpejpaaGreatDoorZoBkVal
namespace Go.Proofs.YtohachldbpejpaaGreatDoor
open Go.RowKit
set_option linter.unusedVariables false
structure OwnK (base:Nat) (w:World) (b:Bk) (v:Bv):Prop where
  q:OwnS base w v.q b.qw
  p:OwnS base w v.w b.tw
  h:OwnI base w v.h b.th
  t:OwnT base w v.t b.ts
  n:OwnV base w v.n b.nx
end Go.Proofs.YtohachldbpejpaaGreatDoor
