/- The model's Padded. -/
import Derived.Test.YtohachldbpejpaaGreatDoorZoPutPure
namespace Go.Proofs.YtohachldbpejpaaGreatDoor
open Go.RowKit
set_option linter.unusedVariables false
def padZ (n:Nat):Nat:=(119 - n % 64) % 64
def be8 (m:Nat):List UInt8:=(List.range 8).map (fun j=>UInt8.ofNat (m / 2 ^ (56 - 8 * j) % 256))
def padB (l:List UInt8):List UInt8:=l ++ 128 :: List.replicate (padZ l.length) 0 ++ be8 (8 * l.length)
theorem padZ_lt (n:Nat):padZ n < 64:=by unfold padZ;omega
theorem be8_at (m j:Nat) (h:j < 8):(be8 m)[j]'(by simpa [be8] using h)=UInt8.ofNat (m / 2 ^ (56 - 8 * j) % 256):=by simp [be8]
theorem be8_len (m:Nat):(be8 m).length=8:=by simp [be8]
theorem byte_div (M d:Nat):(M:Int) / (d:Int) % 256=((UInt8.ofNat (M / d % 256)).toNat:Int):=by
  rw [UInt8.toNat_ofNat',Nat.mod_eq_of_lt (by omega)]
  simp
def sliceLen (v:Value):Nat:=match v with | .slice _ n _=>n | _=>0
end Go.Proofs.YtohachldbpejpaaGreatDoor
