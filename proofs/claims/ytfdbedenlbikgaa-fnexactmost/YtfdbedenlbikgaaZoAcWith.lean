/- The model's Credit. -/
import Derived.Test.YtfdbedenlbikgaaZoAcPut
namespace Go.Proofs.Ytfdbedenlbikgaa
open Go.RowKit
set_option linter.unusedVariables false
def tlZ (q:Ac × Value):Value × List (Int × Int):=(q.2,q.1.2.2.2.2)
structure LvQ (base:Nat) (w:World) (g:Nat) (T:List (Value × List (Int × Int))):Prop where
  own:∀ t ∈ T,OwnL base w t.1 t.2
  far:∀ t ∈ T,∀ k,t.1.ownBlock=some k->k ≠ g
  apart:T.Pairwise (fun a b=>∀ k,a.1.ownBlock=some k->b.1.ownBlock ≠ some k)
def midC (Z:List (Ac × Value)) (k:Nat) (x:List Value):List (List Value):=(Z.take k).map acC ++ x :: (Z.drop k).map acC
end Go.Proofs.Ytfdbedenlbikgaa
