/- Plain facts on what the ledger's functions answer. -/
import Derived.Test.YtaidhenkijjcfaaGreatZrLgNext
namespace Go.Proofs.YtaidhenkijjcfaaGreat
open Go.RowKit
set_option linter.unusedVariables false
structure RowG (base:Nat) (w:World) (g n cap:Nat) (Z:List (Ac × Value)):Prop where
  len:Z.length=n
  row:w.ownsRow base 190 5 (.slice (some ⟨g,0,none⟩) n cap) n (Z.map acC).flatten
  lvs:Lvs base w g Z
theorem nxs_tot:∀ (k:Nat) (l:List Ac),nxs k l<=k+4 * l.length+2 * totA l
  | k,[]=>by simp [nxs]
  | k,a :: t=>by
    have h:=nxs_tot (nx k a) t
    have e:totA (a :: t)=wgA a+totA t:=by simp [totA]
    have e2:a.2.2.2.2.length<=wgA a:=by unfold wgA;omega
    unfold nx at h
    simp only [nxs,nx,List.length_cons]
    rw [e]
    omega
end Go.Proofs.YtaidhenkijjcfaaGreat
