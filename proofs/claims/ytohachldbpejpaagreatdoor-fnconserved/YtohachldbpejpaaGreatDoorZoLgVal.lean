/- A ledger by value. -/
import Derived.Test.YtohachldbpejpaaGreatDoorZoAcMark
import Derived.Test.YtohachldbpejpaaGreatDoorZoAcEqS
namespace Go.Proofs.YtohachldbpejpaaGreatDoor
open Go.RowKit
set_option linter.unusedVariables false
def lgV (e:Int) (v:Value):Value:=.agg #[.int .i64 e,v]
theorem OwnA.older {base:Nat} {w:World} {v:Value} {l:List Ac} (h:OwnA base w v l) {g:Nat} (hg:g < base) (j:Nat) (u:Value):OwnA base (w.setCell ⟨g,j,none⟩ u) v l :=
  (h.ox.btw (Btw.of_grown (lo:=0) (hi:=base) (grown_set w g j u) (fun k hk=>⟨Nat.zero_le _,by cases hk;exact hg⟩)) (.inr (Nat.le_refl _))).own
end Go.Proofs.YtohachldbpejpaaGreatDoor
