/- Apply's answer is the accounts as they were, or accounts that are right (plain). -/
import Derived.Test.YteefibiikampbaaGreatDoorZfLgRow
import Derived.Test.YteefibiikampbaaGreatDoorZfLgAp
namespace Go.Proofs.YteefibiikampbaaGreatDoor
open Go.RowKit
set_option linter.unusedVariables false
theorem lg_acs {e:Int} {l:List Ac} (h:lgB e l=true):acsB l=true:=by unfold lgB at h;rw [Bool.and_eq_true] at h;exact h.2
theorem OwnX.old {base hi:Nat} {w:World} {v:Value} {l:List Ac} (h:OwnX base hi w v l) {b:Nat} (hb:b < base) (j:Nat) (u:Value):OwnX base hi (w.setCell ⟨b,j,none⟩ u) v l :=
  h.btw (Btw.of_grown (lo:=0) (hi:=base) (grown_set w b j u) (fun k hk=>⟨Nat.zero_le _,by cases hk;exact hb⟩)) (.inr (Nat.le_refl _))
theorem apA_is (e:Int) (l:List Ac) (t:Tx5):(apA e l t).1=l\/acsB (apA e l t).1=true:=by
  unfold apA
  split
  · exact .inl rfl
  · split
    · exact .inl rfl
    · split
      · exact .inl rfl
      · split
        · exact .inl rfl
        · split
          · exact .inl rfl
          · rename_i h
            exact .inr (lg_acs (by simpa using h))
end Go.Proofs.YteefibiikampbaaGreatDoor
