/- The landed code's certificates. -/
import Derived.Test.YthehfkafcdociaaGreatDoorZyVtTo
import Derived.Test.YthehfkafcdociaaGreatDoorZyQtList
namespace Go.Proofs.YthehfkafcdociaaGreatDoor
open Go.RowKit Go.Sort
set_option linter.unusedVariables false
end Go.Proofs.YthehfkafcdociaaGreatDoor
namespace Go.Proofs.YthehfkafcdociaaGreatDoor
open Go.RowKit
set_option linter.unusedVariables false
theorem implWithinC_any (x a b:Int) (w:World) :
    Calls Tryz.prog 102 #[.int .i64 x,.int .i64 a,.int .i64 b] w fun e w'=>e=.returned (.bool (inB x a b))/\w'=w:=by
  by_cases h1:a<=x
  · by_cases h2:x<=b
    · have e:Hid (inB x a b=true):=hide (by simp [inB,h1,h2])
      go_enter Tryz.func102,Tryz.ntmps102
      go_wp2
      go_ret
      rw [e.out];exact ⟨rfl,rfl⟩
    · have e:Hid (inB x a b=false):=hide (by simp [inB,h1,h2])
      go_enter Tryz.func102,Tryz.ntmps102
      go_wp2
      go_ret
      rw [e.out];exact ⟨rfl,rfl⟩
  · have e:Hid (inB x a b=false):=hide (by simp [inB,h1])
    go_enter Tryz.func102,Tryz.ntmps102
    go_wp2
    go_ret
    rw [e.out];exact ⟨rfl,rfl⟩
end Go.Proofs.YthehfkafcdociaaGreatDoor
