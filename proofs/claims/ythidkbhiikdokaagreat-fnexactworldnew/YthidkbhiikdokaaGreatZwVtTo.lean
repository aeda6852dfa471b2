/- Votes and leavings taken over from the laws' own. -/
import Derived.Test.YthidkbhiikdokaaGreatZwVsSum
set_option maxRecDepth 20000
set_option maxHeartbeats 1000000
namespace Go.Proofs.YthidkbhiikdokaaGreat
open Go.RowKit
set_option linter.unusedVariables false
theorem eqVote_same (r k:Int) (s:ByteArray) (w:World):Calls Tryz.prog 96 #[.agg #[.int .i64 r,.int .i64 k,.string s],.agg #[.int .i64 r,.int .i64 k,.string s]] w fun e w'=>e=.returned (.bool true)/\Below w.heap.size w w':=by
  have HB:=hide (((Below.refl _ w).alloc (Nat.le_refl _) (.cells #[.int .i64 r,.int .i64 k,.string s] 100)).alloc (by simp) (.cells #[.int .i64 r,.int .i64 k,.string s] 100))
  go_enter Tryz.func96,Tryz.ntmps96
  go_wp2
  go_ret
  exact ⟨rfl,HB.out⟩
theorem eqGone_same (r k:Int) (s:ByteArray) (w:World):Calls Tryz.prog 97 #[.agg #[.int .i64 r,.int .i64 k,.string s],.agg #[.int .i64 r,.int .i64 k,.string s]] w fun e w'=>e=.returned (.bool true)/\Below w.heap.size w w':=by
  have HB:=hide (((Below.refl _ w).alloc (Nat.le_refl _) (.cells #[.int .i64 r,.int .i64 k,.string s] 102)).alloc (by simp) (.cells #[.int .i64 r,.int .i64 k,.string s] 102))
  go_enter Tryz.func97,Tryz.ntmps97
  go_wp2
  go_ret
  exact ⟨rfl,HB.out⟩
theorem flat_put3 {α:Type} (L:List (List α)) (i:Nat) (a b c:α) (hi:i < L.length) (h:∀ x ∈ L,x.length=3):((L.flatten.set (i * 3) a).set (i * 3+1) b).set (i * 3+2) c=(L.set i [a,b,c]).flatten:=by
  have e0:=flat_set 3 a L i 0 hi h (by omega)
  rw [Nat.add_zero] at e0
  have hL:∀ x ∈ L.set i (L[i].set 0 a),x.length=3:=fun x hx=>by
    rcases List.mem_or_eq_of_mem_set hx with h' | rfl
    · exact h x h'
    · simpa using h L[i] (List.getElem_mem hi)
  have hL2:∀ x ∈ (L.set i (L[i].set 0 a)).set i (((L.set i (L[i].set 0 a))[i]'(by simpa using hi)).set 1 b),x.length=3:=fun x hx=>by
    rcases List.mem_or_eq_of_mem_set hx with h' | rfl
    · exact hL x h'
    · simpa using h L[i] (List.getElem_mem hi)
  rw [e0,flat_set 3 b _ i 1 (by simpa using hi) hL (by omega),flat_set 3 c _ i 2 (by simpa using hi) hL2 (by omega)]
  have hl:=h L[i] (List.getElem_mem hi)
  congr 1
  rw [List.set_set,List.set_set]
  congr 1
  simp only [List.getElem_set_self]
  match hx:L[i],hl with
  | [x,y,z],_=>rfl
end Go.Proofs.YthidkbhiikdokaaGreat
