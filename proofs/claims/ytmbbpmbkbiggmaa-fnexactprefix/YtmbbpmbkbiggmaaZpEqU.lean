/- Lists that are the same, held against each other. -/
import Derived.Test.YtmbbpmbkbiggmaaZpNdTo
import Derived.Test.YtmbbpmbkbiggmaaZpVtEq
namespace Go.Proofs.Ytmbbpmbkbiggmaa
open Go.RowKit
set_option linter.unusedVariables false
theorem equLedger (e:Int) (v1 v2:Value) (l:List Ac) (w:World) (h1:RdA w v1 l) (h2:RdA w v2 l) (hl:l.length<=4000000) (ha:∀ a ∈ l,a.2.2.2.2.length<=4000000) :
    Calls Try.prog 25 #[lgV e v1,lgV e v2] w fun en w'=>en=.returned (.bool true)/\Below w.heap.size w w':=by
  refine (eqLedger_any e e v1 v2 l l w h1 h2 hl hl ha ha).mono ?_
  rintro en w' ⟨h1,h2⟩
  exact ⟨by simpa using h1,h2⟩
theorem equVal (v1 v2:Value) (l:List Vl) (w:World) (h1:RdV w v1 l) (h2:RdV w v2 l) (hl:l.length<=4000000) :
    Calls Try.prog 72 #[v1,v2] w fun en w'=>en=.returned (.bool true)/\Below w.heap.size w w':=by
  refine (eqValS_any v1 v2 l l w h1 h2 hl hl).mono ?_
  rintro en w' ⟨h1,h2⟩
  exact ⟨by simpa using h1,h2⟩
theorem equVote (v1 v2:Value) (l:List Tr) (w:World) (h1:RdR w v1 l) (h2:RdR w v2 l) (hl:l.length<=4000000) :
    Calls Try.prog 75 #[v1,v2] w fun en w'=>en=.returned (.bool true)/\Below w.heap.size w w':=by
  refine (eqVoteS_any v1 v2 l l w h1 h2 hl hl).mono ?_
  rintro en w' ⟨h1,h2⟩
  exact ⟨by simpa using h1,h2⟩
theorem equGone (v1 v2:Value) (l:List Tr) (w:World) (h1:RdR w v1 l) (h2:RdR w v2 l) (hl:l.length<=4000000) :
    Calls Try.prog 76 #[v1,v2] w fun en w'=>en=.returned (.bool true)/\Below w.heap.size w w':=by
  refine (eqGoneS_any v1 v2 l l w h1 h2 hl hl).mono ?_
  rintro en w' ⟨h1,h2⟩
  exact ⟨by simpa using h1,h2⟩
theorem equInt (v1 v2:Value) (l:List Int) (w:World) (h1:RdI w v1 l) (h2:RdI w v2 l) (hl:l.length<=4000000) :
    Calls Try.prog 77 #[v1,v2] w fun en w'=>en=.returned (.bool true)/\Below w.heap.size w w':=by
  refine (eqIntS_any v1 v2 l l w h1 h2 hl hl).mono ?_
  rintro en w' ⟨h1,h2⟩
  exact ⟨by simpa using h1,h2 _⟩
theorem equString (v1 v2:Value) (l:List ByteArray) (w:World) (h1:RdS w v1 l) (h2:RdS w v2 l) (hl:l.length<=4000000) :
    Calls Try.prog 26 #[v1,v2] w fun en w'=>en=.returned (.bool true)/\Below w.heap.size w w':=by
  refine (eqStringS_any v1 v2 l l w h1 h2 hl hl).mono ?_
  rintro en w' ⟨h1,h2⟩
  exact ⟨by simpa using h1,h2 _⟩
end Go.Proofs.Ytmbbpmbkbiggmaa
