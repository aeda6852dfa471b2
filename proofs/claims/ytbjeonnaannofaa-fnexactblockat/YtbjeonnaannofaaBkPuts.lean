/- One list of a block marked: the others are as they were. -/
import Derived.Test.YtbjeonnaannofaaBkMarkC
import Derived.Test.YtbjeonnaannofaaKsMem
namespace Go.Proofs.Ytbjeonnaannofaa
open Go.RowKit
set_option linter.unusedVariables false

section
variable {base : Nat} {w w' : World} {b : Bk} {v : Bv}
theorem OwnK.putq (h : OwnK base w b v) (hin : ∀ k, v.q.ownBlock = some k → v.w.ownBlock ≠ some k) (x : List ByteArray) (hx : OwnS base w' v.q x) (hO : Oth (fun g => v.q.ownBlock = some g) w w') : OwnK base w' { b with qw := x } v :=
  ⟨hx, row_oth h.p hO (fun g e e2 => hin g e2 e), row_oth h.h hO (fun g e e2 => rows_apart h.q h.h (by decide) g e e2), row_oth h.t hO (fun g e e2 => rows_apart h.q h.t (by decide) g e e2), row_oth h.n hO (fun g e e2 => rows_apart h.q h.n (by decide) g e e2)⟩
theorem OwnK.putw (h : OwnK base w b v) (hin : ∀ k, v.q.ownBlock = some k → v.w.ownBlock ≠ some k) (x : List ByteArray) (hx : OwnS base w' v.w x) (hO : Oth (fun g => v.w.ownBlock = some g) w w') : OwnK base w' { b with tw := x } v :=
  ⟨row_oth h.q hO (fun g e e2 => hin g e e2), hx, row_oth h.h hO (fun g e e2 => rows_apart h.p h.h (by decide) g e e2), row_oth h.t hO (fun g e e2 => rows_apart h.p h.t (by decide) g e e2), row_oth h.n hO (fun g e e2 => rows_apart h.p h.n (by decide) g e e2)⟩
theorem OwnK.puth (h : OwnK base w b v) (x : List Int) (hx : OwnI base w' v.h x) (hO : Oth (fun g => v.h.ownBlock = some g) w w') : OwnK base w' { b with th := x } v :=
  ⟨row_oth h.q hO (fun g e e2 => rows_apart h.h h.q (by decide) g e e2), row_oth h.p hO (fun g e e2 => rows_apart h.h h.p (by decide) g e e2), hx, row_oth h.t hO (fun g e e2 => rows_apart h.h h.t (by decide) g e e2), row_oth h.n hO (fun g e e2 => rows_apart h.h h.n (by decide) g e e2)⟩
theorem OwnK.putt (h : OwnK base w b v) (x : List Tx5) (hx : OwnT base w' v.t x) (hO : Oth (fun g => v.t.ownBlock = some g) w w') : OwnK base w' { b with ts := x } v :=
  ⟨row_oth h.q hO (fun g e e2 => rows_apart h.t h.q (by decide) g e e2), row_oth h.p hO (fun g e e2 => rows_apart h.t h.p (by decide) g e e2), row_oth h.h hO (fun g e e2 => rows_apart h.t h.h (by decide) g e e2), hx, row_oth h.n hO (fun g e e2 => rows_apart h.t h.n (by decide) g e e2)⟩
theorem OwnK.putn (h : OwnK base w b v) (x : List Vl) (hx : OwnV base w' v.n x) (hO : Oth (fun g => v.n.ownBlock = some g) w w') : OwnK base w' { b with nx := x } v :=
  ⟨row_oth h.q hO (fun g e e2 => rows_apart h.n h.q (by decide) g e e2), row_oth h.p hO (fun g e e2 => rows_apart h.n h.p (by decide) g e e2), row_oth h.h hO (fun g e e2 => rows_apart h.n h.h (by decide) g e e2), row_oth h.t hO (fun g e e2 => rows_apart h.n h.t (by decide) g e e2), hx⟩
end
end Go.Proofs.Ytbjeonnaannofaa
