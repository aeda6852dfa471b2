/- A drawn tree, whole. -/
import Derived.Test.YtmjnkcggomnnjaaZcDrawTr
import Derived.Test.YtmjnkcggomnnjaaZcDrawNew
import Derived.Test.YtmjnkcggomnnjaaZcDrawSz
namespace Go.Proofs.Ytmjnkcggomnnjaa
open Go.RowKit
set_option linter.unusedVariables false

set_option maxRecDepth 20000 in
theorem drawTree_any (w : World) (cv : Value) (code : List UInt8) (hr : RdB w cv code) (hl : code.length ≤ 1048576) :
    Calls Try.prog 7 #[cv] w fun e w' => ∃ (v : Value) (l : List Bk), e = .returned v ∧ RdKs w' v l ∧ treeB l = true ∧ l.length ≤ 1000 ∧ (∀ x ∈ l, DtK x) ∧ Below w.heap.size w w' := by
  have HN := hide (l1New_any w cv code hr hl)
  have Hr := hide hr
  obtain ⟨a, c, rfl⟩ : ∃ a c, cv = .slice a code.length c := by
    rcases hr with ⟨a, c, h1, h2, -⟩ | ⟨b, off, c, h0, h1, _⟩
    · subst h2; exact ⟨a, c, h1⟩
    · exact ⟨_, c, h1⟩
  clear hr
  go_enter Try.func7, Try.ntmps7
  go_wp2_with fail
  refine HN.out.mono ?_
  rintro e w1 ⟨rfl, hc1, hb1⟩
  have HC1 := hide hc1
  clear hc1
  go_wp2_with fail
  refine (l1Size_any (.slice a code.length c) code 20 w1 (Hr.out.below hb1 (Nat.le_refl _)) hl (by omega)).mono ?_
  rintro e w2 ⟨⟨n, rfl, hn⟩, rfl⟩
  go_wp2_with fail
  refine (l10Draw_any w w2 w.heap.size _ code n HC1.out hl (by omega)).mono ?_
  rintro e w3 ⟨v, l, rfl, ho, htb, hlen, hdt, hc3, hg3⟩
  have HB : Hid (Below w.heap.size w w3) := hide hc3.bel
  have Hr3 := hide ho.rd
  have Hdt := hide hdt
  obtain ⟨va, vc, rfl⟩ := ho.rd.shape
  clear ho hc3 hg3 hdt
  go_wp2
  go_ret
  exact ⟨_, l, rfl, Hr3.out, htb, hlen, Hdt.out, HB.out⟩
end Go.Proofs.Ytmjnkcggomnnjaa
