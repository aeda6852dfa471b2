/- The model's roots. -/
import Derived.Test.YtohachldbpejpaaGreatDoorZoBlSpec
import Derived.Test.YtohachldbpejpaaGreatDoorZoStrOwn
namespace Go.Proofs.YtohachldbpejpaaGreatDoor
open Go.RowKit
set_option linter.unusedVariables false
def StrAt (w:World) (b off:Nat) (l:List ByteArray):Prop:=b < w.heap.size/\∀ i (h:i < l.length),w.cell? ⟨b,off+i,none⟩=some (.string l[i])
theorem StrAt.below {B:Nat} {w w':World} {b off:Nat} {l:List ByteArray} (h:StrAt w b off l) (hb:Below B w w') (hB:b < B):StrAt w' b off l :=
  ⟨by have:=hb.size;have:=h.1;omega,fun i hi=>(hb.cell (p:=⟨b,off+i,none⟩) hB).trans (h.2 i hi)⟩
theorem StrAt.drew {w:World} {b off:Nat} {l:List ByteArray} (h:StrAt w b off l):StrAt w.drew b off l:=h.below (Below.refl _ _).drew h.1
theorem StrAt.take {w:World} {b off:Nat} {l:List ByteArray} (h:StrAt w b off l) (k:Nat):StrAt w b off (l.take k) :=
  ⟨h.1,fun i hi=>by rw [h.2 i (by simp at hi;omega)];simp⟩
theorem StrAt.drop {w:World} {b off:Nat} {l:List ByteArray} (h:StrAt w b off l) (k:Nat):StrAt w b (off+k) (l.drop k) :=
  ⟨h.1,fun i hi=>by rw [Nat.add_assoc,h.2 (k+i) (by simp at hi;omega)];simp⟩
theorem StrAt.rd {w:World} {b off cap:Nat} {l:List ByteArray} (h:StrAt w b off l) (h1:l.length<=cap) (h2:cap<=maxLen):RdS w (.slice (some ⟨b,off,none⟩) l.length cap) l:=by
  by_cases hl:l=[]
  · subst hl;exact .inl ⟨_,_,rfl,rfl,fun h=>by cases h⟩
  · exact .inr ⟨b,off,cap,hl,rfl,h1,h2,h.1,h.2⟩
end Go.Proofs.YtohachldbpejpaaGreatDoor
