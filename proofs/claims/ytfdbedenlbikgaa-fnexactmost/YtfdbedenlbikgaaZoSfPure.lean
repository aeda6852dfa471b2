/- What is safe, plain. -/
import Derived.Test.YtfdbedenlbikgaaZoWdMem
namespace Go.Proofs.Ytfdbedenlbikgaa
open Go.RowKit
set_option linter.unusedVariables false
theorem sfNd20:(Try.prog.info? 63).map (·.size)=some 20:=by kernel_rfl
theorem sfWd7:(Try.prog.info? 42).map (·.size)=some 7:=by kernel_rfl
theorem RdNs.sf20 {w:World} {a:Option Addr} {cap n:Nat} {l:List Nd} (h:RdNs w (.slice a n cap) l) (hl:0 < l.length):∃ b off,a=some ⟨b,off,none⟩/\n<=cap/\cap<=maxLen/\b < w.heap.size/\∀ i (h:i < l.length),∃ u,w.rangeAt b (off+i * 20) (noC l[i] u)/\RdNd w l[i] u:=by
  obtain ⟨Z,rfl,h⟩:=h
  rcases h with ⟨a',cap',e,rfl,hn⟩ | ⟨b,off,cap',h0,e,h1,h2,h3,h4⟩
  · simp at hl
  · simp only [Value.slice.injEq] at e
    obtain ⟨rfl,rfl,rfl⟩:=e
    refine ⟨b,off,rfl,h1,h2,h3,fun i hi=>?_⟩
    have hi':i < Z.length:=by simpa using hi
    refine ⟨Z[i].2,?_,?_⟩
    · simpa using (h4 i hi').1
    · simpa using (h4 i hi').2
def bgB (a b:List Int):Bool:=decide (a.take (min a.length b.length)=b.take (min a.length b.length))
def prB (l:List Nd):Bool:=decide (∀ i (h:i < l.length) k (hk:k < i),bgB l[i].dn (l[k]'(by omega)).dn=true)
end Go.Proofs.Ytfdbedenlbikgaa
