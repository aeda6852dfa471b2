/- A set of signatures, as a map. -/
import Derived.Test.YtmbbpmbkbiggmaaZoSgMem
import Derived.Maps.OwnSet
import Derived.Maps.Views
import Derived.DeepKeys4
namespace Go.Proofs.Ytmbbpmbkbiggmaa
open Go.RowKit Go.Maps
set_option linter.unusedVariables false
set_option linter.unusedSimpArgs false
theorem Try.laidOutS:laidOutB Try.prog=true:=by kernel_rfl
theorem sg_law:Keyed Try.prog 53:=Keyed.of_law (deep_law_laid Try.laidOutS (m:=3) (by omega) (of_decide_eq_true (by kernel_rfl)) (by kernel_rfl) (by kernel_rfl))
structure WfS (s:Sg):Prop where
  c0:(Lit.int .i64 s.1).wf=true
  c1:(Lit.int .i64 s.2.1).wf=true
  c2:(Lit.int .i64 s.2.2.1).wf=true
  c3:(Lit.int .i64 s.2.2.2.1).wf=true
  c4:s.2.2.2.2.size<=maxLen
def kyS (s:Sg):Lit:=.string (keyBytes [.int .i64 s.1,.int .i64 s.2.1,.int .i64 s.2.2.1,.int .i64 s.2.2.2.1,.string s.2.2.2.2.data.toList])
theorem Try.sizeS:∃ n,Try.prog.types.size=n+3:=⟨Try.prog.types.size - 3,by kernel_rfl⟩
theorem Try.cellsS:Try.prog.cellsOf 53=5:=by kernel_rfl
theorem Try.cellsI:Try.prog.cellsOf 3=1:=by kernel_rfl
theorem Try.cellsT:Try.prog.cellsOf 9=1:=by kernel_rfl
theorem Try.keyS:Try.prog.keyType 53=true:=by kernel_rfl
theorem ky_of {s:Sg} (h:WfS s):keyOf Try.prog 53 (sgV s)=some (kyS s):=by
  obtain ⟨n,hn⟩:=Try.sizeS
  obtain ⟨k,e,r,x,m⟩:=s
  obtain ⟨h0,h1,h2,h3,h4⟩:=h
  simp only at h0 h1 h2 h3 h4
  unfold keyOf
  rw [Try.underlying53]
  have hf:(sgV (k,e,r,x,m)).formed Try.prog 53=true:=by
    simp [Value.formed,Try.underlying53,Try.cellsS,sgV]
  simp only [Try.keyS,hf,Bool.and_self,if_true,hn]
  simp [Program.keyLits,Try.underlying53,Try.underlying3,Try.underlying9,Try.cellsS,Try.cellsI,Try.cellsT,sgV,Value.cells,kyS,h0,h1,h2,h3,h4,mapKey]
theorem ky_key {s:Sg} (h:WfS s):WideAt.IsKeyLit (kyS s):=sg_law.key (ky_of h)
theorem sgV_inj {s t:Sg} (h:sgV s=sgV t):s=t:=by
  obtain ⟨k,e,r,x,m⟩:=s
  obtain ⟨k',e',r',x',m'⟩:=t
  simpa [sgV] using h
theorem ky_inj {s t:Sg} (hs:WfS s) (ht:WfS t) (h:kyS s=kyS t):s=t:=sgV_inj (sg_law.inj (ky_of hs) (by rw [h];exact ky_of ht))
end Go.Proofs.Ytmbbpmbkbiggmaa
