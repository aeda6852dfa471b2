/- Signatures in memory. -/
import Derived.Test.YtmbbpmbkbiggmaaZoVsMem
namespace Go.Proofs.Ytmbbpmbkbiggmaa
open Go.RowKit
set_option linter.unusedVariables false
abbrev Sg:=Int × Int × Int × Int × ByteArray
def sgV (p:Sg):Value:=.agg #[.int .i64 p.1,.int .i64 p.2.1,.int .i64 p.2.2.1,.int .i64 p.2.2.2.1,.string p.2.2.2.2]
def sgC (p:Sg):List Value:=[.int .i64 p.1,.int .i64 p.2.1,.int .i64 p.2.2.1,.int .i64 p.2.2.2.1,.string p.2.2.2.2]
structure SgAt (w:World) (b o:Nat) (p:Sg):Prop where
  c0:w.cell? ⟨b,o,none⟩=some (.int .i64 p.1)
  c1:w.cell? ⟨b,o+1,none⟩=some (.int .i64 p.2.1)
  c2:w.cell? ⟨b,o+2,none⟩=some (.int .i64 p.2.2.1)
  c3:w.cell? ⟨b,o+3,none⟩=some (.int .i64 p.2.2.2.1)
  c4:w.cell? ⟨b,o+4,none⟩=some (.string p.2.2.2.2)
def RdSg (w:World) (v:Value) (l:List Sg):Prop :=
  (∃ a cap,v=.slice a 0 cap/\l=[]/\(a=none->cap=0)) \/
  ∃ b off cap,l ≠ []/\v=.slice (some ⟨b,off,none⟩) l.length cap/\l.length<=cap/\cap<=maxLen/\b < w.heap.size/\∀ i (h:i < l.length),SgAt w b (off+i * 5) l[i]
def OwnSg (t:TypeId) (base:Nat) (w:World) (v:Value) (l:List Sg):Prop:=w.ownsRow base t 5 v l.length (l.map sgC).flatten
end Go.Proofs.Ytmbbpmbkbiggmaa
