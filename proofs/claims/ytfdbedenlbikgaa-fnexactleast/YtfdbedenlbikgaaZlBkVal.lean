/- Blocks. -/
import Derived.Test.YtfdbedenlbikgaaZlTxRow
namespace Go.Proofs.Ytfdbedenlbikgaa
open Go.RowKit Go.Sort
set_option linter.unusedVariables false
def vl0:Vl:=(ByteArray.empty,0)
def valB (p:Vl):Bool:=nmB p.1 && inB p.2 1 1000000
def vlAt (l:List Vl) (i:Nat):Bool:=valB (l.getD i vl0) && (decide (i=0) || Op.bytesLess (l.getD (i - 1) vl0).1.toList (l.getD i vl0).1.toList)
def setB (l:List Vl):Bool:=(List.range l.length).all (vlAt l) && inB l.length 1 12
end Go.Proofs.Ytfdbedenlbikgaa
namespace Go.Proofs.Ytfdbedenlbikgaa
open Go.RowKit
set_option linter.unusedVariables false
structure Bk where
  id:Int
  ep:Int
  rd:Int
  md:ByteArray
  qr:Int
  qb:Int
  qw:List ByteArray
  tr:Int
  tw:List ByteArray
  th:List Int
  ts:List Tx5
  en:Bool
  nx:List Vl
  rt:ByteArray
structure Bv where
  q:Value
  w:Value
  h:Value
  t:Value
  n:Value
def bkC (b:Bk) (v:Bv):List Value:=[.int .i64 b.id,.int .i64 b.ep,.int .i64 b.rd,.string b.md,.int .i64 b.qr,.int .i64 b.qb,v.q,.int .i64 b.tr,v.w,v.h,v.t,.bool b.en,v.n,.string b.rt]
def bkV (b:Bk) (v:Bv):Value:=.agg #[.int .i64 b.id,.int .i64 b.ep,.int .i64 b.rd,.string b.md,.int .i64 b.qr,.int .i64 b.qb,v.q,.int .i64 b.tr,v.w,v.h,v.t,.bool b.en,v.n,.string b.rt]
structure RdK (w:World) (b:Bk) (v:Bv):Prop where
  q:RdS w v.q b.qw
  p:RdS w v.w b.tw
  h:RdI w v.h b.th
  t:RdT w v.t b.ts
  n:RdV w v.n b.nx
theorem RdK.below {B:Nat} {w w':World} {b:Bk} {v:Bv} (h:RdK w b v) (hb:Below B w w') (hB:w.heap.size<=B):RdK w' b v :=
  ⟨h.q.below hb hB,h.p.below hb hB,h.h.below hb hB,h.t.below hb hB,h.n.below hb hB⟩
structure FewK (b:Bk):Prop where
  q:b.qw.length<=4000000
  w:b.tw.length<=4000000
  h:b.th.length<=4000000
  t:b.ts.length<=4000000
  n:b.nx.length<=4000000
  qs:∀ s ∈ b.qw,s.size<=maxLen
  ws:∀ s ∈ b.tw,s.size<=maxLen
  ts:∀ t ∈ b.ts,t.2.1.size<=maxLen/\t.2.2.1.size<=maxLen
  ns:∀ p ∈ b.nx,p.1.size<=maxLen
  ms:b.md.size<=maxLen
  rs:b.rt.size<=maxLen
def q9B (b:Bk):Bool:=rootB b.qr b.qb b.qw || (inB b.qr 1 (wrap64 (b.rd - 1)) && (inB b.qb 0 (wrap64 (b.id - 1)) && nmsB b.qw))
def t9B (b:Bk):Bool:=noneB b.tr b.tw b.th || (inB b.tr 1 (wrap64 (b.rd - 1)) && (nmsB b.tw && (decide (b.th.length=b.tw.length) && hisB b.tr b.th)))
def e9B (b:Bk):Bool:=if b.en=true then setB b.nx && decide (b.rt.size=32) else decide (b.nx.length=0) && decide (b.rt=⟨#[]⟩)
def blB (b:Bk):Bool:=inB b.id 0 100000 && (inB b.ep 0 900 && (inB b.rd 1 10000 && (nmB b.md && (q9B b && (t9B b && (decide (b.ts.length<=4) && (b.ts.all txB && e9B b)))))))
end Go.Proofs.Ytfdbedenlbikgaa
