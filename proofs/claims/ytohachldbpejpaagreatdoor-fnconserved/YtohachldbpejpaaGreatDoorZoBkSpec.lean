/- The model's blocks that are right. -/
import Derived.Test.YtohachldbpejpaaGreatDoorZoBkToD
import Derived.Deep.MidRow
import Derived.Laws.IdiomCopy
namespace Go.Proofs.YtohachldbpejpaaGreatDoor
open Go.RowKit
set_option linter.unusedVariables false
def setAll {α:Type}:List α->Nat->List α->List α
  | xs,_,[]=>xs
  | xs,o,y :: ys=>setAll (xs.set o y) (o+1) ys
def BkAt (w:World) (g o:Nat) (b:Bk) (v:Bv):Prop:=∀ j,j < 14->w.cell? ⟨g,o+j,none⟩=(bkC b v)[j]?
def RdKs (w:World) (v:Value) (l:List Bk):Prop :=
  (∃ a cap,v=.slice a 0 cap/\l=[]/\(a=none->cap=0)) \/
  ∃ b off cap,l ≠ []/\v=.slice (some ⟨b,off,none⟩) l.length cap/\l.length<=cap/\cap<=maxLen/\b < w.heap.size /\
    ∀ i (h:i < l.length),∃ bv,BkAt w b (off+i * 14) l[i] bv/\RdK w l[i] bv
def Bv.has (v:Bv) (g:Nat):Prop:=v.q.ownBlock=some g\/v.w.ownBlock=some g\/v.h.ownBlock=some g\/v.t.ownBlock=some g\/v.n.ownBlock=some g
def bkP (q:Bk × Bv):List Value:=bkC q.1 q.2
def bkZ:List Value:=[.int .i64 0,.int .i64 0,.int .i64 0,.string { data:=#[] },.int .i64 0,.int .i64 0,.slice none 0 0,.int .i64 0,.slice none 0 0,.slice none 0 0,.slice none 0 0,.bool false,.slice none 0 0,.string { data:=#[] }]
structure Kvs (base:Nat) (w:World) (g:Nat) (Z:List (Bk × Bv)):Prop where
  own:∀ i (h:i < Z.length),OwnK base w Z[i].1 Z[i].2
  far:∀ i (h:i < Z.length),¬ Z[i].2.has g
  inner:∀ i (h:i < Z.length) k,Z[i].2.q.ownBlock=some k->Z[i].2.w.ownBlock ≠ some k
  apart:∀ i j (hi:i < Z.length) (hj:j < Z.length),i ≠ j->∀ k,Z[i].2.has k->¬ Z[j].2.has k
def OwnKs (base:Nat) (w:World) (v:Value) (l:List Bk):Prop :=
  ∃ (g cap:Nat) (Z:List (Bk × Bv)),Z.map (·.1)=l/\v=.slice (some ⟨g,0,none⟩) l.length cap/\w.ownsRow base 50 14 v l.length (Z.map bkP).flatten/\Kvs base w g Z
def okP (l:List Bk) (i:Nat) (h:i < l.length):Prop :=
  blB l[i]=true/\l[i].ep=(l[0]'(by omega)).ep/\(0 < i->(l[i - 1]'(by omega)).id < l[i].id) /\
    (rootB l[i].qr l[i].qb l[i].qw=true\/∃ k,∃ hk:k < i,(l[k]'(by omega)).id=l[i].qb/\(l[k]'(by omega)).rd=l[i].qr)
def treeP (l:List Bk):Prop:=l.length<=400/\∀ i (h:i < l.length),okP l i h
def okD (l:List Bk) (i:Nat) (h:i < l.length):Decidable (okP l i h):=by unfold okP;exact inferInstance
def treeD (l:List Bk):Decidable (treeP l):=@instDecidableAnd _ _ _ (@Nat.decidableBallLT l.length (okP l) (okD l))
def treeB (l:List Bk):Bool:=@decide (treeP l) (treeD l)
def AscP (l:List Bk) (n:Nat):Prop:=∀ a b (ha:a < l.length) (hb:b < l.length),a < b->b < n->l[a].id < l[b].id
def AtR (l:List Bk) (id r:Int):Prop :=
  (r=-1/\∀ j (h:j < l.length),l[j].id ≠ id)\/∃ j,∃ h:j < l.length,r=(j:Int)/\l[j].id=id/\∀ i (h2:i < l.length),i < j->l[i].id ≠ id
def atI:List Bk->Int->Int
  | [],_=>-1
  | b :: l,id=>if b.id=id then 0 else if atI l id=-1 then -1 else atI l id+1
end Go.Proofs.YtohachldbpejpaaGreatDoor
namespace Go.Proofs.YtohachldbpejpaaGreatDoor
open Go.RowKit Go.Sort
set_option linter.unusedVariables false
end Go.Proofs.YtohachldbpejpaaGreatDoor
