/- The one who only follows, from a ledger. -/
import Derived.Test.YtaidhenkijjcfaaGreatZqVsStep
import Derived.Deep.MidRow
import Derived.Laws.IdiomCopy
namespace Go.Proofs.YtaidhenkijjcfaaGreat
open Go.RowKit
set_option linter.unusedVariables false
def setV (l:List Ac):List Vl:=(l.filter (fun a=>decide (5<=a.2.2.2.1))).map (fun a=>(a.1,a.2.2.2.1))
def setA (e:Int) (l:List Ac):List Vl:=if lgB e l=true then setV l else []
def cnA (e:Int) (l:List Ac):Int × List Vl:=if lgB e l=true then (e,setV l) else (0,[])
theorem Blk.set2 {W:World} {B:Nat} {t:TypeId} {a b:Value} (h:Blk W B t [a,b]) (x y:Value):Blk (W.setCells B 0 [x,y]) B t [x,y]:=by
  have h1:Blk (W.setCell ⟨B,0,none⟩ x) B t [x,b]:=by
    have e:=heap_setCell_same W B 0 [a,b].toArray t x h
    simpa [Blk] using e
  have h2:Blk ((W.setCell ⟨B,0,none⟩ x).setCell ⟨B,1,none⟩ y) B t [x,y]:=by
    have e:=heap_setCell_same _ B 1 [x,b].toArray t y h1
    simpa [Blk] using e
  exact h2
theorem Blk.not2 {W:World} {B:Nat} {t:TypeId} {cs:List Value} (h:Blk W B t cs) {g:Nat} (hne:B ≠ g) (x y:Value):Blk (W.setCells g 0 [x,y]) B t cs :=
  (heap_setCell_other _ ⟨g,1,none⟩ B y hne).trans ((heap_setCell_other W ⟨g,0,none⟩ B x hne).trans h)
theorem below_set2 {B:Nat} {w w':World} (h:Below B w w') {g:Nat} (hg:B<=g) (x y:Value):Below B w (w'.setCells g 0 [x,y]) :=
  (h.setCell (p:=⟨g,0,none⟩) hg x).setCell (p:=⟨g,1,none⟩) hg y
theorem Blk.range2 {w:World} {b:Nat} {t:TypeId} {cs:List Value} (h:Blk w b t cs):w.rangeAt b 0 cs:=fun j v hv=>by rw [Nat.zero_add];exact (h.cell j).trans hv
theorem Blk.there2 {W:World} {B n:Nat} {t:TypeId} {cs:List Value} (h:Blk W B t cs) (hn:cs.length=n):W.there B 0 n:=fun j hj=>by
  rw [Nat.zero_add]
  exact ⟨by rw [h.cell j,List.getElem?_eq_getElem (by omega)];rfl,h.frozen j⟩
theorem OwnV.setsC {base:Nat} {w:World} {v:Value} {l:List Vl} (h:OwnV base w v l) {g:Nat} (hg:g < base) (x y:Value):OwnV base (w.setCells g 0 [x,y]) v l:=(h.olderQ hg 0 x).olderQ hg 1 y
end Go.Proofs.YtaidhenkijjcfaaGreat
