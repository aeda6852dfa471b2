/- A row of accounts at one place, written into account by account. -/
import Derived.Test.YthidkbhiikdokaaGreatZwLgSpec
namespace Go.Proofs.YthidkbhiikdokaaGreat
open Go.RowKit
set_option linter.unusedVariables false
def frF (e z:Int) (l:List (Int × Int)):Int:=l.foldl (fun s x=>if x.2<=e then wrap64 (s+x.1) else s) z
def stL (e:Int) (l:List (Int × Int)):List (Int × Int):=l.filter (fun x=>decide (e < x.2))
def frA (e:Int) (a:Ac):Ac:=(a.1,frF e a.2.1 a.2.2.2.2,a.2.2.1,a.2.2.2.1,stL e a.2.2.2.2)
def neA (e:Int) (l:List Ac):Int × List Ac:=if (lgB e l && lgB (wrap64 (e+1)) (l.map (frA (wrap64 (e+1)))))=true then (wrap64 (e+1),l.map (frA (wrap64 (e+1)))) else (e,l)
def frK (e:Int) (l:List Ac) (k:Nat):List Ac:=(l.take k).map (frA e) ++ l.drop k
structure RowG (base:Nat) (w:World) (g n cap:Nat) (Z:List (Ac × Value)):Prop where
  len:Z.length=n
  row:w.ownsRow base 53 5 (.slice (some ⟨g,0,none⟩) n cap) n (Z.map acC).flatten
  lvs:Lvs base w g Z
end Go.Proofs.YthidkbhiikdokaaGreat
