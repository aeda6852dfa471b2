/- Lists of each kind marked in place, told alike. -/
import Derived.Test.YtaidhenkijjcfaaGreatZqVtMark
namespace Go.Proofs.YtaidhenkijjcfaaGreat
open Go.RowKit
set_option linter.unusedVariables false
def InS (lo hi:Nat) (w:World) (v:Value) (l:List ByteArray):Prop:=OwnS lo w v l/\Top hi v
theorem InS.of {base:Nat} {w:World} {v:Value} {l:List ByteArray} (h:OwnS base w v l):InS base w.heap.size w v l:=⟨h,top_row h⟩
theorem InS.rd {lo hi:Nat} {w:World} {v:Value} {l:List ByteArray} (h:InS lo hi w v l):RdS w v l:=h.1.rd
theorem InS.kept {lo hi:Nat} {w w':World} {v:Value} {l:List ByteArray} (h:InS lo hi w v l) (hk:Kept lo hi w w'):InS lo hi w' v l:=⟨row_kept h.1 hk (Nat.le_refl _) h.2,h.2⟩
theorem InS.wide {lo hi lo' hi':Nat} {w:World} {v:Value} {l:List ByteArray} (h:InS lo hi w v l) (h1:lo'<=lo) (h2:hi<=hi'):InS lo' hi' w v l:=⟨row_mono h.1 h1,h.2.mono h2⟩
def InI (lo hi:Nat) (w:World) (v:Value) (l:List Int):Prop:=OwnI lo w v l/\Top hi v
def InV (lo hi:Nat) (w:World) (v:Value) (l:List Vl):Prop:=OwnV lo w v l/\Top hi v
def InT (lo hi:Nat) (w:World) (v:Value) (l:List Tx5):Prop:=OwnT lo w v l/\Top hi v
def InR (t:TypeId) (lo hi:Nat) (w:World) (v:Value) (l:List Tr):Prop:=OwnR t lo w v l/\Top hi v
theorem Kept.set {lo hi g:Nat} (w:World) (j:Nat) (u:Value) (h:g < lo\/hi<=g):Kept lo hi w (w.setCell ⟨g,j,none⟩ u):=Kept.of_grown (grown_set w g j u) (fun k e=>by cases e;exact h)
theorem Kept.setCs {lo hi g:Nat} (w:World) (o:Nat) (us:List Value) (h:g < lo\/hi<=g):Kept lo hi w (w.setCells g o us):=Kept.of_grown (putC_grown g us w o) (fun k e=>by cases e;exact h)
end Go.Proofs.YtaidhenkijjcfaaGreat
namespace Go.Proofs.YtaidhenkijjcfaaGreat
open Go.RowKit Go.Sort
set_option linter.unusedVariables false
def Mkd (k lo hi:Nat) (P:World->Prop) (w:World) (e:Ending) (w':World):Prop:=e=.returned (.int .i64 (k:Int))/\P w'/\Oth (fun x=>lo<=x/\x < hi) w w'
theorem oth_row2 {base hi sz n:Nat} {T:TypeId} {v:Value} {xs:List Value} {w w':World} (ho:w.ownsRow base T sz v n xs) (ht:Top hi v) (hg:Oth (fun g=>v.ownBlock=some g) w w'):Oth (fun x=>base<=x/\x < hi) w w' :=
  hg.mono (fun k e=>⟨(World.ownsRow.lt ho k e).1,ht k e⟩)
theorem oth_btw {lo hi:Nat} {w w':World} (h:Btw lo hi w w'):Oth (fun x=>lo<=x/\x < hi) w w':=⟨h.os,h.tape,h.output,h.size,fun k hk hn=>h.block k hk (by omega)⟩
theorem mkuBlock (v:Value) (l:List Bk) (k lo hi:Nat) (w:World) (ho:OwnKx lo hi w v l) (hl:l.length<=4000000) (hf:∀ b ∈ l,FewK b) (hk:k+totM l<=40000000) (hk0:0 < k) :
    Calls Tryz.prog 48 #[v,.int .i64 (k:Int)] w (Mkd (k+totM l) lo hi (fun w'=>OwnKx lo hi w' v (mkLk k l)) w) :=
  markKx_any v l k lo hi w ho (by omega) (fun b hb=>by have f:=hf b hb;exact ⟨f.q,f.w,f.h,f.t,f.n⟩) (by omega) hk0
theorem mkuQc (r b:Int) (v:Value) (l:List ByteArray) (k lo hi:Nat) (w:World) (ho:InS lo hi w v l) (hl:l.length<=4000000) (hk:k+l.length<=40000000) (hk0:0 < k) :
    Calls Tryz.prog 49 #[qcV r b v,.int .i64 (k:Int)] w (Mkd (k+l.length) lo hi (fun w'=>InS lo hi w' v (mkS k l.length)) w):=by
  refine (markQc_any r b v l k lo w ho.1 (by omega) (by omega) hk0).mono ?_
  rintro e w' ⟨h1,h2,h3⟩
  exact ⟨h1,⟨h2,ho.2⟩,oth_row2 ho.1 ho.2 h3⟩
end Go.Proofs.YtaidhenkijjcfaaGreat
