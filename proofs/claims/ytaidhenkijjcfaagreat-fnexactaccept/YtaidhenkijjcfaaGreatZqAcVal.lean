/- An account by value. -/
import Derived.Test.YtaidhenkijjcfaaGreatZqVsMem
import Derived.Deep.SlicePairs
import Derived.Lib.SmallJoins
import Derived.OpenShut
import Derived.ShutString
import Derived.ChangeOld
import Derived.WideShapes
import Derived.Deep.RegionHeldLaw
set_option maxRecDepth 20000
namespace Go.Proofs.YtaidhenkijjcfaaGreat
open Go.RowKit Go.ChangeShapes Go.WideShapes
set_option linter.unusedVariables false
section
variable {H:Type} {enc:TypeId × Value->H} {w:World} {base:Nat} {spare:Nat->Bool} {held:Bool}
theorem add_plainV (b off i:Nat):(⟨b,off,none⟩:Addr).add i=⟨b,off+i,none⟩:=by
  by_cases hz:i=0
  · subst hz;simp [Addr.add]
  · simp [Addr.add,hz]
theorem open_vl {fuel:Nat} {cs:List Value} {x:DataW H × List MemPlace} (h:DataW.trod enc Tryz.prog w base spare held fuel 140 cs=some x) :
    ∃ t:Vl,cs=[.string t.1,.int .i64 t.2]/\t.1.size<=maxLen:=by
  obtain ⟨xs,n,_,_,hlen,hxl,hf⟩:=DataW.trod_struct Tryz.underlying140 h
  have h5:cs.length=2:=hlen.trans (by kernel_rfl)
  have hx5:xs.length=2:=hxl
  match cs,h5,xs,hx5 with
  | [c0,c1],_,[y0,y1],_ =>
    have ks:Tryz.prog.cellsOf 9=1:=by kernel_rfl
    have ki:Tryz.prog.cellsOf 3=1:=by kernel_rfl
    have g0:DataW.trod enc Tryz.prog w base spare held n 9 [c0]=some y0:=by
      have e:=hf 0 _ rfl
      change DataW.trod enc Tryz.prog w base spare held n 9 (List.take (Tryz.prog.cellsOf 9) [c0,c1])=some y0 at e
      rw [ks] at e
      exact e
    have g1:DataW.trod enc Tryz.prog w base spare held n 3 [c1]=some y1:=by
      have e:=hf 1 _ rfl
      change DataW.trod enc Tryz.prog w base spare held n 3 (List.take (Tryz.prog.cellsOf 3) [c1])=some y1 at e
      rw [ki] at e
      exact e
    obtain ⟨s0,e0,_,h0⟩:=DataW.trod_string Tryz.underlying9 g0
    obtain ⟨z1,e1,_⟩:=DataW.trod_int Tryz.underlying3 g1
    simp only [List.cons.injEq,and_true] at e0 e1
    subst e0 e1
    exact ⟨(s0,z1),rfl,h0⟩
theorem open_vlS {fuel:Nat} {a:Option Addr} {len cap:Nat} {x:DataW H × List MemPlace} (h:DataW.trod enc Tryz.prog w base spare held fuel 22 [.slice a len cap]=some x) :
    ∃ l:List Vl,len=l.length/\RdV w (.slice a len cap) l/\l.length<=maxLen/\∀ q ∈ l,q.1.size<=maxLen:=by
  rcases Deep.open_slice Tryz.underlying22 h with ⟨hcs,_⟩ | ⟨ad,len',cap',m,n,D,Pl,hcs,hb,hl,hm,hmm,hx,hel⟩
  · simp at hcs
    obtain ⟨rfl,rfl,rfl⟩:=hcs
    exact ⟨[],rfl,.inl ⟨_,_,rfl,rfl,fun _=>rfl⟩,by simp,by simp⟩
  · simp at hcs
    obtain ⟨rfl,rfl,rfl⟩:=hcs
    have hlm:len<=m:=by rw [hmm];split <;> omega
    by_cases h0:len=0
    · subst h0;exact ⟨[],rfl,.inl ⟨_,_,rfl,rfl,fun h=>by cases h⟩,by simp,by simp⟩
    · obtain ⟨b,off,spot⟩:=ad
      rw [show Tryz.prog.cellsOf 140=2 from by kernel_rfl] at hel
      have each:∀ i,i < m->∃ q:Vl,w.cells? base ((⟨b,off,spot⟩:Addr).add (i * 2)) 2=some (vlC q)/\q.1.size<=maxLen:=fun i hi=>by
        obtain ⟨cs',h1,h2⟩:=hel i hi
        obtain ⟨q,rfl,k1⟩:=open_vl h2
        exact ⟨q,h1,k1⟩
      obtain ⟨q,hq⟩:=Deep.choose_lt each
      have c0:∀ i,i < m->∀ j,j < 2->w.cell? (((⟨b,off,spot⟩:Addr).add (i * 2)).add j)=(vlC (q i))[j]?:=fun i hi=>(World.cells?_some (hq i hi).1).2.2
      have hc0:=c0 0 (by omega) 0 (by omega)
      have hspot:spot=none:=by simpa [Addr.add] using World.cell?_spot hc0
      subst hspot
      have hlen:((List.range len).map q).length=len:=by simp
      refine ⟨(List.range len).map q,hlen.symm,.inr ⟨b,off,cap,?_,by rw [hlen],by omega,hm,?_,?_⟩,by omega,?_⟩
      · intro e;rw [e] at hlen;simp at hlen;omega
      · have:=World.block_lt_of_cell? w _ hc0;simpa [Addr.add] using this
      · intro i hi
        rw [hlen] at hi
        have cc:∀ j,j < 2->w.cell? ⟨b,off+i * 2+j,none⟩=(vlC (q i))[j]?:=fun j hj=>by
          have:=c0 i (by omega) j hj
          rwa [add_plainV,add_plainV] at this
        simp only [List.getElem_map,List.getElem_range]
        exact ⟨by have:=cc 0 (by omega);simpa [vlC] using this,by have:=cc 1 (by omega);simpa [vlC] using this⟩
      · intro z hz
        obtain ⟨i,hi,rfl⟩:=List.mem_map.1 hz
        exact (hq i (by have:=List.mem_range.1 hi;omega)).2
end
end Go.Proofs.YtaidhenkijjcfaaGreat
namespace Go.Proofs.YtaidhenkijjcfaaGreat
open Go.RowKit
set_option linter.unusedVariables false
def RdL (w:World) (v:Value) (l:List (Int × Int)):Prop :=
  (∃ a cap,v=.slice a 0 cap/\l=[]/\(a=none->cap=0)) \/
  ∃ b off cap,l ≠ []/\v=.slice (some ⟨b,off,none⟩) l.length cap/\l.length<=cap/\cap<=maxLen/\b < w.heap.size /\
    ∀ i (h:i < l.length),w.cell? ⟨b,off+i * 2,none⟩=some (.int .i64 l[i].1)/\w.cell? ⟨b,off+i * 2+1,none⟩=some (.int .i64 l[i].2)
def lvC (p:Int × Int):List Value:=[.int .i64 p.1,.int .i64 p.2]
def OwnL (base:Nat) (w:World) (v:Value) (l:List (Int × Int)):Prop:=w.ownsRow base 206 2 v l.length (l.map lvC).flatten
abbrev Ac:=ByteArray × Int × Int × Int × List (Int × Int)
def acV (a:Ac) (lv:Value):Value:=.agg #[.string a.1,.int .i64 a.2.1,.int .i64 a.2.2.1,.int .i64 a.2.2.2.1,lv]
def szAc (a:Ac) (m:Int):Int:=if m - a.1.size < 0 then -1 else if m - a.1.size - a.2.2.2.2.length < 0 then -1 else m - a.1.size - a.2.2.2.2.length
end Go.Proofs.YtaidhenkijjcfaaGreat
