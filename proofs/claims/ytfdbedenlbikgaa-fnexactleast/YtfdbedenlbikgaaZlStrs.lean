/- Texts in memory. -/
import Derived.Test.YtfdbedenlbikgaaRows
import Derived.WalkKit
import Derived.ProofKit
import Derived.WalkSpells
import Derived.WalkLawsBesides
import Derived.Outline
import Derived.Deep.QuietTactic
import Derived.BigQuiet
namespace Go.Proofs.Ytfdbedenlbikgaa
open Go.RowKit
set_option linter.unusedVariables false
theorem hide {p:Prop} (h:p):Hid p:=h
theorem ret_bool {a b:Bool} (h:a=b):Ending.returned (.bool a)=.returned (.bool b):=by rw [h]
theorem ret_int {k:IntKind} {a b:Int} (h:a=b):Ending.returned (.int k a)=.returned (.int k b):=by rw [h]
def cb (c:UInt8):Value:=.int .u8 (c.toNat:Int)
def RdB (w:World) (v:Value) (l:List UInt8):Prop :=
  (∃ a cap,v=.slice a 0 cap/\l=[]/\(a=none->cap=0)) \/
  ∃ b off cap,l ≠ []/\v=.slice (some ⟨b,off,none⟩) l.length cap/\l.length<=cap/\cap<=maxLen/\b < w.heap.size/\∀ i (h:i < l.length),w.cell? ⟨b,off+i,none⟩=some (.int .u8 (l[i].toNat:Int))
def OwnB (base:Nat) (w:World) (v:Value) (l:List UInt8):Prop:=w.ownsRow base 5 1 v l.length (l.map cb)
def Sm (w w':World):Prop:=∀ B,Below B w w'
theorem Sm.refl (w:World):Sm w w:=fun B=>Below.refl B w
theorem Sm.drewN {a b:World} (h:Sm a b) (n:Nat):Sm a (b.drewN n):=fun B=>below_drewN (h B) n
theorem Sm.cell {a b:World} (h:Sm a b) (p:Addr):b.cell? p=a.cell? p:=(h (p.block+1)).cell (by omega)
theorem take_eq_snoc {α:Type} {l1 l2:List α} {k:Nat} (h1:k < l1.length) (h2:k < l2.length) (h:l1.take k=l2.take k) (he:l1[k]=l2[k]):l1.take (k+1)=l2.take (k+1):=by
  rw [List.take_succ_eq_append_getElem h1,List.take_succ_eq_append_getElem h2,h,he]
def tot (ls:List ByteArray):Nat:=(ls.map (fun s=>s.size)).sum
theorem tot_take:∀ (ls:List ByteArray) (k:Nat),tot (ls.take k)<=tot ls:=by
  intro ls
  induction ls with
  | nil=>intro k;simp [tot]
  | cons s t ih =>
    intro k
    cases k with
    | zero=>simp [tot]
    | succ k =>
      have:=ih k
      simp only [tot,List.take_succ_cons,List.map_cons,List.sum_cons] at this ⊢
      omega
def RdS (w:World) (v:Value) (l:List ByteArray):Prop :=
  (∃ a cap,v=.slice a 0 cap/\l=[]/\(a=none->cap=0)) \/
  ∃ b off cap,l ≠ []/\v=.slice (some ⟨b,off,none⟩) l.length cap/\l.length<=cap/\cap<=maxLen/\b < w.heap.size/\∀ i (h:i < l.length),w.cell? ⟨b,off+i,none⟩=some (.string l[i])
theorem RdS.shape {w:World} {v:Value} {l:List ByteArray} (h:RdS w v l):∃ a cap,v=.slice a l.length cap:=by
  rcases h with ⟨a,cap,rfl,rfl,-⟩ | ⟨b,off,cap,h0,rfl,_⟩
  · exact ⟨a,cap,rfl⟩
  · exact ⟨_,cap,rfl⟩
theorem RdS.below {B:Nat} {w w':World} {v:Value} {l:List ByteArray} (h:RdS w v l) (hb:Below B w w') (hB:w.heap.size<=B):RdS w' v l:=by
  rcases h with h | ⟨b,off,cap,h0,hv,h1,h2,h3,h4⟩
  · exact .inl h
  · exact .inr ⟨b,off,cap,h0,hv,h1,h2,by have:=hb.size;omega,fun i hi=>(hb.cell (p:=⟨b,off+i,none⟩) (by show b < B;omega)).trans (h4 i hi)⟩
def OwnS (base:Nat) (w:World) (v:Value) (l:List ByteArray):Prop:=w.ownsRow base 9 1 v l.length (l.map Value.string)
theorem OwnS.rd {base:Nat} {w:World} {v:Value} {l:List ByteArray} (h:OwnS base w v l):RdS w v l:=by
  rcases h.2 with ⟨hv,hn⟩ | ⟨g,cap,cur,hv,hb,hg,hnc,hcm,hcs,ht⟩
  · exact .inl ⟨none,0,hv,List.length_eq_zero_iff.1 hn,fun _=>rfl⟩
  · by_cases hl:l=[]
    · subst hl;exact .inl ⟨_,_,hv,rfl,fun h=>by cases h⟩
    · refine .inr ⟨g,0,cap,hl,hv,hnc,hcm,?_,?_⟩
      · exact (Array.getElem?_eq_some_iff.1 hg).1
      · intro i hi
        have h':w.ownsRow base 9 1 (.slice (some ⟨g,0,none⟩) l.length cap) l.length (l.map Value.string):=hv ▸ h
        rw [show 0+i=i from by omega,h'.cellAt i (by omega)]
        simp [hi]
theorem OwnS.below {B base:Nat} {w w':World} {v:Value} {l:List ByteArray} (h:OwnS base w v l) (hb:Below B w w') (hB:w.heap.size<=B):OwnS base w' v l:=by
  refine ⟨h.1,?_⟩
  rcases h.2 with h' | ⟨g,cap,cur,hv,hbb,hg,r⟩
  · exact .inl h'
  · refine .inr ⟨g,cap,cur,hv,hbb,?_,r⟩
    have hlt:g < w.heap.size:=(Array.getElem?_eq_some_iff.1 hg).1
    rw [hb.block g (by omega)];exact hg
theorem OwnS.mono {base base':Nat} {w:World} {v:Value} {l:List ByteArray} (h:OwnS base w v l) (hB:base'<=base):OwnS base' w v l:=by
  refine ⟨h.1,?_⟩
  rcases h.2 with h' | ⟨g,cap,cur,hv,hbb,r⟩
  · exact .inl h'
  · exact .inr ⟨g,cap,cur,hv,by omega,r⟩
theorem OwnS.ge {base:Nat} {w:World} {v:Value} {l:List ByteArray} (h:OwnS base w v l):∀ k,v.ownBlock=some k->base<=k:=fun k hk=>(World.ownsRow.lt h k hk).1
theorem Try.infoStr:(Try.prog.info? 9).map (fun i=>(i.zero,i.size,i.bytes))=some (some (.string ByteArray.empty),1,16):=by kernel_rfl
theorem gen_set {α:Type} (M l:List α) (f:α->Value) (j:Nat) (hM:M.length=l.length) (h:j < M.length):((M.take j ++ l.drop j).map f).set j (f M[j])=(M.take (j+1) ++ l.drop (j+1)).map f:=by
  rw [List.take_succ_eq_append_getElem h,List.drop_eq_getElem_cons (show j < l.length from by omega)]
  simp only [List.map_append,List.map_cons,List.append_assoc,List.singleton_append]
  rw [List.set_append_right _ _ (by simp;omega)]
  simp [show min j M.length=j from by omega]
theorem bytes_ne {a b:ByteArray} (h:a ≠ b):(a.toList == b.toList)=false:=by
  rw [beq_eq_false_iff_ne]
  intro e
  rw [ByteArray.toList_eq,ByteArray.toList_eq] at e
  exact h (ByteArray.ext (Array.toList_inj.1 e))
end Go.Proofs.Ytfdbedenlbikgaa
