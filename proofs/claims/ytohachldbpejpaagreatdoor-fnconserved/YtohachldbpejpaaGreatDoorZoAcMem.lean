/- Accounts and what leaves, over plain data and in memory. -/
import Derived.Test.YtohachldbpejpaaGreatDoorZoFlat
import Derived.Maps.AppendAt
import Derived.Deep.RegionHeldLaw
import Derived.Deep.RegionLaw
set_option maxRecDepth 20000
namespace Go.Proofs.YtohachldbpejpaaGreatDoor
open Go.RowKit
set_option linter.unusedVariables false
abbrev Vl:=ByteArray × Int
def RdV (w:World) (v:Value) (l:List Vl):Prop :=
  (∃ a cap,v=.slice a 0 cap/\l=[]/\(a=none->cap=0)) \/
  ∃ b off cap,l ≠ []/\v=.slice (some ⟨b,off,none⟩) l.length cap/\l.length<=cap/\cap<=maxLen/\b < w.heap.size /\
    ∀ i (h:i < l.length),w.cell? ⟨b,off+i * 2,none⟩=some (.string l[i].1)/\w.cell? ⟨b,off+i * 2+1,none⟩=some (.int .i64 l[i].2)
def vlC (p:Vl):List Value:=[.string p.1,.int .i64 p.2]
def OwnV (base:Nat) (w:World) (v:Value) (l:List Vl):Prop:=w.ownsRow base 124 2 v l.length (l.map vlC).flatten
def fv (j:Nat):ByteArray:=⟨#[UInt8.ofNat (97+j)]⟩
theorem five_fv (w:World) (k:Nat) (h:k < 5):(w.alloc (.cells #[.string ⟨#[97]⟩,.string ⟨#[98]⟩,.string ⟨#[99]⟩,.string ⟨#[100]⟩,.string ⟨#[101]⟩] 9)).cell? ⟨w.heap.size,k,none⟩=some (.string (fv k)):=by
  rw [World.cell?_alloc_at _ _ _ _ rfl]
  rcases (show k=0\/k=1\/k=2\/k=3\/k=4 from by omega) with rfl | rfl | rfl | rfl | rfl <;> rfl
def Letters (k:Nat) (ls:List ByteArray):Prop:=ls.length<=k/\ls.Nodup/\∀ s ∈ ls,∃ j,j < k/\s=fv j
def FewV (l:List Vl):Prop:=l.length<=5/\(l.map (·.1)).Nodup/\∀ p ∈ l,p.1.size=1/\1<=p.2/\p.2<=30
def StrsAt (w:World) (b:Nat) (ss:List ByteArray):Prop:=b < w.heap.size/\∀ j (h:j < ss.length),w.cell? ⟨b,j,none⟩=some (.string ss[j])
theorem strs_new (w:World) (ss:List ByteArray) (t:TypeId):StrsAt (w.alloc (.cells (ss.map Value.string).toArray t)) w.heap.size ss:=by
  refine ⟨by simp,fun j hj=>?_⟩
  rw [World.cell?_alloc_at _ _ _ _ rfl]
  simp [hj]
theorem StrsAt.grw {w w':World} {b g:Nat} {ss:List ByteArray} (h:StrsAt w b ss) (hg:w.grownBy w' (some g)) (hne:b ≠ g):StrsAt w' b ss :=
  ⟨by have:=hg.size;have:=h.1;omega,fun j hj=>hg.cell (a:=⟨b,j,none⟩) (h.2 j hj) (by simp [hne])⟩
theorem l1Str_any (w0 w:World) (g b:Nat) (cv:Value) (code:List UInt8) (ss:List ByteArray) (hc:Cur w0 w g cv code) (hl:code.length<=1048576) (hi:StrsAt w b ss) (hne:b ≠ g) (hn:0 < ss.length) (hn2:ss.length<=1000) (cap:Nat) :
    Calls Tryz.prog 231 #[.pointer (some ⟨g,0,none⟩),.slice (some ⟨b,0,none⟩) ss.length cap] w fun e w'=>∃ s:ByteArray,e=.returned (.string s)/\s ∈ ss/\Cur w0 w' g cv code/\w.grownBy w' (some g):=by
  have Hc:=hide hc
  have Hi:=hide hi
  clear hc hi
  go_enter Tryz.func231,Tryz.ntmps231
  go_wp2_with fail
  refine (l1Below_any _ _ _ _ _ _ Hc.out hl (by omega) (by omega)).mono ?_
  rintro e w1 ⟨x,rfl,hx1,hx2,hc1,hg1⟩
  have hxl:x < ss.length:=by have:=hx1 (by omega);omega
  have hcell:=(Hi.out.grw hg1 hne).2 x hxl
  have hmem:=hide (List.getElem_mem hxl)
  generalize ss[x]=n at hcell hmem
  clear hx1 hx2
  go_wp2
  go_ret
  exact ⟨n,rfl,hmem.out,hc1,hg1⟩
def sixL:List ByteArray:=[⟨#[97]⟩,⟨#[98]⟩,⟨#[99]⟩,⟨#[100]⟩,⟨#[101]⟩,⟨#[97,49]⟩]
def oddL:List ByteArray:=[⟨#[]⟩,⟨#[65]⟩,⟨#[116,111,111,108,111,110,103,57,57]⟩,⟨#[97,32,98]⟩,⟨#[101,105,103,104,116,108,101,116]⟩]
theorem six_small:∀ s ∈ sixL,s.size<=9:=by decide
theorem l1Name_any (w0 w:World) (g:Nat) (cv:Value) (code:List UInt8) (hc:Cur w0 w g cv code) (hl:code.length<=1048576) :
    Calls Tryz.prog 203 #[.pointer (some ⟨g,0,none⟩)] w fun e w'=>∃ s:ByteArray,e=.returned (.string s)/\s.size<=9/\Cur w0 w' g cv code/\w.grownBy w' (some g):=by
  have hgl:=hc.lt
  have hb0:∀ o,Below w.heap.size w (w.alloc o):=fun o=>(Below.refl _ _).alloc (Nat.le_refl _) _
  have Hs:=hide (l1Str_any w0 _ g w.heap.size cv code sixL (hc.below (hb0 _) hgl) hl (strs_new w sixL 9) (by omega) (by decide) (by decide) 6)
  have Hg:=hide (grw_of_below (some g) (hb0 (.cells (sixL.map Value.string).toArray 9)) (Nat.le_refl _))
  clear hb0 hc
  go_enter Tryz.func203,Tryz.ntmps203
  go_wp2_with fail
  refine Hs.out.mono ?_
  rintro e w1 ⟨s,rfl,hs,hc1,hg1⟩
  have hs9:=six_small s hs
  clear hs
  go_wp2
  go_ret
  exact ⟨s,rfl,hs9,hc1,grw_trans Hg.out hg1⟩
def RdL (w:World) (v:Value) (l:List (Int × Int)):Prop :=
  (∃ a cap,v=.slice a 0 cap/\l=[]/\(a=none->cap=0)) \/
  ∃ b off cap,l ≠ []/\v=.slice (some ⟨b,off,none⟩) l.length cap/\l.length<=cap/\cap<=maxLen/\b < w.heap.size /\
    ∀ i (h:i < l.length),w.cell? ⟨b,off+i * 2,none⟩=some (.int .i64 l[i].1)/\w.cell? ⟨b,off+i * 2+1,none⟩=some (.int .i64 l[i].2)
theorem RdL.shape {w:World} {v:Value} {l:List (Int × Int)} (h:RdL w v l):∃ a cap,v=.slice a l.length cap:=by
  rcases h with ⟨a,cap,rfl,rfl,-⟩ | ⟨b,off,cap,h0,rfl,_⟩
  · exact ⟨a,cap,rfl⟩
  · exact ⟨_,cap,rfl⟩
theorem RdL.below {B:Nat} {w w':World} {v:Value} {l:List (Int × Int)} (h:RdL w v l) (hb:Below B w w') (hB:w.heap.size<=B):RdL w' v l:=by
  rcases h with h | ⟨b,off,cap,h0,hv,h1,h2,h3,h4⟩
  · exact .inl h
  · exact .inr ⟨b,off,cap,h0,hv,h1,h2,by have:=hb.size;omega,fun i hi=>⟨(hb.cell (p:=⟨b,off+i * 2,none⟩) (by show b < B;omega)).trans (h4 i hi).1,(hb.cell (p:=⟨b,off+i * 2+1,none⟩) (by show b < B;omega)).trans (h4 i hi).2⟩⟩
def lvC (p:Int × Int):List Value:=[.int .i64 p.1,.int .i64 p.2]
def OwnL (base:Nat) (w:World) (v:Value) (l:List (Int × Int)):Prop:=w.ownsRow base 107 2 v l.length (l.map lvC).flatten
theorem Tryz.infoLv:(Tryz.prog.info? 107).map (fun i=>(i.zero,i.size,i.bytes))=some (some (.agg #[.int .i64 0,.int .i64 0]),2,16):=by kernel_rfl
theorem lvM_sz (l:List (Int × Int)):∀ x ∈ l.map lvC,x.length=2:=fun x hx=>by obtain ⟨p,_,rfl⟩:=List.mem_map.1 hx;rfl
theorem OwnL.rd {base:Nat} {w:World} {v:Value} {l:List (Int × Int)} (h:OwnL base w v l):RdL w v l:=by
  rcases h.2 with ⟨hv,hn⟩ | ⟨g,cap,cur,hv,hb,hg,hnc,hcm,hcs,ht⟩
  · exact .inl ⟨none,0,hv,List.length_eq_zero_iff.1 hn,fun _=>rfl⟩
  · by_cases hl:l=[]
    · subst hl;exact .inl ⟨_,_,hv,rfl,fun h=>by cases h⟩
    · refine .inr ⟨g,0,cap,hl,hv,hnc,hcm,(Array.getElem?_eq_some_iff.1 hg).1,?_⟩
      intro i hi
      have h':w.ownsRow base 107 2 (.slice (some ⟨g,0,none⟩) l.length cap) l.length (l.map lvC).flatten:=hv ▸ h
      have e0:=flat_get 2 (l.map lvC) i 0 (by simpa using hi) (lvM_sz l) (by omega)
      have e1:=flat_get 2 (l.map lvC) i 1 (by simpa using hi) (lvM_sz l) (by omega)
      rw [Nat.zero_add,h'.cellAt (i * 2) (by omega),h'.cellAt (i * 2+1) (by omega)]
      rw [Nat.add_zero] at e0
      rw [e0,e1]
      simp [lvC]
theorem OwnL.mono {base base':Nat} {w:World} {v:Value} {l:List (Int × Int)} (h:OwnL base w v l) (hB:base'<=base):OwnL base' w v l:=by
  refine ⟨h.1,?_⟩
  rcases h.2 with h' | ⟨g,cap,cur,hv,hbb,r⟩
  · exact .inl h'
  · exact .inr ⟨g,cap,cur,hv,by omega,r⟩
theorem OwnL.ge {base:Nat} {w:World} {v:Value} {l:List (Int × Int)} (h:OwnL base w v l):∀ k,v.ownBlock=some k->base<=k:=fun k hk=>(World.ownsRow.lt h k hk).1
theorem OwnL.lt {base:Nat} {w:World} {v:Value} {l:List (Int × Int)} (h:OwnL base w v l):∀ k,v.ownBlock=some k->k < w.heap.size:=fun k hk=>(World.ownsRow.lt h k hk).2
theorem OwnL.below {B base:Nat} {w w':World} {v:Value} {l:List (Int × Int)} (h:OwnL base w v l) (hb:Below B w w') (hB:w.heap.size<=B):OwnL base w' v l:=row_below h hb hB
theorem OwnL.kept {base:Nat} {w w':World} {v:Value} {l:List (Int × Int)} {row:Option Nat} (h:OwnL base w v l) (hg:w.grownBy w' row) (hne:v.ownBlock=none\/v.ownBlock ≠ row):OwnL base w' v l:=World.ownsRow.kept h hg hne
end Go.Proofs.YtohachldbpejpaaGreatDoor
