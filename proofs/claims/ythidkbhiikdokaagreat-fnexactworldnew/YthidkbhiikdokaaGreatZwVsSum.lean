/- What those who vote weigh, on both sides. -/
import Derived.Test.YthidkbhiikdokaaGreatZwVsStep
set_option maxRecDepth 20000
set_option maxHeartbeats 1000000
namespace Go.Proofs.YthidkbhiikdokaaGreat
open Go.RowKit
set_option linter.unusedVariables false
abbrev Tr:=Int × Int × ByteArray
def trV (p:Tr):Value:=.agg #[.int .i64 p.1,.int .i64 p.2.1,.string p.2.2]
def trC (p:Tr):List Value:=[.int .i64 p.1,.int .i64 p.2.1,.string p.2.2]
structure TrAt (w:World) (b o:Nat) (p:Tr):Prop where
  c0:w.cell? ⟨b,o,none⟩=some (.int .i64 p.1)
  c1:w.cell? ⟨b,o+1,none⟩=some (.int .i64 p.2.1)
  c2:w.cell? ⟨b,o+2,none⟩=some (.string p.2.2)
theorem TrAt.below {w w':World} {B b o:Nat} {p:Tr} (h:TrAt w b o p) (hb:Below B w w') (hB:b < B):TrAt w' b o p :=
  ⟨(hb.cell (p:=⟨b,o,none⟩) hB).trans h.c0,(hb.cell (p:=⟨b,o+1,none⟩) hB).trans h.c1,(hb.cell (p:=⟨b,o+2,none⟩) hB).trans h.c2⟩
def RdR (w:World) (v:Value) (l:List Tr):Prop :=
  (∃ a cap,v=.slice a 0 cap/\l=[]/\(a=none->cap=0)) \/
  ∃ b off cap,l ≠ []/\v=.slice (some ⟨b,off,none⟩) l.length cap/\l.length<=cap/\cap<=maxLen/\b < w.heap.size/\∀ i (h:i < l.length),TrAt w b (off+i * 3) l[i]
theorem RdR.shape {w:World} {v:Value} {l:List Tr} (h:RdR w v l):∃ a cap,v=.slice a l.length cap:=by
  rcases h with ⟨a,cap,rfl,rfl,-⟩ | ⟨b,off,cap,h0,rfl,_⟩
  · exact ⟨a,cap,rfl⟩
  · exact ⟨_,cap,rfl⟩
theorem RdR.below {B:Nat} {w w':World} {v:Value} {l:List Tr} (h:RdR w v l) (hb:Below B w w') (hB:w.heap.size<=B):RdR w' v l:=by
  rcases h with h | ⟨b,off,cap,h0,hv,h1,h2,h3,h4⟩
  · exact .inl h
  · exact .inr ⟨b,off,cap,h0,hv,h1,h2,by have:=hb.size;omega,fun i hi=>(h4 i hi).below hb (by omega)⟩
theorem trM_sz (l:List Tr):∀ x ∈ l.map trC,x.length=3:=fun x hx=>by obtain ⟨p,_,rfl⟩:=List.mem_map.1 hx;rfl
def OwnR (t:TypeId) (base:Nat) (w:World) (v:Value) (l:List Tr):Prop:=w.ownsRow base t 3 v l.length (l.map trC).flatten
theorem OwnR.rd {t:TypeId} {base:Nat} {w:World} {v:Value} {l:List Tr} (h:OwnR t base w v l):RdR w v l:=by
  rcases h.2 with ⟨rfl,hn⟩ | ⟨g,cap,cur,rfl,hb,hg,hnc,hcm,hcs,ht⟩
  · have:l=[]:=List.length_eq_zero_iff.1 hn
    subst this
    exact .inl ⟨_,_,rfl,rfl,fun _=>rfl⟩
  · by_cases hn:l=[]
    · subst hn;exact .inl ⟨_,_,rfl,rfl,fun h=>by cases h⟩
    · refine .inr ⟨g,0,cap,hn,rfl,hnc,hcm,(Array.getElem?_eq_some_iff.1 hg).1,fun i hi=>?_⟩
      have cell:∀ j,j < 3->w.cell? ⟨g,0+i * 3+j,none⟩=(trC l[i])[j]?:=fun j hj=>by
        rw [Nat.zero_add,World.ownsRow.cellAt h (i * 3+j) (by omega),flat_get 3 (l.map trC) i j (by simpa using hi) (trM_sz l) hj]
        simp
      exact ⟨by have:=cell 0 (by omega);simpa [trC] using this,by have:=cell 1 (by omega);simpa [trC] using this,by have:=cell 2 (by omega);simpa [trC] using this⟩
theorem Blk.newR (W:World) (t:TypeId) (cs:List Value) (n:Nat) (h:n=W.heap.size):Blk (W.alloc (.cells cs.toArray t)) n t cs:=by subst h;exact Blk.new W t cs
def sumV (f:Vl->Int) (l:List Vl):Int:=l.foldl (fun s p=>wrap64 (s+f p)) 0
def hasN (ns:List ByteArray) (s:ByteArray):Bool:=ns.any (fun t=>decide (t=s))
theorem hasN_yes {ns:List ByteArray} {s:ByteArray} (h:s ∈ ns):hasN ns s=true:=List.any_eq_true.2 ⟨s,h,by simp⟩
theorem hasN_no {ns:List ByteArray} {s:ByteArray} (h:s ∉ ns):hasN ns s=false:=by
  cases e:hasN ns s with
  | false=>rfl
  | true =>
    obtain ⟨t,ht,e'⟩:=List.any_eq_true.1 e
    have:t=s:=by simpa using e'
    exact absurd (this ▸ ht) h
def wtN (ns:List ByteArray) (p:Vl):Int:=if hasN ns p.1=true then p.2 else 0
def weightV (l:List Vl) (ns:List ByteArray):Int:=sumV (wtN ns) l
def totalV (l:List Vl):Int:=sumV (·.2) l
def leadV (l:List Vl) (r:Int):ByteArray:=if l.length=0\/r < 0 then ByteArray.empty else (l.getD (r.toNat % l.length) (ByteArray.empty,0)).1
theorem mem_next {ns:List ByteArray} {s:ByteArray} {k:Nat} (h:k < ns.length) (hn:s ∉ ns.take k) (he:ns[k] ≠ s):s ∉ ns.take (k+1):=by
  rw [List.take_succ_eq_append_getElem h]
  intro hm
  rcases List.mem_append.1 hm with h' | h'
  · exact hn h'
  · exact he (by simpa using (List.mem_singleton.1 h').symm)
theorem specHas_any (v:Value) (ns:List ByteArray) (s:ByteArray) (w:World) (hr:RdS w v ns) (hl:ns.length<=4000000) :
    Calls Tryz.prog 21 #[v,.string s] w fun e w'=>e=.returned (.bool (hasN ns s))/\Below w.heap.size w w':=by
  rcases hr with ⟨a,cap,rfl,rfl,-⟩ | ⟨b,off,cap,h0,rfl,h1,h2,h3,h4⟩
  · go_enter Tryz.func21,Tryz.ntmps21
    go_wp2
    refine wp_loop_rounds 1 ?_
    rw [rounds_succ]
    go_wp2
    go_ret
    exact ⟨rfl,Below.refl _ _⟩
  · have H4:=hide h4
    clear h4
    go_enter Tryz.func21,Tryz.ntmps21
    go_wp2
    go_loopw [5] (fun i wr=>∃ k:Nat,k<=ns.length/\i=.int .i64 k/\s ∉ ns.take k/\Below w.heap.size w wr) (fun i _=>ns.length - (intOf i).toNat)
    case atStart=>exact ⟨0,Nat.zero_le _,rfl,by simp,Below.refl _ _⟩
    case round =>
      obtain ⟨k,hk,rfl,hno,hb⟩:=hrel
      have Hno:=hide hno
      clear hno
      by_cases hlt:k < ns.length
      · have hc:=(hb.cell (p:=⟨b,off+k,none⟩) h3).trans (H4.out k hlt)
        have hli:(k:Int) < (ns.length:Int):=by omega
        by_cases he:ns[k]=s
        · have Hr:Hid (hasN ns s=true):=hide (hasN_yes (by rw [<- he];exact List.getElem_mem _))
          rw [he] at hc
          clear he
          go_wp2
          go_ret
          exact ⟨ret_bool Hr.out.symm,hb⟩
        · have Hn2:=hide (mem_next hlt Hno.out he)
          have hq:=bytes_ne he
          clear he Hno
          generalize ns[k]=t at hc hq
          go_wp2
          go_roundw
          case rel=>exact ⟨k+1,by omega,by go_num,Hn2.out,hb⟩
          case measure=>simp [intOf];omega
      · have Hr:Hid (hasN ns s=false):=hide (hasN_no (by have:=Hno.out;rwa [List.take_of_length_le (by omega)] at this))
        go_wp2
        go_ret
        exact ⟨ret_bool Hr.out.symm,hb⟩
end Go.Proofs.YthidkbhiikdokaaGreat
