/- Those who vote. -/
import Derived.Test.YthidkbhiikdokaaGreatZwTxVal
import Derived.Deep.RegionLaw
import Derived.Test.YthidkbhiikdokaaGreatZwLgVal
set_option maxRecDepth 20000
set_option maxHeartbeats 2000000
namespace Go.Proofs.YthidkbhiikdokaaGreat
open Go.RowKit
set_option linter.unusedVariables false
structure TxAt (w:World) (b o:Nat) (t:Tx5):Prop where
  c0:w.cell? ⟨b,o,none⟩=some (.int .i64 t.1)
  c1:w.cell? ⟨b,o+1,none⟩=some (.string t.2.1)
  c2:w.cell? ⟨b,o+2,none⟩=some (.string t.2.2.1)
  c3:w.cell? ⟨b,o+3,none⟩=some (.int .i64 t.2.2.2.1)
  c4:w.cell? ⟨b,o+4,none⟩=some (.int .i64 t.2.2.2.2)
theorem TxAt.below {w w':World} {B b o:Nat} {t:Tx5} (h:TxAt w b o t) (hb:Below B w w') (hB:b < B):TxAt w' b o t :=
  ⟨(hb.cell (p:=⟨b,o,none⟩) hB).trans h.c0,(hb.cell (p:=⟨b,o+1,none⟩) hB).trans h.c1,(hb.cell (p:=⟨b,o+2,none⟩) hB).trans h.c2,(hb.cell (p:=⟨b,o+3,none⟩) hB).trans h.c3,(hb.cell (p:=⟨b,o+4,none⟩) hB).trans h.c4⟩
def RdT (w:World) (v:Value) (l:List Tx5):Prop :=
  (∃ a cap,v=.slice a 0 cap/\l=[]/\(a=none->cap=0)) \/
  ∃ b off cap,l ≠ []/\v=.slice (some ⟨b,off,none⟩) l.length cap/\l.length<=cap/\cap<=maxLen/\b < w.heap.size/\∀ i (h:i < l.length),TxAt w b (off+i * 5) l[i]
theorem RdT.shape {w:World} {v:Value} {l:List Tx5} (h:RdT w v l):∃ a cap,v=.slice a l.length cap:=by
  rcases h with ⟨a,cap,rfl,rfl,-⟩ | ⟨b,off,cap,h0,rfl,_⟩
  · exact ⟨a,cap,rfl⟩
  · exact ⟨_,cap,rfl⟩
theorem RdT.below {B:Nat} {w w':World} {v:Value} {l:List Tx5} (h:RdT w v l) (hb:Below B w w') (hB:w.heap.size<=B):RdT w' v l:=by
  rcases h with h | ⟨b,off,cap,h0,hv,h1,h2,h3,h4⟩
  · exact .inl h
  · exact .inr ⟨b,off,cap,h0,hv,h1,h2,by have:=hb.size;omega,fun i hi=>(h4 i hi).below hb (by omega)⟩
def txC (t:Tx5):List Value:=[.int .i64 t.1,.string t.2.1,.string t.2.2.1,.int .i64 t.2.2.2.1,.int .i64 t.2.2.2.2]
def txZ:List Value:=[.int .i64 0,.string { data:=#[] },.string { data:=#[] },.int .i64 0,.int .i64 0]
theorem txM_sz (l:List Tx5):∀ x ∈ l.map txC,x.length=5:=fun x hx=>by obtain ⟨p,_,rfl⟩:=List.mem_map.1 hx;rfl
def OwnT (base:Nat) (w:World) (v:Value) (l:List Tx5):Prop:=w.ownsRow base 137 5 v l.length (l.map txC).flatten
theorem OwnT.rd {base:Nat} {w:World} {v:Value} {l:List Tx5} (h:OwnT base w v l):RdT w v l:=by
  rcases h.2 with ⟨rfl,hn⟩ | ⟨g,cap,cur,rfl,hb,hg,hnc,hcm,hcs,ht⟩
  · have:l=[]:=List.length_eq_zero_iff.1 hn
    subst this
    exact .inl ⟨_,_,rfl,rfl,fun _=>rfl⟩
  · by_cases hn:l=[]
    · subst hn;exact .inl ⟨_,_,rfl,rfl,fun h=>by cases h⟩
    · refine .inr ⟨g,0,cap,hn,rfl,hnc,hcm,(Array.getElem?_eq_some_iff.1 hg).1,fun i hi=>?_⟩
      have cell:∀ j,j < 5->w.cell? ⟨g,0+i * 5+j,none⟩=(txC l[i])[j]?:=fun j hj=>by
        rw [Nat.zero_add,World.ownsRow.cellAt h (i * 5+j) (by omega),flat_get 5 (l.map txC) i j (by simpa using hi) (txM_sz l) hj]
        simp
      exact ⟨by have:=cell 0 (by omega);simpa [txC] using this,by have:=cell 1 (by omega);simpa [txC] using this,by have:=cell 2 (by omega);simpa [txC] using this,by have:=cell 3 (by omega);simpa [txC] using this,by have:=cell 4 (by omega);simpa [txC] using this⟩
theorem eqTxS_any (v1 v2:Value) (l1 l2:List Tx5) (w:World) (hr1:RdT w v1 l1) (hr2:RdT w v2 l2) (hl1:l1.length<=4000000) (hl2:l2.length<=4000000) (he:l1=l2) :
    Calls Tryz.prog 94 #[v1,v2] w fun e w'=>e=.returned (.bool true)/\Below w.heap.size w w':=by
  subst he
  rcases hr1 with ⟨a,cap,rfl,rfl,-⟩ | ⟨b,off,cap,h0,rfl,h1,h2,h3,h4⟩
  · obtain ⟨a2,cap2,rfl⟩:=hr2.shape
    clear hr2
    go_enter Tryz.func94,Tryz.ntmps94
    go_wp2
    refine wp_loop_rounds 1 ?_
    rw [rounds_succ]
    go_wp2
    go_ret
    exact ⟨rfl,Below.refl _ _⟩
  · rcases hr2 with ⟨a2,cap2,rfl,rfl,-⟩ | ⟨b2,off2,cap2,g0,rfl,g1,g2,g3,g4⟩
    · exact absurd rfl h0
    · have H4:=hide h4
      have G4:=hide g4
      clear h4 g4
      go_enter Tryz.func94,Tryz.ntmps94
      go_wp2
      go_loopw [5] (fun i wr=>∃ k:Nat,k<=l1.length/\i=.int .i64 k/\Below w.heap.size w wr) (fun i _=>l1.length - (intOf i).toNat)
      case atStart=>exact ⟨0,Nat.zero_le _,rfl,Below.refl _ _⟩
      case round =>
        obtain ⟨k,hk,rfl,hs⟩:=hrel
        by_cases hlt:k < l1.length
        · obtain ⟨c0,c1,c2,c3,c4⟩:=(H4.out k hlt).below hs.drew h3
          obtain ⟨d0,d1,d2,d3,d4⟩:=(G4.out k hlt).below hs.drew g3
          have hli:(k:Int) < (l1.length:Int):=by omega
          have HE:=hide (eqTx_any l1[k] l1[k] wr.drew)
          rw [decide_eq_true rfl] at HE
          generalize l1[k]=p at c0 c1 c2 c3 c4 d0 d1 d2 d3 d4 HE
          obtain ⟨kd,fr,tO,am,no⟩:=p
          simp only [txV] at c0 c1 c2 c3 c4 d0 d1 d2 d3 d4 HE
          have hS1:wr.drew.cell? ⟨b,off+k * 5,none⟩=some (.int .i64 kd)/\wr.drew.cell? ⟨b,off+k * 5+1,none⟩=some (.string fr)/\wr.drew.cell? ⟨b,off+k * 5+2,none⟩=some (.string tO)/\wr.drew.cell? ⟨b,off+k * 5+3,none⟩=some (.int .i64 am)/\wr.drew.cell? ⟨b,off+k * 5+4,none⟩=some (.int .i64 no)/\wr.drew.cell? ⟨b2,off2+k * 5,none⟩=some (.int .i64 kd)/\wr.drew.cell? ⟨b2,off2+k * 5+1,none⟩=some (.string fr)/\wr.drew.cell? ⟨b2,off2+k * 5+2,none⟩=some (.string tO)/\wr.drew.cell? ⟨b2,off2+k * 5+3,none⟩=some (.int .i64 am)/\wr.drew.cell? ⟨b2,off2+k * 5+4,none⟩=some (.int .i64 no):=⟨c0,c1,c2,c3,c4,d0,d1,d2,d3,d4⟩
          clear c0 c1 c2 c3 c4 d0 d1 d2 d3 d4
          go_wp2
          go_region_held_law (fun w'=>w'.cell? ⟨b,off+k * 5,none⟩=some (.int .i64 kd)/\w'.cell? ⟨b,off+k * 5+1,none⟩=some (.string fr)/\w'.cell? ⟨b,off+k * 5+2,none⟩=some (.string tO)/\w'.cell? ⟨b,off+k * 5+3,none⟩=some (.int .i64 am)/\w'.cell? ⟨b,off+k * 5+4,none⟩=some (.int .i64 no)/\w'.cell? ⟨b2,off2+k * 5,none⟩=some (.int .i64 kd)/\w'.cell? ⟨b2,off2+k * 5+1,none⟩=some (.string fr)/\w'.cell? ⟨b2,off2+k * 5+2,none⟩=some (.string tO)/\w'.cell? ⟨b2,off2+k * 5+3,none⟩=some (.int .i64 am)/\w'.cell? ⟨b2,off2+k * 5+4,none⟩=some (.int .i64 no)) (first | exact hS1 | exact hS2) ((go_at_call 104;refine HE.out.mono ?_;rintro e w2 ⟨rfl,hb2⟩;have hz:=hs.size;have hS2:w2.cell? ⟨b,off+k * 5,none⟩=some (.int .i64 kd)/\w2.cell? ⟨b,off+k * 5+1,none⟩=some (.string fr)/\w2.cell? ⟨b,off+k * 5+2,none⟩=some (.string tO)/\w2.cell? ⟨b,off+k * 5+3,none⟩=some (.int .i64 am)/\w2.cell? ⟨b,off+k * 5+4,none⟩=some (.int .i64 no)/\w2.cell? ⟨b2,off2+k * 5,none⟩=some (.int .i64 kd)/\w2.cell? ⟨b2,off2+k * 5+1,none⟩=some (.string fr)/\w2.cell? ⟨b2,off2+k * 5+2,none⟩=some (.string tO)/\w2.cell? ⟨b2,off2+k * 5+3,none⟩=some (.int .i64 am)/\w2.cell? ⟨b2,off2+k * 5+4,none⟩=some (.int .i64 no):=⟨(hb2.cell (p:=⟨b,off+k * 5,none⟩) (Nat.lt_of_lt_of_le h3 hz)).trans hS1.1,(hb2.cell (p:=⟨b,off+k * 5+1,none⟩) (Nat.lt_of_lt_of_le h3 hz)).trans hS1.2.1,(hb2.cell (p:=⟨b,off+k * 5+2,none⟩) (Nat.lt_of_lt_of_le h3 hz)).trans hS1.2.2.1,(hb2.cell (p:=⟨b,off+k * 5+3,none⟩) (Nat.lt_of_lt_of_le h3 hz)).trans hS1.2.2.2.1,(hb2.cell (p:=⟨b,off+k * 5+4,none⟩) (Nat.lt_of_lt_of_le h3 hz)).trans hS1.2.2.2.2.1,(hb2.cell (p:=⟨b2,off2+k * 5,none⟩) (Nat.lt_of_lt_of_le g3 hz)).trans hS1.2.2.2.2.2.1,(hb2.cell (p:=⟨b2,off2+k * 5+1,none⟩) (Nat.lt_of_lt_of_le g3 hz)).trans hS1.2.2.2.2.2.2.1,(hb2.cell (p:=⟨b2,off2+k * 5+2,none⟩) (Nat.lt_of_lt_of_le g3 hz)).trans hS1.2.2.2.2.2.2.2.1,(hb2.cell (p:=⟨b2,off2+k * 5+3,none⟩) (Nat.lt_of_lt_of_le g3 hz)).trans hS1.2.2.2.2.2.2.2.2.1,(hb2.cell (p:=⟨b2,off2+k * 5+4,none⟩) (Nat.lt_of_lt_of_le g3 hz)).trans hS1.2.2.2.2.2.2.2.2.2⟩))
          go_wp2
          go_roundw
          case rel=>exact ⟨k+1,by omega,by go_num,hs.drew.trans (hb2.mono hs.size)⟩
          case measure=>simp [intOf];omega
        · go_wp2
          go_ret
          exact ⟨rfl,hs⟩
end Go.Proofs.YthidkbhiikdokaaGreat
namespace Go.Proofs.YthidkbhiikdokaaGreat
open Go.RowKit Go.Sort
set_option linter.unusedVariables false
def vl0:Vl:=(ByteArray.empty,0)
def valB (p:Vl):Bool:=nmB p.1 && inB p.2 1 1000000
def vlAt (l:List Vl) (i:Nat):Bool:=valB (l.getD i vl0) && (decide (i=0) || Op.bytesLess (l.getD (i - 1) vl0).1.toList (l.getD i vl0).1.toList)
def setB (l:List Vl):Bool:=(List.range l.length).all (vlAt l) && inB l.length 1 12
end Go.Proofs.YthidkbhiikdokaaGreat
