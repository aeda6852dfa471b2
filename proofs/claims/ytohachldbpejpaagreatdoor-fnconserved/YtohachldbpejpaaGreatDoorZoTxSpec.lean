/- The model's orders. -/
import Derived.Test.YtohachldbpejpaaGreatDoorZoDrawTx5
import Derived.Test.YtohachldbpejpaaGreatDoorZoAcMark
set_option maxRecDepth 20000
set_option maxHeartbeats 2000000
namespace Go.Proofs.YtohachldbpejpaaGreatDoor
open Go.RowKit
set_option linter.unusedVariables false
def tx0:Tx5:=(0,ByteArray.empty,ByteArray.empty,0,0)
def poAt (l:List Tx5) (i:Nat):Bool:=txB (l.getD i tx0) && (decide (i=0) || lessT (l.getD (i - 1) tx0) (l.getD i tx0))
def poolB (l:List Tx5):Bool:=(List.range l.length).all (poAt l) && decide (l.length<=20)
def insT (k:Nat) (t:Tx5) (l:List Tx5):List Tx5:=l.take k ++ t :: l.drop k
def buT (l:List Tx5) (t:Tx5):Nat->Nat
  | 0=>0
  | n+1=>if lessT t (l.getD n tx0)=true then buT l t n else n+1
def poS (l:List Tx5) (t:Tx5):List Tx5 × Bool:=if (poolB l && poolB (insT (buT l t l.length) t l))=true then (insT (buT l t l.length) t l,true) else (l,false)
def Plc (l:List Tx5) (t:Tx5) (k:Nat):Prop:=k<=l.length/\(k=0\/lessT (l.getD (k - 1) tx0) t=true)/\(k=l.length\/lessT (l.getD k tx0) t=false)
structure TxAt (w:World) (b o:Nat) (t:Tx5):Prop where
  c0:w.cell? ⟨b,o,none⟩=some (.int .i64 t.1)
  c1:w.cell? ⟨b,o+1,none⟩=some (.string t.2.1)
  c2:w.cell? ⟨b,o+2,none⟩=some (.string t.2.2.1)
  c3:w.cell? ⟨b,o+3,none⟩=some (.int .i64 t.2.2.2.1)
  c4:w.cell? ⟨b,o+4,none⟩=some (.int .i64 t.2.2.2.2)
theorem TxAt.below {w w':World} {B b o:Nat} {t:Tx5} (h:TxAt w b o t) (hb:Below B w w') (hB:b < B):TxAt w' b o t :=
  ⟨(hb.cell (p:=⟨b,o,none⟩) hB).trans h.c0,(hb.cell (p:=⟨b,o+1,none⟩) hB).trans h.c1,(hb.cell (p:=⟨b,o+2,none⟩) hB).trans h.c2,(hb.cell (p:=⟨b,o+3,none⟩) hB).trans h.c3,(hb.cell (p:=⟨b,o+4,none⟩) hB).trans h.c4⟩
def RdT (w:World) (v:Value) (l:List Tx5):Prop :=
  (∃ a cap,v=.slice a 0 cap/\l=[]/\(a=none->cap=0)) \/
  ∃ b off cap,l ≠ []/\v=.slice (some ⟨b,off,none⟩) l.length cap/\l.length<=cap/\cap<=maxLen/\b < w.heap.size/\∀ i (h:i < l.length),TxAt w b (off+i * 5) l[i]
theorem RdT.shape {w:World} {v:Value} {l:List Tx5} (h:RdT w v l):∃ a cap,v=.slice a l.length cap:=by
  rcases h with ⟨a,cap,rfl,rfl,-⟩ | ⟨b,off,cap,h0,rfl,_⟩
  · exact ⟨a,cap,rfl⟩
  · exact ⟨_,cap,rfl⟩
theorem RdT.below {B:Nat} {w w':World} {v:Value} {l:List Tx5} (h:RdT w v l) (hb:Below B w w') (hB:w.heap.size<=B):RdT w' v l:=by
  rcases h with h | ⟨b,off,cap,h0,hv,h1,h2,h3,h4⟩
  · exact .inl h
  · exact .inr ⟨b,off,cap,h0,hv,h1,h2,by have:=hb.size;omega,fun i hi=>(h4 i hi).below hb (by omega)⟩
def txC (t:Tx5):List Value:=[.int .i64 t.1,.string t.2.1,.string t.2.2.1,.int .i64 t.2.2.2.1,.int .i64 t.2.2.2.2]
def txZ:List Value:=[.int .i64 0,.string { data:=#[] },.string { data:=#[] },.int .i64 0,.int .i64 0]
theorem txM_sz (l:List Tx5):∀ x ∈ l.map txC,x.length=5:=fun x hx=>by obtain ⟨p,_,rfl⟩:=List.mem_map.1 hx;rfl
def OwnT (base:Nat) (w:World) (v:Value) (l:List Tx5):Prop:=w.ownsRow base 35 5 v l.length (l.map txC).flatten
theorem OwnT.rd {base:Nat} {w:World} {v:Value} {l:List Tx5} (h:OwnT base w v l):RdT w v l:=by
  rcases h.2 with ⟨rfl,hn⟩ | ⟨g,cap,cur,rfl,hb,hg,hnc,hcm,hcs,ht⟩
  · have:l=[]:=List.length_eq_zero_iff.1 hn
    subst this
    exact .inl ⟨_,_,rfl,rfl,fun _=>rfl⟩
  · by_cases hn:l=[]
    · subst hn;exact .inl ⟨_,_,rfl,rfl,fun h=>by cases h⟩
    · refine .inr ⟨g,0,cap,hn,rfl,hnc,hcm,(Array.getElem?_eq_some_iff.1 hg).1,fun i hi=>?_⟩
      have cell:∀ j,j < 5->w.cell? ⟨g,0+i * 5+j,none⟩=(txC l[i])[j]?:=fun j hj=>by
        rw [Nat.zero_add,World.ownsRow.cellAt h (i * 5+j) (by omega),flat_get 5 (l.map txC) i j (by simpa using hi) (txM_sz l) hj]
        simp
      exact ⟨by have:=cell 0 (by omega);simpa [txC] using this,by have:=cell 1 (by omega);simpa [txC] using this,by have:=cell 2 (by omega);simpa [txC] using this,by have:=cell 3 (by omega);simpa [txC] using this,by have:=cell 4 (by omega);simpa [txC] using this⟩
theorem OwnT.below {B base:Nat} {w w':World} {v:Value} {l:List Tx5} (h:OwnT base w v l) (hb:Below B w w') (hB:w.heap.size<=B):OwnT base w' v l:=row_below h hb hB
theorem OwnT.lt {base:Nat} {w:World} {v:Value} {l:List Tx5} (h:OwnT base w v l):∀ k,v.ownBlock=some k->base<=k/\k < w.heap.size:=fun k hk=>World.ownsRow.lt h k hk
theorem Tryz.infoTx:(Tryz.prog.info? 35).map (fun i=>(i.zero,i.size,i.bytes))=some (some (.agg #[.int .i64 0,.string { data:=#[] },.string { data:=#[] },.int .i64 0,.int .i64 0]),5,56):=by kernel_rfl
def wgT (t:Tx5):Nat:=t.2.1.size+t.2.2.1.size
def totT (l:List Tx5):Nat:=(l.map wgT).sum
theorem toList_inj5 {t:ByteArray} (h:t.toList=[]):t=ByteArray.empty:=by
  rw [ByteArray.toList_eq] at h
  exact ByteArray.ext (Array.toList_inj.1 h)
theorem specTxOk_any (t:Tx5) (w:World) (hf:t.2.1.size<=maxLen) (ht:t.2.2.1.size<=maxLen) :
    Calls Tryz.prog 154 #[txV t] w fun e w'=>e=.returned (.bool (txB t))/\Below w.heap.size w w':=by
  obtain ⟨k,f,tO,am,no⟩:=t
  simp only [txV] at *
  obtain ⟨w0,hw0⟩:∃ w0,w.alloc (.cells #[.int .i64 k,.string f,.string tO,.int .i64 am,.int .i64 no] 35)=w0:=⟨_,rfl⟩
  have HB:Hid (Below w.heap.size w w0):=hide (by rw [<- hw0];exact (Below.refl _ w).alloc (Nat.le_refl _) _)
  have hk:w0.heap[w.heap.size]?=some (.cells #[.int .i64 k,.string f,.string tO,.int .i64 am,.int .i64 no] 35 (0,0)):=by rw [<- hw0];exact heap_alloc_new w _
  have k0:w0.cell? ⟨w.heap.size,0,none⟩=some (.int .i64 k):=by simp [World.cell?,hk]
  have k1:w0.cell? ⟨w.heap.size,1,none⟩=some (.string f):=by simp [World.cell?,hk]
  have k2:w0.cell? ⟨w.heap.size,2,none⟩=some (.string tO):=by simp [World.cell?,hk]
  have k3:w0.cell? ⟨w.heap.size,3,none⟩=some (.int .i64 am):=by simp [World.cell?,hk]
  have k4:w0.cell? ⟨w.heap.size,4,none⟩=some (.int .i64 no):=by simp [World.cell?,hk]
  clear hk
  have Hx:Hid (txB (k,f,tO,am,no)=(nmB f && (inB am 1 1000000 && (inB no 0 10000 && (if k=1 then nmB tO else (inB k 2 3 && decide (tO=ByteArray.empty))))))):=hide rfl
  generalize txB (k,f,tO,am,no)=X at Hx
  cases e0:nmB f
  · rw [e0,Bool.false_and] at Hx
    go_enter Tryz.func154,Tryz.ntmps154
    go_wp2_with (first
      | (go_at_call 182;refine (specNameOk_any _ _ (by assumption)).mono ?_;rintro e w0 ⟨rfl,rfl⟩)
      | (go_at_call 181;refine (l1In_any _ _ _ _).mono ?_;rintro e w0 ⟨rfl,rfl⟩))
    go_ret
    exact ⟨ret_bool Hx.out.symm,HB.out⟩
  · cases e1:inB am 1 1000000
    · rw [e0,e1,Bool.true_and,Bool.false_and] at Hx
      go_enter Tryz.func154,Tryz.ntmps154
      go_wp2_with (first
        | (go_at_call 182;refine (specNameOk_any _ _ (by assumption)).mono ?_;rintro e w0 ⟨rfl,rfl⟩)
        | (go_at_call 181;refine (l1In_any _ _ _ _).mono ?_;rintro e w0 ⟨rfl,rfl⟩))
      go_ret
      exact ⟨ret_bool Hx.out.symm,HB.out⟩
    · cases e2:inB no 0 10000
      · rw [e0,e1,e2,Bool.true_and,Bool.true_and,Bool.false_and] at Hx
        go_enter Tryz.func154,Tryz.ntmps154
        go_wp2_with (first
          | (go_at_call 182;refine (specNameOk_any _ _ (by assumption)).mono ?_;rintro e w0 ⟨rfl,rfl⟩)
          | (go_at_call 181;refine (l1In_any _ _ _ _).mono ?_;rintro e w0 ⟨rfl,rfl⟩))
        go_ret
        exact ⟨ret_bool Hx.out.symm,HB.out⟩
      · rw [e0, e1,e2,Bool.true_and,Bool.true_and,Bool.true_and] at Hx
        by_cases hk1:k=1
        · rw [if_pos hk1] at Hx
          subst hk1
          go_enter Tryz.func154,Tryz.ntmps154
          go_wp2_with (first
            | (go_at_call 182;refine (specNameOk_any _ _ (by assumption)).mono ?_;rintro e w0 ⟨rfl,rfl⟩)
            | (go_at_call 181;refine (l1In_any _ _ _ _).mono ?_;rintro e w0 ⟨rfl,rfl⟩))
          go_ret
          exact ⟨ret_bool Hx.out.symm,HB.out⟩
        · rw [if_neg hk1] at Hx
          have hkb:(k == 1)=false:=by rw [beq_eq_false_iff_ne];exact hk1
          clear hk1
          cases e3:inB k 2 3
          · rw [e3,Bool.false_and] at Hx
            go_enter Tryz.func154,Tryz.ntmps154
            go_wp2_with (first
              | (go_at_call 182;refine (specNameOk_any _ _ (by assumption)).mono ?_;rintro e w0 ⟨rfl,rfl⟩)
              | (go_at_call 181;refine (l1In_any _ _ _ _).mono ?_;rintro e w0 ⟨rfl,rfl⟩))
            go_ret
            exact ⟨ret_bool Hx.out.symm,HB.out⟩
          · by_cases e4:tO=ByteArray.empty
            · rw [e3,decide_eq_true e4,Bool.true_and] at Hx
              subst e4
              go_enter Tryz.func154,Tryz.ntmps154
              go_wp2_with (first
                | (go_at_call 182;refine (specNameOk_any _ _ (by assumption)).mono ?_;rintro e w0 ⟨rfl,rfl⟩)
                | (go_at_call 181;refine (l1In_any _ _ _ _).mono ?_;rintro e w0 ⟨rfl,rfl⟩))
              go_ret
              exact ⟨ret_bool Hx.out.symm,HB.out⟩
            · rw [e3,decide_eq_false e4,Bool.true_and] at Hx
              have hne:tO.toList.isEmpty=false:=by
                cases h:tO.toList.isEmpty
                · rfl
                · exact absurd (toList_inj5 (List.isEmpty_iff.1 h)) e4
              clear e4
              go_enter Tryz.func154,Tryz.ntmps154
              go_wp2_with (first
                | (go_at_call 182;refine (specNameOk_any _ _ (by assumption)).mono ?_;rintro e w0 ⟨rfl,rfl⟩)
                | (go_at_call 181;refine (l1In_any _ _ _ _).mono ?_;rintro e w0 ⟨rfl,rfl⟩))
              go_ret
              exact ⟨ret_bool Hx.out.symm,HB.out⟩
end Go.Proofs.YtohachldbpejpaaGreatDoor
