/- Rows of blocks marked. -/
import Derived.Test.YthidkbhiikdokaaGreatZwBkMarkC
import Derived.Test.YthidkbhiikdokaaGreatZwKsMem
namespace Go.Proofs.YthidkbhiikdokaaGreat
open Go.RowKit
set_option linter.unusedVariables false
section
variable {base:Nat} {w w':World} {b:Bk} {v:Bv}
theorem OwnK.putq (h:OwnK base w b v) (hin:∀ k,v.q.ownBlock=some k->v.w.ownBlock ≠ some k) (x:List ByteArray) (hx:OwnS base w' v.q x) (hO:Oth (fun g=>v.q.ownBlock=some g) w w'):OwnK base w' { b with qw:=x } v :=
  ⟨hx,row_oth h.p hO (fun g e e2=>hin g e2 e),row_oth h.h hO (fun g e e2=>rows_apart h.q h.h (by decide) g e e2),row_oth h.t hO (fun g e e2=>rows_apart h.q h.t (by decide) g e e2),row_oth h.n hO (fun g e e2=>rows_apart h.q h.n (by decide) g e e2)⟩
theorem OwnK.putw (h:OwnK base w b v) (hin:∀ k,v.q.ownBlock=some k->v.w.ownBlock ≠ some k) (x:List ByteArray) (hx:OwnS base w' v.w x) (hO:Oth (fun g=>v.w.ownBlock=some g) w w'):OwnK base w' { b with tw:=x } v :=
  ⟨row_oth h.q hO (fun g e e2=>hin g e e2),hx,row_oth h.h hO (fun g e e2=>rows_apart h.p h.h (by decide) g e e2),row_oth h.t hO (fun g e e2=>rows_apart h.p h.t (by decide) g e e2),row_oth h.n hO (fun g e e2=>rows_apart h.p h.n (by decide) g e e2)⟩
theorem OwnK.puth (h:OwnK base w b v) (x:List Int) (hx:OwnI base w' v.h x) (hO:Oth (fun g=>v.h.ownBlock=some g) w w'):OwnK base w' { b with th:=x } v :=
  ⟨row_oth h.q hO (fun g e e2=>rows_apart h.h h.q (by decide) g e e2),row_oth h.p hO (fun g e e2=>rows_apart h.h h.p (by decide) g e e2),hx,row_oth h.t hO (fun g e e2=>rows_apart h.h h.t (by decide) g e e2),row_oth h.n hO (fun g e e2=>rows_apart h.h h.n (by decide) g e e2)⟩
theorem OwnK.putt (h:OwnK base w b v) (x:List Tx5) (hx:OwnT base w' v.t x) (hO:Oth (fun g=>v.t.ownBlock=some g) w w'):OwnK base w' { b with ts:=x } v :=
  ⟨row_oth h.q hO (fun g e e2=>rows_apart h.t h.q (by decide) g e e2),row_oth h.p hO (fun g e e2=>rows_apart h.t h.p (by decide) g e e2),row_oth h.h hO (fun g e e2=>rows_apart h.t h.h (by decide) g e e2),hx,row_oth h.n hO (fun g e e2=>rows_apart h.t h.n (by decide) g e e2)⟩
theorem OwnK.putn (h:OwnK base w b v) (x:List Vl) (hx:OwnV base w' v.n x) (hO:Oth (fun g=>v.n.ownBlock=some g) w w'):OwnK base w' { b with nx:=x } v :=
  ⟨row_oth h.q hO (fun g e e2=>rows_apart h.n h.q (by decide) g e e2),row_oth h.p hO (fun g e e2=>rows_apart h.n h.p (by decide) g e e2),row_oth h.h hO (fun g e e2=>rows_apart h.n h.h (by decide) g e e2),row_oth h.t hO (fun g e e2=>rows_apart h.n h.t (by decide) g e e2),hx⟩
end
def mkB (K:Nat) (b:Bk):Bk :=
  ⟨((K:Nat):Int),((K+1:Nat):Int),((K+2:Nat):Int),mtx (K+3),((K+4:Nat):Int),((K+5:Nat):Int),mkS (K+6) b.qw.length,((K+6+b.qw.length:Nat):Int),mkS (K+6+b.qw.length+1) b.tw.length,mkI (K+6+b.qw.length+1+b.tw.length) b.th.length,
    mkT (K+6+b.qw.length+1+b.tw.length+b.th.length) b.ts.length,decide (((K+6+b.qw.length+1+b.tw.length+b.th.length+5 * b.ts.length:Nat):Int) % 3=0),mkV (K+6+b.qw.length+1+b.tw.length+b.th.length+5 * b.ts.length+1) b.nx.length,mtx (K+6+b.qw.length+1+b.tw.length+b.th.length+5 * b.ts.length+1+2 * b.nx.length)⟩
def mkN (b:Bk):Nat:=9+b.qw.length+b.tw.length+b.th.length+5 * b.ts.length+2 * b.nx.length
def totM (l:List Bk):Nat:=(l.map mkN).sum
def mkLk:Nat->List Bk->List Bk
  | _,[]=>[]
  | k,b :: l=>mkB k b :: mkLk (k+mkN b) l
theorem mkLk_len:∀ (l:List Bk) (k:Nat),(mkLk k l).length=l.length
  | [],k=>rfl
  | b :: l,k=>by rw [mkLk,List.length_cons,mkLk_len l,List.length_cons]
theorem mkLk_at:∀ (l:List Bk) (k j:Nat) (h:j < (mkLk k l).length) (h2:j < l.length),(mkLk k l)[j]=mkB (k+totM (l.take j)) l[j]
  | [],k,j,h,h2=>by simp at h2
  | b :: l,k,0,h,h2=>by simp [mkLk,totM]
  | b :: l,k,j+1,h,h2=>by
    simp only [mkLk,List.getElem_cons_succ,List.take_succ_cons]
    rw [mkLk_at l (k+mkN b) j (by simpa [mkLk] using h) (by simpa using h2)]
    simp [totM,Nat.add_assoc]
theorem totM_snoc (l:List Bk) (k:Nat) (h:k < l.length):totM (l.take (k+1))=totM (l.take k)+mkN l[k]:=by
  unfold totM
  rw [List.take_succ_eq_append_getElem h,List.map_append,List.sum_append]
  simp only [List.map_cons,List.map_nil,List.sum_cons,List.sum_nil,Nat.add_zero]
theorem totM_le:∀ (l:List Bk) (j:Nat),totM (l.take j)<=totM l
  | [],j=>by simp [totM]
  | b :: l,0=>by simp [totM]
  | b :: l,j+1=>by
    have:=totM_le l j
    simp only [totM,List.take_succ_cons,List.map_cons,List.sum_cons] at this ⊢
    omega
def mixZ (k:Nat) (Z:List (Bk × Bv)) (j:Nat):List (Bk × Bv):=(((mkLk k (Z.map (·.1))).zip (Z.map (·.2))).take j) ++ Z.drop j
theorem mixZ_len (k:Nat) (Z:List (Bk × Bv)) (j:Nat) (hj:j<=Z.length):(mixZ k Z j).length=Z.length:=by
  simp [mixZ,mkLk_len];omega
theorem mixZ_now (k:Nat) (Z:List (Bk × Bv)) (j:Nat) (hj:j < Z.length) (h2:j < (mixZ k Z j).length):(mixZ k Z j)[j]=Z[j]:=by
  have e:(mixZ k Z j)[j]?=some Z[j]:=by
    unfold mixZ
    rw [List.getElem?_append_right (by simp [mkLk_len];omega),List.getElem?_drop,List.length_take,List.length_zip,mkLk_len,List.length_map,List.length_map,show j+(j - min j (min Z.length Z.length))=j from by omega]
    exact List.getElem?_eq_getElem hj
  rw [List.getElem?_eq_getElem h2] at e
  exact Option.some.inj e
theorem mixZ_next (k:Nat) (Z:List (Bk × Bv)) (j:Nat) (hj:j < Z.length):(mixZ k Z j).set j (mkB (k+totM ((Z.map (·.1)).take j)) Z[j].1,Z[j].2)=mixZ k Z (j+1):=by
  have hl:((mkLk k (Z.map (·.1))).zip (Z.map (·.2))).length=Z.length:=by simp [mkLk_len]
  unfold mixZ
  rw [List.take_succ_eq_append_getElem (by omega),List.set_append_right _ _ (by simp [mkLk_len];omega),List.drop_eq_getElem_cons hj,show j - (((mkLk k (Z.map (·.1))).zip (Z.map (·.2))).take j).length=0 from by simp [mkLk_len];omega,List.set_cons_zero,List.append_assoc]
  congr 1
  show _=[_] ++ _
  simp only [List.singleton_append,List.cons.injEq,and_true]
  rw [List.getElem_zip,mkLk_at _ _ _ _ (by simpa using hj)]
  simp
theorem mixZ_all (k:Nat) (Z:List (Bk × Bv)):(mixZ k Z Z.length).map (·.1)=mkLk k (Z.map (·.1)):=by
  unfold mixZ
  rw [List.take_of_length_le (by simp [mkLk_len]),List.drop_length,List.append_nil,List.map_fst_zip (by simp [mkLk_len])]
theorem mixZ_zero (k:Nat) (Z:List (Bk × Bv)):mixZ k Z 0=Z:=by simp [mixZ]
structure MidK (base:Nat) (S:Nat->Prop) (w0 w:World) (g n cap:Nat) (Z:List (Bk × Bv)) (Y:List Value):Prop where
  row:w.ownsRow base 94 14 (.slice (some ⟨g,0,none⟩) n cap) n Y
  kvs:Kvs base w g Z
  oth:Oth S w0 w
theorem MidK.set {base:Nat} {S:Nat->Prop} {w0 w:World} {g n cap:Nat} {Z:List (Bk × Bv)} {Y:List Value} (h:MidK base S w0 w g n cap Z Y) (hS:S g) (p:Nat) (u:Value):MidK base S w0 (w.setCell ⟨g,p,none⟩ u) g n cap Z (Y.set p u) :=
  ⟨(h.row.stored p u).1,h.kvs.grown (grown_set w g p u),h.oth.set hS p u⟩
theorem MidK.below {base:Nat} {S:Nat->Prop} {w0 w w':World} {g n cap:Nat} {Z:List (Bk × Bv)} {Y:List Value} (h:MidK base S w0 w g n cap Z Y) (hb:Below w.heap.size w w'):MidK base S w0 w' g n cap Z Y :=
  ⟨row_below h.row hb (Nat.le_refl _),h.kvs.below hb (Nat.le_refl _),h.oth.trans (Oth.of_below hb)⟩
theorem MidK.cell {base:Nat} {S:Nat->Prop} {w0 w:World} {g n cap:Nat} {Z:List (Bk × Bv)} {Y:List Value} (h:MidK base S w0 w g n cap Z Y) (hY:Y.length=14 * n) (p:Nat) (hp:p < 14 * n):(∃ y,w.cell? ⟨g,p,none⟩=some y)/\w.frozen? ⟨g,p,none⟩=false/\w.cell? ⟨g,p,none⟩=Y[p]? :=
  ⟨⟨Y[p]'(by omega),by rw [h.row.cellAt p (by omega)];exact List.getElem?_eq_getElem (by omega)⟩,h.row.frozenAt p,h.row.cellAt p (by omega)⟩
theorem MidK.mark {base:Nat} {S:Nat->Prop} {w0 w w':World} {g n cap:Nat} {Z:List (Bk × Bv)} {Y:List Value} (h:MidK base S w0 w g n cap Z Y) (j:Nat) (hj:j < Z.length) (P:Nat->Prop) (hP:∀ x,P x->Z[j].2.has x/\S x) (hO:Oth P w w') (b':Bk) (hK:OwnK base w' b' Z[j].2) :
    MidK base S w0 w' g n cap (Z.set j (b',Z[j].2)) Y:=by
  refine ⟨row_oth h.row hO (fun k hk hp=>?_),⟨fun i hi=>?_,fun i hi=>?_,fun i hi=>?_,fun i i2 hi hi2 hne=>?_⟩,h.oth.trans (hO.mono (fun x hx=>(hP x hx).2))⟩
  · simp only [Value.ownBlock,Option.some.injEq] at hk
    subst hk
    exact h.kvs.far j hj (hP _ hp).1
  · rw [List.getElem_set]
    split
    · exact hK
    · have hi':i < Z.length:=by simpa using hi
      have o:=h.kvs.own i hi'
      have k:∀ x,Z[i].2.has x->¬ P x:=fun x hx hp=>h.kvs.apart i j hi' hj (by omega) x hx (hP x hp).1
      exact ⟨row_oth o.q hO (fun x e=>k x (.inl e)),row_oth o.p hO (fun x e=>k x (.inr (.inl e))),row_oth o.h hO (fun x e=>k x (.inr (.inr (.inl e)))),row_oth o.t hO (fun x e=>k x (.inr (.inr (.inr (.inl e))))),row_oth o.n hO (fun x e=>k x (.inr (.inr (.inr (.inr e)))))⟩
  · have e:((Z.set j (b',Z[j].2))[i]).2=(Z[i]'(by simpa using hi)).2:=by rw [List.getElem_set];split <;> simp_all
    rw [e];exact h.kvs.far i (by simpa using hi)
  · have e:((Z.set j (b',Z[j].2))[i]).2=(Z[i]'(by simpa using hi)).2:=by rw [List.getElem_set];split <;> simp_all
    rw [e];exact h.kvs.inner i (by simpa using hi)
  · have e:((Z.set j (b',Z[j].2))[i]).2=(Z[i]'(by simpa using hi)).2:=by rw [List.getElem_set];split <;> simp_all
    have e2:((Z.set j (b',Z[j].2))[i2]).2=(Z[i2]'(by simpa using hi2)).2:=by rw [List.getElem_set];split <;> simp_all
    rw [e,e2];exact h.kvs.apart i i2 (by simpa using hi) (by simpa using hi2) hne
theorem MidK.own {base:Nat} {S:Nat->Prop} {w0 w:World} {g n cap:Nat} {X:List (Bk × Bv)} {Y:List Value} {j:Nat} {b:Bk} {v:Bv} (h:MidK base S w0 w g n cap (X.set j (b,v)) Y) (hj:j < X.length):OwnK base w b v:=by
  have o:=h.kvs.own j (by simpa using hj)
  simpa using o
theorem MidK.mark2 {base:Nat} {S:Nat->Prop} {w0 w w':World} {g n cap:Nat} {X:List (Bk × Bv)} {Y:List Value} {j:Nat} {b:Bk} {v:Bv} (h:MidK base S w0 w g n cap (X.set j (b,v)) Y) (hj:j < X.length) (P:Nat->Prop) (hP:∀ x,P x->v.has x/\S x) (hO:Oth P w w') (b':Bk) (hK:OwnK base w' b' v):MidK base S w0 w' g n cap (X.set j (b',v)) Y:=by
  have h2:=h.mark j (by simpa using hj) P (by simpa using hP) hO b' (by simpa using hK)
  simpa [List.set_set] using h2
theorem set14 {α:Type} (X:List α) (o:Nat) (y0 y1 y2 y3 y4 y5 y6 y7 y8 y9 y10 y11 y12 y13:α) (h6:X[o+6]?=some y6) (h8:X[o+8]?=some y8) (h9:X[o+9]?=some y9) (h10:X[o+10]?=some y10) (h12:X[o+12]?=some y12) :
    ((((((((X.set o y0).set (o+1) y1).set (o+2) y2).set (o+3) y3).set (o+4) y4).set (o+5) y5).set (o+7) y7).set (o+11) y11).set (o+13) y13=setAll X o [y0,y1,y2,y3,y4,y5,y6,y7,y8,y9,y10,y11,y12,y13]:=by
  simp only [setAll]
  apply List.ext_getElem?
  intro i
  simp only [List.getElem?_set,Nat.add_assoc,List.length_set]
  by_cases e6:o+6=i
  · subst e6;simp [h6];have:=(List.getElem?_eq_some_iff.1 h6).1;omega
  by_cases e8:o+8=i
  · subst e8;simp [h8];have:=(List.getElem?_eq_some_iff.1 h8).1;omega
  by_cases e9:o+9=i
  · subst e9;simp [h9];have:=(List.getElem?_eq_some_iff.1 h9).1;omega
  by_cases e10:o+10=i
  · subst e10;simp [h10];have:=(List.getElem?_eq_some_iff.1 h10).1;omega
  by_cases e12:o+12=i
  · subst e12;simp [h12];have:=(List.getElem?_eq_some_iff.1 h12).1;omega
  simp [e6,e8,e9,e10,e12]
theorem mix_at {k:Nat} {Z:List (Bk × Bv)} {j:Nat} (hj:j < Z.length) (t:Nat) (ht:t < 14):((mixZ k Z j).map bkP).flatten[j * 14+t]?=(bkC Z[j].1 Z[j].2)[t]?:=by
  have hl:=mixZ_len k Z j (by omega)
  rw [flat_get 14 _ j t (by simpa [hl] using hj) (bkP_sz _) ht]
  simp [mixZ_now k Z j hj,bkP]
end Go.Proofs.YthidkbhiikdokaaGreat
