/- Votes and leavings marked, with what they are then, and held against their marks. -/
import Derived.Test.YthehfkafcdociaaGreatDoorZyBkMarkC
set_option maxRecDepth 20000
set_option maxHeartbeats 8000000
namespace Go.Proofs.YthehfkafcdociaaGreatDoor
open Go.RowKit
set_option linter.unusedVariables false
section
variable {base:Nat} {w w':World} {b:Bk} {v:Bv}
theorem OwnK.putq (h:OwnK base w b v) (hin:∀ k,v.q.ownBlock=some k->v.w.ownBlock ≠ some k) (x:List ByteArray) (hx:OwnS base w' v.q x) (hO:Oth (fun g=>v.q.ownBlock=some g) w w'):OwnK base w' { b with qw:=x } v :=
  ⟨hx,row_oth h.p hO (fun g e e2=>hin g e2 e),row_oth h.h hO (fun g e e2=>rows_apart h.q h.h (by decide) g e e2),row_oth h.t hO (fun g e e2=>rows_apart h.q h.t (by decide) g e e2),row_oth h.n hO (fun g e e2=>rows_apart h.q h.n (by decide) g e e2)⟩
theorem OwnK.putw (h:OwnK base w b v) (hin:∀ k,v.q.ownBlock=some k->v.w.ownBlock ≠ some k) (x:List ByteArray) (hx:OwnS base w' v.w x) (hO:Oth (fun g=>v.w.ownBlock=some g) w w'):OwnK base w' { b with tw:=x } v :=
  ⟨row_oth h.q hO (fun g e e2=>hin g e e2),hx,row_oth h.h hO (fun g e e2=>rows_apart h.p h.h (by decide) g e e2),row_oth h.t hO (fun g e e2=>rows_apart h.p h.t (by decide) g e e2),row_oth h.n hO (fun g e e2=>rows_apart h.p h.n (by decide) g e e2)⟩
theorem OwnK.puth (h:OwnK base w b v) (x:List Int) (hx:OwnI base w' v.h x) (hO:Oth (fun g=>v.h.ownBlock=some g) w w'):OwnK base w' { b with th:=x } v :=
  ⟨row_oth h.q hO (fun g e e2=>rows_apart h.h h.q (by decide) g e e2),row_oth h.p hO (fun g e e2=>rows_apart h.h h.p (by decide) g e e2),hx,row_oth h.t hO (fun g e e2=>rows_apart h.h h.t (by decide) g e e2),row_oth h.n hO (fun g e e2=>rows_apart h.h h.n (by decide) g e e2)⟩
theorem OwnK.putt (h:OwnK base w b v) (x:List Tx5) (hx:OwnT base w' v.t x) (hO:Oth (fun g=>v.t.ownBlock=some g) w w'):OwnK base w' { b with ts:=x } v :=
  ⟨row_oth h.q hO (fun g e e2=>rows_apart h.t h.q (by decide) g e e2),row_oth h.p hO (fun g e e2=>rows_apart h.t h.p (by decide) g e e2),row_oth h.h hO (fun g e e2=>rows_apart h.t h.h (by decide) g e e2),hx,row_oth h.n hO (fun g e e2=>rows_apart h.t h.n (by decide) g e e2)⟩
theorem OwnK.putn (h:OwnK base w b v) (x:List Vl) (hx:OwnV base w' v.n x) (hO:Oth (fun g=>v.n.ownBlock=some g) w w'):OwnK base w' { b with nx:=x } v :=
  ⟨row_oth h.q hO (fun g e e2=>rows_apart h.n h.q (by decide) g e e2),row_oth h.p hO (fun g e e2=>rows_apart h.n h.p (by decide) g e e2),row_oth h.h hO (fun g e e2=>rows_apart h.n h.h (by decide) g e e2),row_oth h.t hO (fun g e e2=>rows_apart h.n h.t (by decide) g e e2),hx⟩
end
def mkB (K:Nat) (b:Bk):Bk :=
  ⟨((K:Nat):Int),((K+1:Nat):Int),((K+2:Nat):Int),mtx (K+3),((K+4:Nat):Int),((K+5:Nat):Int),mkS (K+6) b.qw.length,((K+6+b.qw.length:Nat):Int),mkS (K+6+b.qw.length+1) b.tw.length,mkI (K+6+b.qw.length+1+b.tw.length) b.th.length,
    mkT (K+6+b.qw.length+1+b.tw.length+b.th.length) b.ts.length,decide (((K+6+b.qw.length+1+b.tw.length+b.th.length+5 * b.ts.length:Nat):Int) % 3=0),mkV (K+6+b.qw.length+1+b.tw.length+b.th.length+5 * b.ts.length+1) b.nx.length,mtx (K+6+b.qw.length+1+b.tw.length+b.th.length+5 * b.ts.length+1+2 * b.nx.length)⟩
def mkN (b:Bk):Nat:=9+b.qw.length+b.tw.length+b.th.length+5 * b.ts.length+2 * b.nx.length
def totM (l:List Bk):Nat:=(l.map mkN).sum
def mkLk:Nat->List Bk->List Bk
  | _,[]=>[]
  | k,b :: l=>mkB k b :: mkLk (k+mkN b) l
theorem mkLk_len:∀ (l:List Bk) (k:Nat),(mkLk k l).length=l.length
  | [],k=>rfl
  | b :: l,k=>by rw [mkLk,List.length_cons,mkLk_len l,List.length_cons]
theorem mkLk_at:∀ (l:List Bk) (k j:Nat) (h:j < (mkLk k l).length) (h2:j < l.length),(mkLk k l)[j]=mkB (k+totM (l.take j)) l[j]
  | [],k,j,h,h2=>by simp at h2
  | b :: l,k,0,h,h2=>by simp [mkLk,totM]
  | b :: l,k,j+1,h,h2=>by
    simp only [mkLk,List.getElem_cons_succ,List.take_succ_cons]
    rw [mkLk_at l (k+mkN b) j (by simpa [mkLk] using h) (by simpa using h2)]
    simp [totM,Nat.add_assoc]
theorem totM_snoc (l:List Bk) (k:Nat) (h:k < l.length):totM (l.take (k+1))=totM (l.take k)+mkN l[k]:=by
  unfold totM
  rw [List.take_succ_eq_append_getElem h,List.map_append,List.sum_append]
  simp only [List.map_cons,List.map_nil,List.sum_cons,List.sum_nil,Nat.add_zero]
theorem totM_le:∀ (l:List Bk) (j:Nat),totM (l.take j)<=totM l
  | [],j=>by simp [totM]
  | b :: l,0=>by simp [totM]
  | b :: l,j+1=>by
    have:=totM_le l j
    simp only [totM,List.take_succ_cons,List.map_cons,List.sum_cons] at this ⊢
    omega
def mixZ (k:Nat) (Z:List (Bk × Bv)) (j:Nat):List (Bk × Bv):=(((mkLk k (Z.map (·.1))).zip (Z.map (·.2))).take j) ++ Z.drop j
theorem mixZ_len (k:Nat) (Z:List (Bk × Bv)) (j:Nat) (hj:j<=Z.length):(mixZ k Z j).length=Z.length:=by
  simp [mixZ,mkLk_len];omega
theorem mixZ_now (k:Nat) (Z:List (Bk × Bv)) (j:Nat) (hj:j < Z.length) (h2:j < (mixZ k Z j).length):(mixZ k Z j)[j]=Z[j]:=by
  have e:(mixZ k Z j)[j]?=some Z[j]:=by
    unfold mixZ
    rw [List.getElem?_append_right (by simp [mkLk_len];omega),List.getElem?_drop,List.length_take,List.length_zip,mkLk_len,List.length_map,List.length_map,show j+(j - min j (min Z.length Z.length))=j from by omega]
    exact List.getElem?_eq_getElem hj
  rw [List.getElem?_eq_getElem h2] at e
  exact Option.some.inj e
theorem mixZ_next (k:Nat) (Z:List (Bk × Bv)) (j:Nat) (hj:j < Z.length):(mixZ k Z j).set j (mkB (k+totM ((Z.map (·.1)).take j)) Z[j].1,Z[j].2)=mixZ k Z (j+1):=by
  have hl:((mkLk k (Z.map (·.1))).zip (Z.map (·.2))).length=Z.length:=by simp [mkLk_len]
  unfold mixZ
  rw [List.take_succ_eq_append_getElem (by omega),List.set_append_right _ _ (by simp [mkLk_len];omega),List.drop_eq_getElem_cons hj,show j - (((mkLk k (Z.map (·.1))).zip (Z.map (·.2))).take j).length=0 from by simp [mkLk_len];omega,List.set_cons_zero,List.append_assoc]
  congr 1
  show _=[_] ++ _
  simp only [List.singleton_append,List.cons.injEq,and_true]
  rw [List.getElem_zip,mkLk_at _ _ _ _ (by simpa using hj)]
  simp
theorem mixZ_all (k:Nat) (Z:List (Bk × Bv)):(mixZ k Z Z.length).map (·.1)=mkLk k (Z.map (·.1)):=by
  unfold mixZ
  rw [List.take_of_length_le (by simp [mkLk_len]),List.drop_length,List.append_nil,List.map_fst_zip (by simp [mkLk_len])]
theorem mixZ_zero (k:Nat) (Z:List (Bk × Bv)):mixZ k Z 0=Z:=by simp [mixZ]
structure MidK (base:Nat) (S:Nat->Prop) (w0 w:World) (g n cap:Nat) (Z:List (Bk × Bv)) (Y:List Value):Prop where
  row:w.ownsRow base 69 14 (.slice (some ⟨g,0,none⟩) n cap) n Y
  kvs:Kvs base w g Z
  oth:Oth S w0 w
theorem MidK.set {base:Nat} {S:Nat->Prop} {w0 w:World} {g n cap:Nat} {Z:List (Bk × Bv)} {Y:List Value} (h:MidK base S w0 w g n cap Z Y) (hS:S g) (p:Nat) (u:Value):MidK base S w0 (w.setCell ⟨g,p,none⟩ u) g n cap Z (Y.set p u) :=
  ⟨(h.row.stored p u).1,h.kvs.grown (grown_set w g p u),h.oth.set hS p u⟩
theorem MidK.below {base:Nat} {S:Nat->Prop} {w0 w w':World} {g n cap:Nat} {Z:List (Bk × Bv)} {Y:List Value} (h:MidK base S w0 w g n cap Z Y) (hb:Below w.heap.size w w'):MidK base S w0 w' g n cap Z Y :=
  ⟨row_below h.row hb (Nat.le_refl _),h.kvs.below hb (Nat.le_refl _),h.oth.trans (Oth.of_below hb)⟩
theorem MidK.cell {base:Nat} {S:Nat->Prop} {w0 w:World} {g n cap:Nat} {Z:List (Bk × Bv)} {Y:List Value} (h:MidK base S w0 w g n cap Z Y) (hY:Y.length=14 * n) (p:Nat) (hp:p < 14 * n):(∃ y,w.cell? ⟨g,p,none⟩=some y)/\w.frozen? ⟨g,p,none⟩=false/\w.cell? ⟨g,p,none⟩=Y[p]? :=
  ⟨⟨Y[p]'(by omega),by rw [h.row.cellAt p (by omega)];exact List.getElem?_eq_getElem (by omega)⟩,h.row.frozenAt p,h.row.cellAt p (by omega)⟩
theorem MidK.mark {base:Nat} {S:Nat->Prop} {w0 w w':World} {g n cap:Nat} {Z:List (Bk × Bv)} {Y:List Value} (h:MidK base S w0 w g n cap Z Y) (j:Nat) (hj:j < Z.length) (P:Nat->Prop) (hP:∀ x,P x->Z[j].2.has x/\S x) (hO:Oth P w w') (b':Bk) (hK:OwnK base w' b' Z[j].2) :
    MidK base S w0 w' g n cap (Z.set j (b',Z[j].2)) Y:=by
  refine ⟨row_oth h.row hO (fun k hk hp=>?_),⟨fun i hi=>?_,fun i hi=>?_,fun i hi=>?_,fun i i2 hi hi2 hne=>?_⟩,h.oth.trans (hO.mono (fun x hx=>(hP x hx).2))⟩
  · simp only [Value.ownBlock,Option.some.injEq] at hk
    subst hk
    exact h.kvs.far j hj (hP _ hp).1
  · rw [List.getElem_set]
    split
    · exact hK
    · have hi':i < Z.length:=by simpa using hi
      have o:=h.kvs.own i hi'
      have k:∀ x,Z[i].2.has x->¬ P x:=fun x hx hp=>h.kvs.apart i j hi' hj (by omega) x hx (hP x hp).1
      exact ⟨row_oth o.q hO (fun x e=>k x (.inl e)),row_oth o.p hO (fun x e=>k x (.inr (.inl e))),row_oth o.h hO (fun x e=>k x (.inr (.inr (.inl e)))),row_oth o.t hO (fun x e=>k x (.inr (.inr (.inr (.inl e))))),row_oth o.n hO (fun x e=>k x (.inr (.inr (.inr (.inr e)))))⟩
  · have e:((Z.set j (b',Z[j].2))[i]).2=(Z[i]'(by simpa using hi)).2:=by rw [List.getElem_set];split <;> simp_all
    rw [e];exact h.kvs.far i (by simpa using hi)
  · have e:((Z.set j (b',Z[j].2))[i]).2=(Z[i]'(by simpa using hi)).2:=by rw [List.getElem_set];split <;> simp_all
    rw [e];exact h.kvs.inner i (by simpa using hi)
  · have e:((Z.set j (b',Z[j].2))[i]).2=(Z[i]'(by simpa using hi)).2:=by rw [List.getElem_set];split <;> simp_all
    have e2:((Z.set j (b',Z[j].2))[i2]).2=(Z[i2]'(by simpa using hi2)).2:=by rw [List.getElem_set];split <;> simp_all
    rw [e,e2];exact h.kvs.apart i i2 (by simpa using hi) (by simpa using hi2) hne
theorem MidK.own {base:Nat} {S:Nat->Prop} {w0 w:World} {g n cap:Nat} {X:List (Bk × Bv)} {Y:List Value} {j:Nat} {b:Bk} {v:Bv} (h:MidK base S w0 w g n cap (X.set j (b,v)) Y) (hj:j < X.length):OwnK base w b v:=by
  have o:=h.kvs.own j (by simpa using hj)
  simpa using o
theorem MidK.mark2 {base:Nat} {S:Nat->Prop} {w0 w w':World} {g n cap:Nat} {X:List (Bk × Bv)} {Y:List Value} {j:Nat} {b:Bk} {v:Bv} (h:MidK base S w0 w g n cap (X.set j (b,v)) Y) (hj:j < X.length) (P:Nat->Prop) (hP:∀ x,P x->v.has x/\S x) (hO:Oth P w w') (b':Bk) (hK:OwnK base w' b' v):MidK base S w0 w' g n cap (X.set j (b',v)) Y:=by
  have h2:=h.mark j (by simpa using hj) P (by simpa using hP) hO b' (by simpa using hK)
  simpa [List.set_set] using h2
theorem set14 {α:Type} (X:List α) (o:Nat) (y0 y1 y2 y3 y4 y5 y6 y7 y8 y9 y10 y11 y12 y13:α) (h6:X[o+6]?=some y6) (h8:X[o+8]?=some y8) (h9:X[o+9]?=some y9) (h10:X[o+10]?=some y10) (h12:X[o+12]?=some y12) :
    ((((((((X.set o y0).set (o+1) y1).set (o+2) y2).set (o+3) y3).set (o+4) y4).set (o+5) y5).set (o+7) y7).set (o+11) y11).set (o+13) y13=setAll X o [y0,y1,y2,y3,y4,y5,y6,y7,y8,y9,y10,y11,y12,y13]:=by
  simp only [setAll]
  apply List.ext_getElem?
  intro i
  simp only [List.getElem?_set,Nat.add_assoc,List.length_set]
  by_cases e6:o+6=i
  · subst e6;simp [h6];have:=(List.getElem?_eq_some_iff.1 h6).1;omega
  by_cases e8:o+8=i
  · subst e8;simp [h8];have:=(List.getElem?_eq_some_iff.1 h8).1;omega
  by_cases e9:o+9=i
  · subst e9;simp [h9];have:=(List.getElem?_eq_some_iff.1 h9).1;omega
  by_cases e10:o+10=i
  · subst e10;simp [h10];have:=(List.getElem?_eq_some_iff.1 h10).1;omega
  by_cases e12:o+12=i
  · subst e12;simp [h12];have:=(List.getElem?_eq_some_iff.1 h12).1;omega
  simp [e6,e8,e9,e10,e12]
theorem mix_at {k:Nat} {Z:List (Bk × Bv)} {j:Nat} (hj:j < Z.length) (t:Nat) (ht:t < 14):((mixZ k Z j).map bkP).flatten[j * 14+t]?=(bkC Z[j].1 Z[j].2)[t]?:=by
  have hl:=mixZ_len k Z j (by omega)
  rw [flat_get 14 _ j t (by simpa [hl] using hj) (bkP_sz _) ht]
  simp [mixZ_now k Z j hj,bkP]
end Go.Proofs.YthehfkafcdociaaGreatDoor
namespace Go.Proofs.YthehfkafcdociaaGreatDoor
open Go.RowKit Go.Sort
set_option linter.unusedVariables false
theorem mixZ_snd (k:Nat) (Z:List (Bk × Bv)) (j:Nat):(mixZ k Z j).map Prod.snd=Z.map Prod.snd:=by
  unfold mixZ
  rw [List.map_append,List.map_take,show (fun x:Bk × Bv=>x.2)=Prod.snd from rfl,List.map_snd_zip (by simp [mkLk_len]),List.map_drop,List.take_append_drop]
theorem mixZ_two (k:Nat) (Z:List (Bk × Bv)) (j:Nat) (i:Nat) (h:i < (mixZ k Z j).length) (h2:i < Z.length):(mixZ k Z j)[i].2=Z[i].2:=by
  have e:((mixZ k Z j).map Prod.snd)[i]?=(Z.map Prod.snd)[i]?:=by rw [mixZ_snd]
  rw [List.getElem?_map,List.getElem?_map,List.getElem?_eq_getElem h,List.getElem?_eq_getElem h2] at e
  simpa using e
theorem markKx_any (v:Value) (l:List Bk) (k base top:Nat) (w:World) (ho0:OwnKx base top w v l) (hl:l.length<=10000000) (hl1:∀ b ∈ l,b.qw.length<=4000000/\b.tw.length<=4000000/\b.th.length<=4000000/\b.ts.length<=4000000/\b.nx.length<=4000000) (hk:k+totM l<=80000000) (hk0:0 < k) :
    Calls Tryz.prog 42 #[v,.int .i64 (k:Int)] w fun e w'=>e=.returned (.int .i64 ((k+totM l:Nat):Int))/\OwnKx base top w' v (mkLk k l)/\Oth (fun x=>base<=x/\x < top) w w':=by
  obtain ⟨g,cap,Z,hZ,rfl,hrow0,hkv0,hgt,htop⟩:=ho0
  obtain ⟨n,hn⟩:∃ n,l.length=n:=⟨_,rfl⟩
  have hZl:Z.length=n:=by rw [<- hn,<- hZ];simp
  have hSg:(fun x=>base<=x/\x < top) g:=⟨(World.ownsRow.lt hrow0 g rfl).1,hgt⟩
  have HSall:Hid (∀ j (h:j < Z.length) x,Z[j].2.has x->base<=x/\x < top):=hide (fun j h x hx=>⟨((hkv0.own j h).in9 x hx).1,htop j h x hx⟩)
  have HM0:Hid (MidK base (fun x=>base<=x/\x < top) w w g n cap (mixZ k Z 0) ((mixZ k Z 0).map bkP).flatten):=hide (by
    rw [mixZ_zero]
    rw [hn] at hrow0
    exact ⟨hrow0,hkv0,Oth.refl _ _⟩)
  have HZ:=hide hZ
  have Hl1:=hide hl1
  have Hkk:=hide hk
  have HSg:=hide hSg
  rw [hn] at hl ⊢
  have Hn:=hide hn
  clear hrow0 hkv0 htop hgt hZ hl1 hk hn hSg
  go_enter Tryz.func42,Tryz.ntmps42
  go_wp2
  go_loopw [1,5] (fun kv iv wr=>∃ j:Nat,j<=n/\iv=.int .i64 (j:Int)/\kv=.int .i64 ((k+totM (l.take j):Nat):Int)/\MidK base (fun x=>base<=x/\x < top) w wr g n cap (mixZ k Z j) ((mixZ k Z j).map bkP).flatten)
    (fun _ iv _=>n - (intOf iv).toNat)
  case atStart=>exact ⟨0,Nat.zero_le _,rfl,by simp [totM],HM0.out⟩
  case round =>
    obtain ⟨j,hj,rfl,rfl,hm⟩:=hrel
    clear HM0
    by_cases hlt:j < n
    · have hjZ:j < Z.length:=by omega
      have hjl:j < l.length:=by have:=Hn.out;omega
      have eZ:l[j]=Z[j].1:=by have:=HZ.out;subst this;simp
      have hmx:=mixZ_len k Z j (by omega)
      have hjm:j < (mixZ k Z j).length:=by omega
      have hnow:=mixZ_now k Z j hjZ hjm
      have hYl:((mixZ k Z j).map bkP).flatten.length=14 * n:=by rw [flat_len 14 _ (bkP_sz _),List.length_map,hmx,hZl];omega
      have Hat:Hid (∀ t,t < 14->((mixZ k Z j).map bkP).flatten[j * 14+t]?=(bkC Z[j].1 Z[j].2)[t]?):=hide (fun t ht=>mix_at hjZ t ht)
      have Hb:=hide (Hl1.out l[j] (List.getElem_mem hjl))
      have htot:=totM_le l (j+1)
      rw [totM_snoc l j hjl] at htot
      have htk:k+totM (l.take j)+mkN l[j]<=80000000:=by have:=Hkk.out;omega
      have HnxK:Hid (k+totM (l.take (j+1))=k+totM (l.take j)+mkN l[j]):=hide (by rw [totM_snoc l j hjl];omega)
      have HEnd:Hid (∀ Y,Y=setAll ((mixZ k Z j).map bkP).flatten (j * 14) (bkC (mkB (k+totM (l.take j)) Z[j].1) Z[j].2)->Y=((mixZ k Z (j+1)).map bkP).flatten):=hide (fun Y hY=>by
        rw [hY,setAll_flat 14 _ _ j (by simpa [hmx] using hjZ) (bkP_sz _) rfl,<- mixZ_next k Z j hjZ,List.map_set,HZ.out]
        rfl)
      have Hmix:Hid ((mixZ k Z j).set j (mkB (k+totM (l.take j)) Z[j].1,Z[j].2)=mixZ k Z (j+1)):=hide (by have:=mixZ_next k Z j hjZ;rw [HZ.out] at this;exact this)
      have HS1:Hid (∀ x,Z[j].2.has x->base<=x/\x < top):=hide (HSall.out j hjZ)
      have hin0:=hm.kvs.inner j hjm
      rw [hnow] at hin0
      have Hin:=hide hin0
      have ho0:=hm.kvs.own j hjm
      rw [hnow] at ho0
      have hK0:0 < k+totM (l.take j):=by omega
      rw [eZ] at Hb htk HnxK
      generalize k+totM (l.take j)=K at htk HnxK HEnd Hmix hK0 ⊢
      generalize hZX:mixZ k Z j=X at hm hmx hjm hnow hYl Hat HEnd Hmix
      generalize hYX:(X.map bkP).flatten=Y at hm hYl Hat HEnd
      generalize hq:Z[j]=zq at hnow Hat Hb htk HnxK HEnd Hmix HS1 Hin ho0 hin0
      obtain ⟨b,bv⟩:=zq
      clear hZX hYX hq htot eZ hin0 hjl
      simp only at *
      obtain ⟨aq,cq,aw,cw,ah,ch,at_,ct,an,cn,rfl⟩:=ho0.rd.shapes9
      obtain ⟨id,ep,rd,md,qr,qb,qw,tr,tw,th,ts,en,nx,rt⟩:=b
      simp only [mkN] at *
      have hli:(j:Int) < (n:Int):=by omega
      clear ho0
      have HM:=hide (show MidK base (fun x=>base<=x/\x < top) w wr g n cap (X.set j (⟨id,ep,rd,md,qr,qb,qw,tr,tw,th,ts,en,nx,rt⟩,(⟨.slice aq qw.length cq,.slice aw tw.length cw,.slice ah th.length ch,.slice at_ ts.length ct,.slice an nx.length cn⟩:Bv))) Y from by rw [<- hnow,List.set_getElem_self];exact hm)
      clear hm hnow
      obtain ⟨⟨y0,q0⟩,f0,-⟩:=HM.out.cell (by simp [hYl]) (j * 14) (by omega)
      obtain ⟨⟨y1,q1⟩,f1,-⟩:=HM.out.cell (by simp [hYl]) (j * 14+1) (by omega)
      obtain ⟨⟨y2,q2⟩,f2,-⟩:=HM.out.cell (by simp [hYl]) (j * 14+2) (by omega)
      have HT1:=hide (fun V=>markText_any (K+3) V (by omega) (by omega))
      rw [show ((K+3:Nat):Int)=(K:Int)+1+1+1 from by omega] at HT1
      have HEnd:=hide (HEnd.out)
      have HMn:=hide (((HM.out.set HSg.out (j * 14) (.int .i64 (K:Int))).set HSg.out (j * 14+1) (.int .i64 ((K:Int)+1))).set HSg.out (j * 14+2) (.int .i64 ((K:Int)+1+1)))
      clear HM
      have HM:=HMn
      clear HMn
      go_wp2_with fail
      refine (HT1.out _).mono ?_
      rintro e w1 ⟨rfl,hb1⟩
      have HMn:=hide (HM.out.below hb1)
      clear q0 q1 q2 f0 f1 f2 hb1 HM HT1
      have HM:=HMn
      clear HMn
      obtain ⟨⟨y3,q3⟩,f3,-⟩:=HM.out.cell (by simp [hYl]) (j * 14+3) (by omega)
      obtain ⟨⟨y4,q4⟩,f4,-⟩:=HM.out.cell (by simp [hYl]) (j * 14+4) (by omega)
      obtain ⟨⟨y5,q5⟩,f5,-⟩:=HM.out.cell (by simp [hYl]) (j * 14+5) (by omega)
      have q6:=(HM.out.cell (by simp [hYl]) (j * 14+6) (by omega)).2.2
      simp only [List.getElem?_set,List.length_set] at q6
      rw [if_neg (show ¬ j * 14+2=j * 14+6 from by omega),if_neg (show ¬ j * 14+1=j * 14+6 from by omega),if_neg (show ¬ j * 14=j * 14+6 from by omega),Hat.out 6 (by omega)] at q6
      simp only [bkC,List.getElem?_cons_zero,List.getElem?_cons_succ] at q6
      have HMn:=hide (((HM.out.set HSg.out (j * 14+3) (.string (mtx (K+3)))).set HSg.out (j * 14+4) (.int .i64 ((K:Int)+1+1+1+1))).set HSg.out (j * 14+5) (.int .i64 ((K:Int)+1+1+1+1+1)))
      clear HM
      have HM:=HMn
      clear HMn
      have HA:=hide (markStringS_any (Value.slice aq qw.length cq) qw (K+6) base _ (HM.out.own hjm).q (by have:=Hb.out;omega) (by omega) (by omega))
      rw [show ((K+6:Nat):Int)=(K:Int)+1+1+1+1+1+1 from by omega] at HA
      go_wp2_with fail
      refine HA.out.mono ?_
      rintro e w2 ⟨rfl,ho2,hg2⟩
      have HMn:=hide (HM.out.mark2 hjm (fun x=>(Value.slice aq qw.length cq).ownBlock=some x) (fun x hx=>⟨.inl hx,HS1.out x (.inl hx)⟩) (Oth.of_grown hg2 (fun g h=>h)) ⟨id,ep,rd,md,qr,qb,mkS (K+6) qw.length,tr,tw,th,ts,en,nx,rt⟩ ((HM.out.own hjm).putq Hin.out _ ho2 (Oth.of_grown hg2 (fun g h=>h))))
      clear HM HA
      have HM:=HMn
      clear HMn
      obtain ⟨K2,hK2⟩:∃ K2:Nat,K+6+qw.length=K2:=⟨_,rfl⟩
      have HK2:=hide hK2
      have hk2:K2+3+tw.length+th.length+5 * ts.length+2 * nx.length<=80000000:=by omega
      have hk20:0 < K2:=by omega
      rw [hK2]
      clear q3 q4 q5 q6 f3 f4 f5 ho2 hg2 hK2
      obtain ⟨⟨y7,q7⟩,f7,-⟩:=HM.out.cell (by simp [hYl]) (j * 14+7) (by omega)
      have q8:=(HM.out.cell (by simp [hYl]) (j * 14+8) (by omega)).2.2
      simp only [List.getElem?_set,List.length_set] at q8
      rw [if_neg (show ¬ j * 14+5=j * 14+8 from by omega),if_neg (show ¬ j * 14+4=j * 14+8 from by omega),if_neg (show ¬ j * 14+3=j * 14+8 from by omega),if_neg (show ¬ j * 14+2=j * 14+8 from by omega),if_neg (show ¬ j * 14+1=j * 14+8 from by omega),if_neg (show ¬ j * 14=j * 14+8 from by omega),Hat.out 8 (by omega)] at q8
      simp only [bkC,List.getElem?_cons_zero,List.getElem?_cons_succ] at q8
      have HMn:=hide (HM.out.set HSg.out (j * 14+7) (.int .i64 (K2:Int)))
      clear HM
      have HM:=HMn
      clear HMn
      have HA:=hide (markStringS_any (Value.slice aw tw.length cw) tw (K2+1) base _ (HM.out.own hjm).p (by have:=Hb.out;omega) (by omega) (by omega))
      rw [show ((K2+1:Nat):Int)=(K2:Int)+1 from by omega] at HA
      go_wp2_with fail
      refine HA.out.mono ?_
      rintro e w3 ⟨rfl,ho3,hg3⟩
      have HMn:=hide (HM.out.mark2 hjm (fun x=>(Value.slice aw tw.length cw).ownBlock=some x) (fun x hx=>⟨.inr (.inl hx),HS1.out x (.inr (.inl hx))⟩) (Oth.of_grown hg3 (fun g h=>h)) ⟨id,ep,rd,md,qr,qb,mkS (K+6) qw.length,tr,mkS (K2+1) tw.length,th,ts,en,nx,rt⟩ ((HM.out.own hjm).putw Hin.out _ ho3 (Oth.of_grown hg3 (fun g h=>h))))
      clear HM HA
      have HM:=HMn
      clear HMn
      obtain ⟨K3,hK3⟩:∃ K3:Nat,K2+1+tw.length=K3:=⟨_,rfl⟩
      have HK3:=hide hK3
      have hk3:K3+2+th.length+5 * ts.length+2 * nx.length<=80000000:=by omega
      have hk30:0 < K3:=by omega
      rw [hK3]
      clear q7 q8 f7 ho3 hg3 hK3
      have q9:=(HM.out.cell (by simp [hYl]) (j * 14+9) (by omega)).2.2
      simp only [List.getElem?_set,List.length_set] at q9
      rw [if_neg (show ¬ j * 14+7=j * 14+9 from by omega),if_neg (show ¬ j * 14+5=j * 14+9 from by omega),if_neg (show ¬ j * 14+4=j * 14+9 from by omega),if_neg (show ¬ j * 14+3=j * 14+9 from by omega),if_neg (show ¬ j * 14+2=j * 14+9 from by omega),if_neg (show ¬ j * 14+1=j * 14+9 from by omega),if_neg (show ¬ j * 14=j * 14+9 from by omega),Hat.out 9 (by omega)] at q9
      simp only [bkC,List.getElem?_cons_zero,List.getElem?_cons_succ] at q9
      have HA:=hide (markIntS_any (Value.slice ah th.length ch) th K3 base _ (HM.out.own hjm).h (by have:=Hb.out;omega) (by omega) (by omega))
      go_wp2_with fail
      refine HA.out.mono ?_
      rintro e w4 ⟨rfl,ho4,hg4⟩
      have HMn:=hide (HM.out.mark2 hjm (fun x=>(Value.slice ah th.length ch).ownBlock=some x) (fun x hx=>⟨.inr (.inr (.inl hx)),HS1.out x (.inr (.inr (.inl hx)))⟩) (Oth.of_grown hg4 (fun g h=>h)) ⟨id,ep,rd,md,qr,qb,mkS (K+6) qw.length,tr,mkS (K2+1) tw.length,mkI K3 th.length,ts,en,nx,rt⟩ ((HM.out.own hjm).puth _ ho4 (Oth.of_grown hg4 (fun g h=>h))))
      clear HM HA
      have HM:=HMn
      clear HMn
      obtain ⟨K4,hK4⟩:∃ K4:Nat,K3+th.length=K4:=⟨_,rfl⟩
      have HK4:=hide hK4
      have hk4:K4+2+5 * ts.length+2 * nx.length<=80000000:=by omega
      have hk40:0 < K4:=by omega
      rw [hK4]
      clear q9 ho4 hg4 hK4
      have q10:=(HM.out.cell (by simp [hYl]) (j * 14+10) (by omega)).2.2
      simp only [List.getElem?_set,List.length_set] at q10
      rw [if_neg (show ¬ j * 14+7=j * 14+10 from by omega),if_neg (show ¬ j * 14+5=j * 14+10 from by omega),if_neg (show ¬ j * 14+4=j * 14+10 from by omega),if_neg (show ¬ j * 14+3=j * 14+10 from by omega),if_neg (show ¬ j * 14+2=j * 14+10 from by omega),if_neg (show ¬ j * 14+1=j * 14+10 from by omega),if_neg (show ¬ j * 14=j * 14+10 from by omega),Hat.out 10 (by omega)] at q10
      simp only [bkC,List.getElem?_cons_zero,List.getElem?_cons_succ] at q10
      have HA:=hide (markTxC_any (Value.slice at_ ts.length ct) ts K4 base _ (HM.out.own hjm).t (by have:=Hb.out;omega) (by omega) (by omega))
      go_wp2_with fail
      refine HA.out.mono ?_
      rintro e w5 ⟨rfl,ho5,hO5⟩
      have HMn:=hide (HM.out.mark2 hjm (fun x=>(Value.slice at_ ts.length ct).ownBlock=some x) (fun x hx=>⟨.inr (.inr (.inr (.inl hx))),HS1.out x (.inr (.inr (.inr (.inl hx))))⟩) (hO5) ⟨id,ep,rd,md,qr,qb,mkS (K+6) qw.length,tr,mkS (K2+1) tw.length,mkI K3 th.length,mkT K4 ts.length,en,nx,rt⟩ ((HM.out.own hjm).putt _ ho5 (hO5)))
      clear HM HA
      have HM:=HMn
      clear HMn
      obtain ⟨K5,hK5⟩:∃ K5:Nat,K4+5 * ts.length=K5:=⟨_,rfl⟩
      have HK5:=hide hK5
      have hk5:K5+2+2 * nx.length<=80000000:=by omega
      have hk50:0 < K5:=by omega
      rw [hK5]
      clear q10 ho5 hO5 hK5
      obtain ⟨⟨y11,q11⟩,f11,-⟩:=HM.out.cell (by simp [hYl]) (j * 14+11) (by omega)
      have q12:=(HM.out.cell (by simp [hYl]) (j * 14+12) (by omega)).2.2
      simp only [List.getElem?_set,List.length_set] at q12
      rw [if_neg (show ¬ j * 14+7=j * 14+12 from by omega),if_neg (show ¬ j * 14+5=j * 14+12 from by omega),if_neg (show ¬ j * 14+4=j * 14+12 from by omega),if_neg (show ¬ j * 14+3=j * 14+12 from by omega),if_neg (show ¬ j * 14+2=j * 14+12 from by omega),if_neg (show ¬ j * 14+1=j * 14+12 from by omega),if_neg (show ¬ j * 14=j * 14+12 from by omega),Hat.out 12 (by omega)] at q12
      simp only [bkC,List.getElem?_cons_zero,List.getElem?_cons_succ] at q12
      have HMn:=hide (HM.out.set HSg.out (j * 14+11) (.bool (decide ((K5:Int) % 3=0))))
      clear HM
      have HM:=HMn
      clear HMn
      have HA:=hide (markValS_any (Value.slice an nx.length cn) nx (K5+1) base _ (HM.out.own hjm).n (by have:=Hb.out;omega) (by omega) (by omega))
      rw [show ((K5+1:Nat):Int)=(K5:Int)+1 from by omega] at HA
      go_wp2_with fail
      refine HA.out.mono ?_
      rintro e w6 ⟨rfl,ho6,hg6⟩
      have HMn:=hide (HM.out.mark2 hjm (fun x=>(Value.slice an nx.length cn).ownBlock=some x) (fun x hx=>⟨.inr (.inr (.inr (.inr hx))),HS1.out x (.inr (.inr (.inr (.inr hx))))⟩) (Oth.of_grown hg6 (fun g h=>h)) ⟨id,ep,rd,md,qr,qb,mkS (K+6) qw.length,tr,mkS (K2+1) tw.length,mkI K3 th.length,mkT K4 ts.length,en,mkV (K5+1) nx.length,rt⟩ ((HM.out.own hjm).putn _ ho6 (Oth.of_grown hg6 (fun g h=>h))))
      clear HM HA
      have HM:=HMn
      clear HMn
      obtain ⟨K6,hK6⟩:∃ K6:Nat,K5+1+2 * nx.length=K6:=⟨_,rfl⟩
      have HK6:=hide hK6
      have hk6:K6+1<=80000000:=by omega
      have hk60:0 < K6:=by omega
      rw [hK6]
      clear q11 q12 f11 ho6 hg6 hK6
      have HT1:=hide (fun V=>markText_any K6 V (by omega) (by omega))
      go_wp2_with fail
      refine (HT1.out _).mono ?_
      rintro e w7 ⟨rfl,hb7⟩
      have HMn:=hide (HM.out.below hb7)
      clear hb7 HM HT1
      have HM:=HMn
      clear HMn
      obtain ⟨⟨y13,q13⟩,f13,-⟩:=HM.out.cell (by simp [hYl]) (j * 14+13) (by omega)
      have HMn:=hide (HM.out.set HSg.out (j * 14+13) (.string (mtx K6)))
      clear HM
      have HM:=HMn
      clear HMn
      have HF:Hid (MidK base (fun x=>base<=x/\x < top) w _ g n cap (mixZ k Z (j+1)) ((mixZ k Z (j+1)).map bkP).flatten):=hide (by
        have h6:=Hat.out 6 (by omega)
        have h8:=Hat.out 8 (by omega)
        have h9:=Hat.out 9 (by omega)
        have h10:=Hat.out 10 (by omega)
        have h12:=Hat.out 12 (by omega)
        simp only [bkC,List.getElem?_cons_zero,List.getElem?_cons_succ] at h6 h8 h9 h10 h12
        have e1:mkB K ⟨id,ep,rd,md,qr,qb,qw,tr,tw,th,ts,en,nx,rt⟩=⟨(K:Int),(K:Int)+1,(K:Int)+1+1,mtx (K+3),(K:Int)+1+1+1+1,(K:Int)+1+1+1+1+1,mkS (K+6) qw.length,(K2:Int),mkS (K2+1) tw.length,mkI K3 th.length,mkT K4 ts.length,decide ((K5:Int) % 3=0),mkV (K5+1) nx.length,mtx K6⟩:=by
          unfold mkB
          simp only [HK2.out,HK3.out,HK4.out,HK5.out,HK6.out]
          rw [Bk.mk.injEq]
          exact ⟨rfl,by omega,by omega,rfl,by omega,by omega,rfl,rfl,rfl,rfl,rfl,rfl,rfl,rfl⟩
        have e2:=HEnd.out _ rfl
        have e3:=Hmix.out
        rw [e1] at e2 e3
        have o:=HM.out.own hjm
        have hm9:=HM.out.mark2 hjm (fun _=>False) (fun _ h=>h.elim) (Oth.refl _ _) ⟨(K:Int),(K:Int)+1,(K:Int)+1+1,mtx (K+3),(K:Int)+1+1+1+1,(K:Int)+1+1+1+1+1,mkS (K+6) qw.length,(K2:Int),mkS (K2+1) tw.length,mkI K3 th.length,mkT K4 ts.length,decide ((K5:Int) % 3=0),mkV (K5+1) nx.length,mtx K6⟩ ⟨o.q,o.p,o.h,o.t,o.n⟩
        rw [set14 Y (j * 14) _ _ _ _ _ _ _ _ _ _ _ _ _ _ h6 h8 h9 h10 h12] at hm9
        rw [e3] at hm9
        rw [<- e2]
        exact hm9)
      go_wp2
      go_roundw
      case rel=>exact ⟨j+1,by omega,by go_num,by rw [HnxK.out];have:=HK2.out;have:=HK3.out;have:=HK4.out;have:=HK5.out;have:=HK6.out;congr 1;omega,HF.out⟩
      case measure=>simp [intOf];omega
    · have ej:j=n:=by omega
      have em:mixZ k Z j=mixZ k Z Z.length:=by rw [hZl,ej]
      have HF:Hid (OwnKx base top wr (.slice (some ⟨g,0,none⟩) n cap) (mkLk k l)):=hide (by
        have e1:=mixZ_all k Z
        rw [<- em,HZ.out] at e1
        have e2:(mkLk k l).length=n:=by rw [mkLk_len,Hn.out]
        refine ⟨g,cap,mixZ k Z j,e1,by rw [e2],by rw [e2];exact hm.row,hm.kvs,HSg.out.2,fun i hi x hx=>?_⟩
        have hi':i < Z.length:=by have:=mixZ_len k Z j (by omega);omega
        rw [mixZ_two k Z j i hi hi'] at hx
        exact (HSall.out i hi' x hx).2)
      have HOo:=hide hm.oth
      have HT:Hid (((k+totM (l.take j):Nat):Int)=((k+totM l:Nat):Int)):=hide (by rw [List.take_of_length_le (by have:=Hn.out;omega)])
      clear hm em ej
      generalize k+totM (l.take j)=K at HT
      go_wp2
      go_ret
      exact ⟨ret_int HT.out,HF.out,HOo.out⟩
end Go.Proofs.YthehfkafcdociaaGreatDoor
namespace Go.Proofs.YthehfkafcdociaaGreatDoor
open Go.RowKit Go.Sort
set_option linter.unusedVariables false
theorem row_step3 {base g n cap:Nat} {w:World} {T:TypeId} {Y:List Value} (h:w.ownsRow base T 3 (.slice (some ⟨g,0,none⟩) n cap) n Y) (hY:Y.length=3 * n) (i:Nat) (hi:i < 3 * n) :
    (∃ y,w.cell? ⟨g,i,none⟩=some y)/\w.frozen? ⟨g,i,none⟩=false/\∀ u,(w.setCell ⟨g,i,none⟩ u).ownsRow base T 3 (.slice (some ⟨g,0,none⟩) n cap) n (Y.set i u) :=
  ⟨⟨Y[i]'(by omega),by rw [h.cellAt i (by omega)];exact List.getElem?_eq_getElem (by omega)⟩,h.frozenAt i,fun u=>(h.stored i u).1⟩
def mkR (k n:Nat):List Tr:=(List.range n).map (fun j=>(((k+3 * j:Nat):Int),((k+3 * j+1:Nat):Int),mtx (k+3 * j+2)))
theorem mkR_len (k n:Nat):(mkR k n).length=n:=by simp [mkR]
theorem mkR_at (k n j:Nat) (h:j < (mkR k n).length):(mkR k n)[j]=(((k+3 * j:Nat):Int),((k+3 * j+1:Nat):Int),mtx (k+3 * j+2)):=by simp [mkR]
theorem mixR {M l:List Tr} {j:Nat} (hl:M.length=l.length) (hj:j < l.length):((M.take j ++ l.drop j).map trC).set j (trC (M[j]'(by omega)))=(M.take (j+1) ++ l.drop (j+1)).map trC:=by
  rw [List.take_succ_eq_append_getElem (by omega),<- List.map_set]
  congr 1
  rw [List.set_append_right _ _ (by simp;omega),List.length_take,show min j M.length=j from by omega,Nat.sub_self,List.drop_eq_getElem_cons hj,List.set_cons_zero,List.append_assoc]
  rfl
theorem mixR_sz (M l:List Tr) (j:Nat):∀ x ∈ (M.take j ++ l.drop j).map trC,x.length=3:=fun x hx=>by obtain ⟨p,_,rfl⟩:=List.mem_map.1 hx;rfl
theorem markVoteS_any (v:Value) (l:List Tr) (k base:Nat) (w:World) (ho:OwnR 135 base w v l) (hl:l.length<=10000000) (hk:k+3 * l.length<=90000000) (hk0:0 < k) :
    Calls Tryz.prog 71 #[v,.int .i64 (k:Int)] w fun e w'=>e=.returned (.int .i64 ((k+3 * l.length:Nat):Int))/\OwnR 135 base w' v (mkR k l.length)/\Oth (fun g=>v.ownBlock=some g) w w':=by
  have hML:=mkR_len k l.length
  have hMA:=mkR_at k l.length
  generalize hMd:mkR k l.length=M at hML hMA ⊢
  clear hMd
  by_cases hne:l=[]
  · subst hne
    obtain ⟨a,c,rfl⟩:=ho.rd.shape
    have e2:M=[]:=List.length_eq_zero_iff.1 hML
    subst e2
    have Ho:=hide ho
    clear ho
    go_enter Tryz.func71,Tryz.ntmps71
    go_wp2
    refine wp_loop_rounds 1 ?_
    rw [rounds_succ]
    go_wp2
    go_ret
    exact ⟨by simp <;> rfl,Ho.out,Oth.refl _ _⟩
  · obtain ⟨g,cap,rfl⟩:∃ g cap,v=.slice (some ⟨g,0,none⟩) l.length cap:=by
      rcases ho.2 with ⟨rfl,hn⟩ | ⟨g,cap,cur,rfl,-⟩
      · exact absurd (List.length_eq_zero_iff.1 hn) hne
      · exact ⟨g,cap,rfl⟩
    have Hrow:Hid (w.ownsRow base 135 3 (.slice (some ⟨g,0,none⟩) l.length cap) l.length (l.map trC).flatten):=hide ho
    have HML:=hide hML
    have HMA:=hide hMA
    clear ho hML hMA
    have hS:Hid ((fun x=>(Value.slice (some ⟨g,0,none⟩) l.length cap).ownBlock=some x) g):=hide rfl
    go_enter Tryz.func71,Tryz.ntmps71
    go_wp2
    go_loopw [1,5] (fun kv iv wr=>∃ j:Nat,j<=l.length/\iv=.int .i64 (j:Int)/\kv=.int .i64 ((k+3 * j:Nat):Int)/\wr.ownsRow base 135 3 (.slice (some ⟨g,0,none⟩) l.length cap) l.length ((M.take j ++ l.drop j).map trC).flatten/\Oth (fun x=>(Value.slice (some ⟨g,0,none⟩) l.length cap).ownBlock=some x) w wr)
      (fun _ iv _=>l.length - (intOf iv).toNat)
    case atStart=>exact ⟨0,Nat.zero_le _,rfl,rfl,by simpa using Hrow.out,Oth.refl _ _⟩
    case round =>
      obtain ⟨j,hj,rfl,rfl,hown,hbt⟩:=hrel
      clear Hrow
      have HLl:Hid ((M.take j ++ l.drop j).length=l.length):=hide (by have:=HML.out;simp;omega)
      have hYl:((M.take j ++ l.drop j).map trC).flatten.length=3 * l.length:=by
        rw [flat_len 3 _ (mixR_sz M l j),List.length_map,HLl.out];omega
      by_cases hlt:j < l.length
      · have hli:(j:Int) < (l.length:Int):=by omega
        have Hnx:Hid (k+3 * (j+1)=k+3 * j+3):=hide (by omega)
        have hK1:k+3 * j+3<=90000000:=by omega
        have hK0:0 < k+3 * j:=by omega
        have HEnd:Hid (((((M.take j ++ l.drop j).map trC).flatten.set (j * 3) (.int .i64 ((k+3 * j:Nat):Int))).set (j * 3+1) (.int .i64 ((k+3 * j+1:Nat):Int))).set (j * 3+2) (.string (mtx (k+3 * j+2)))=((M.take (j+1) ++ l.drop (j+1)).map trC).flatten):=hide (by
          rw [flat_put3 _ j _ _ _ (by rw [List.length_map,HLl.out];exact hlt) (mixR_sz M l j),<- mixR HML.out hlt,HMA.out j (by have:=HML.out;omega)]
          rfl)
        generalize ((M.take j ++ l.drop j).map trC).flatten=Y at hown hYl HEnd
        generalize k+3 * j=K at Hnx hK1 hK0 HEnd ⊢
        have Hm1:=hide (fun w=>markText_any (K+1+1) w (by omega) (by omega))
        obtain ⟨⟨y0,q0⟩,f0,s0⟩:=row_step3 hown hYl (j * 3) (by omega)
        obtain ⟨⟨y1,q1⟩,f1,-⟩:=row_step3 hown hYl (j * 3+1) (by omega)
        have S0:=hide (fun u0 u1=>((row_step3 (s0 u0) (by simp [hYl]) (j * 3+1) (by omega)).2.2) u1)
        have Hbt:=hide hbt
        clear hown hbt s0
        go_wp2_with fail
        refine (Hm1.out _).mono ?_
        rintro e w1 ⟨rfl,hb1⟩
        have r1:=row_below (S0.out (.int .i64 (K:Int)) (.int .i64 ((K+1:Nat):Int))) hb1 (Nat.le_refl _)
        have Hbt1:=hide (((Hbt.out.set hS.out (j * 3) (.int .i64 (K:Int))).set hS.out (j * 3+1) (.int .i64 ((K+1:Nat):Int))).trans (Oth.of_below hb1))
        clear hb1 q0 f0 q1 f1
        obtain ⟨⟨y2,q2⟩,f2,s2⟩:=row_step3 r1 (by simp [hYl]) (j * 3+2) (by omega)
        have S3:=hide (s2 (.string (mtx (K+1+1))))
        rw [show K+1+1=K+2 from rfl] at S3 ⊢
        rw [HEnd.out] at S3
        clear r1 s2 HEnd S0
        go_wp2
        have e3:(K:Int)+1+1+1=((K+3:Nat):Int):=by omega
        go_roundw
        case rel =>
          refine ⟨j+1,by omega,by go_num,by rw [Hnx.out];go_num,?_,Hbt1.out.set hS.out _ _⟩
          exact S3.out
        case measure=>simp [intOf];omega
      · have ej:j=l.length:=by omega
        have e9:M.take j ++ l.drop j=M:=by rw [List.take_of_length_le (by have:=HML.out;omega),List.drop_of_length_le (by omega),List.append_nil]
        rw [e9] at hown
        subst ej
        have Hbt:=hide hbt
        have Ho':Hid (OwnR 135 base wr (.slice (some ⟨g,0,none⟩) l.length cap) M):=hide (by unfold OwnR;rw [HML.out];exact hown)
        clear hown hbt e9 hYl HLl
        go_wp2
        go_ret
        exact ⟨rfl,Ho'.out,Hbt.out⟩
theorem markGoneS_any (v:Value) (l:List Tr) (k base:Nat) (w:World) (ho:OwnR 136 base w v l) (hl:l.length<=10000000) (hk:k+3 * l.length<=90000000) (hk0:0 < k) :
    Calls Tryz.prog 72 #[v,.int .i64 (k:Int)] w fun e w'=>e=.returned (.int .i64 ((k+3 * l.length:Nat):Int))/\OwnR 136 base w' v (mkR k l.length)/\Oth (fun g=>v.ownBlock=some g) w w':=by
  have hML:=mkR_len k l.length
  have hMA:=mkR_at k l.length
  generalize hMd:mkR k l.length=M at hML hMA ⊢
  clear hMd
  by_cases hne:l=[]
  · subst hne
    obtain ⟨a,c,rfl⟩:=ho.rd.shape
    have e2:M=[]:=List.length_eq_zero_iff.1 hML
    subst e2
    have Ho:=hide ho
    clear ho
    go_enter Tryz.func72,Tryz.ntmps72
    go_wp2
    refine wp_loop_rounds 1 ?_
    rw [rounds_succ]
    go_wp2
    go_ret
    exact ⟨by simp <;> rfl,Ho.out,Oth.refl _ _⟩
  · obtain ⟨g,cap,rfl⟩:∃ g cap,v=.slice (some ⟨g,0,none⟩) l.length cap:=by
      rcases ho.2 with ⟨rfl,hn⟩ | ⟨g,cap,cur,rfl,-⟩
      · exact absurd (List.length_eq_zero_iff.1 hn) hne
      · exact ⟨g,cap,rfl⟩
    have Hrow:Hid (w.ownsRow base 136 3 (.slice (some ⟨g,0,none⟩) l.length cap) l.length (l.map trC).flatten):=hide ho
    have HML:=hide hML
    have HMA:=hide hMA
    clear ho hML hMA
    have hS:Hid ((fun x=>(Value.slice (some ⟨g,0,none⟩) l.length cap).ownBlock=some x) g):=hide rfl
    go_enter Tryz.func72,Tryz.ntmps72
    go_wp2
    go_loopw [1,5] (fun kv iv wr=>∃ j:Nat,j<=l.length/\iv=.int .i64 (j:Int)/\kv=.int .i64 ((k+3 * j:Nat):Int)/\wr.ownsRow base 136 3 (.slice (some ⟨g,0,none⟩) l.length cap) l.length ((M.take j ++ l.drop j).map trC).flatten/\Oth (fun x=>(Value.slice (some ⟨g,0,none⟩) l.length cap).ownBlock=some x) w wr)
      (fun _ iv _=>l.length - (intOf iv).toNat)
    case atStart=>exact ⟨0,Nat.zero_le _,rfl,rfl,by simpa using Hrow.out,Oth.refl _ _⟩
    case round =>
      obtain ⟨j,hj,rfl,rfl,hown,hbt⟩:=hrel
      clear Hrow
      have HLl:Hid ((M.take j ++ l.drop j).length=l.length):=hide (by have:=HML.out;simp;omega)
      have hYl:((M.take j ++ l.drop j).map trC).flatten.length=3 * l.length:=by
        rw [flat_len 3 _ (mixR_sz M l j),List.length_map,HLl.out];omega
      by_cases hlt:j < l.length
      · have hli:(j:Int) < (l.length:Int):=by omega
        have Hnx:Hid (k+3 * (j+1)=k+3 * j+3):=hide (by omega)
        have hK1:k+3 * j+3<=90000000:=by omega
        have hK0:0 < k+3 * j:=by omega
        have HEnd:Hid (((((M.take j ++ l.drop j).map trC).flatten.set (j * 3) (.int .i64 ((k+3 * j:Nat):Int))).set (j * 3+1) (.int .i64 ((k+3 * j+1:Nat):Int))).set (j * 3+2) (.string (mtx (k+3 * j+2)))=((M.take (j+1) ++ l.drop (j+1)).map trC).flatten):=hide (by
          rw [flat_put3 _ j _ _ _ (by rw [List.length_map,HLl.out];exact hlt) (mixR_sz M l j),<- mixR HML.out hlt,HMA.out j (by have:=HML.out;omega)]
          rfl)
        generalize ((M.take j ++ l.drop j).map trC).flatten=Y at hown hYl HEnd
        generalize k+3 * j=K at Hnx hK1 hK0 HEnd ⊢
        have Hm1:=hide (fun w=>markText_any (K+1+1) w (by omega) (by omega))
        obtain ⟨⟨y0,q0⟩,f0,s0⟩:=row_step3 hown hYl (j * 3) (by omega)
        obtain ⟨⟨y1,q1⟩,f1,-⟩:=row_step3 hown hYl (j * 3+1) (by omega)
        have S0:=hide (fun u0 u1=>((row_step3 (s0 u0) (by simp [hYl]) (j * 3+1) (by omega)).2.2) u1)
        have Hbt:=hide hbt
        clear hown hbt s0
        go_wp2_with fail
        refine (Hm1.out _).mono ?_
        rintro e w1 ⟨rfl,hb1⟩
        have r1:=row_below (S0.out (.int .i64 (K:Int)) (.int .i64 ((K+1:Nat):Int))) hb1 (Nat.le_refl _)
        have Hbt1:=hide (((Hbt.out.set hS.out (j * 3) (.int .i64 (K:Int))).set hS.out (j * 3+1) (.int .i64 ((K+1:Nat):Int))).trans (Oth.of_below hb1))
        clear hb1 q0 f0 q1 f1
        obtain ⟨⟨y2,q2⟩,f2,s2⟩:=row_step3 r1 (by simp [hYl]) (j * 3+2) (by omega)
        have S3:=hide (s2 (.string (mtx (K+1+1))))
        rw [show K+1+1=K+2 from rfl] at S3 ⊢
        rw [HEnd.out] at S3
        clear r1 s2 HEnd S0
        go_wp2
        have e3:(K:Int)+1+1+1=((K+3:Nat):Int):=by omega
        go_roundw
        case rel =>
          refine ⟨j+1,by omega,by go_num,by rw [Hnx.out];go_num,?_,Hbt1.out.set hS.out _ _⟩
          exact S3.out
        case measure=>simp [intOf];omega
      · have ej:j=l.length:=by omega
        have e9:M.take j ++ l.drop j=M:=by rw [List.take_of_length_le (by have:=HML.out;omega),List.drop_of_length_le (by omega),List.append_nil]
        rw [e9] at hown
        subst ej
        have Hbt:=hide hbt
        have Ho':Hid (OwnR 136 base wr (.slice (some ⟨g,0,none⟩) l.length cap) M):=hide (by unfold OwnR;rw [HML.out];exact hown)
        clear hown hbt e9 hYl HLl
        go_wp2
        go_ret
        exact ⟨rfl,Ho'.out,Hbt.out⟩
end Go.Proofs.YthehfkafcdociaaGreatDoor
