/- The model's list of what leaves, with one more. -/
import Derived.Test.YtohachldbpejpaaGreatDoorZmBkPuts
set_option maxRecDepth 20000
set_option maxHeartbeats 8000000
namespace Go.Proofs.YtohachldbpejpaaGreatDoor
open Go.RowKit
set_option linter.unusedVariables false
def mkB (K:Nat) (b:Bk):Bk :=
  ⟨((K:Nat):Int),((K+1:Nat):Int),((K+2:Nat):Int),mtx (K+3),((K+4:Nat):Int),((K+5:Nat):Int),mkS (K+6) b.qw.length,((K+6+b.qw.length:Nat):Int),mkS (K+6+b.qw.length+1) b.tw.length,mkI (K+6+b.qw.length+1+b.tw.length) b.th.length,
    mkT (K+6+b.qw.length+1+b.tw.length+b.th.length) b.ts.length,decide (((K+6+b.qw.length+1+b.tw.length+b.th.length+5 * b.ts.length:Nat):Int) % 3=0),mkV (K+6+b.qw.length+1+b.tw.length+b.th.length+5 * b.ts.length+1) b.nx.length,mtx (K+6+b.qw.length+1+b.tw.length+b.th.length+5 * b.ts.length+1+2 * b.nx.length)⟩
def mkN (b:Bk):Nat:=9+b.qw.length+b.tw.length+b.th.length+5 * b.ts.length+2 * b.nx.length
def totM (l:List Bk):Nat:=(l.map mkN).sum
def mkLk:Nat->List Bk->List Bk
  | _,[]=>[]
  | k,b :: l=>mkB k b :: mkLk (k+mkN b) l
theorem mkLk_len:∀ (l:List Bk) (k:Nat),(mkLk k l).length=l.length
  | [],k=>rfl
  | b :: l,k=>by rw [mkLk,List.length_cons,mkLk_len l,List.length_cons]
theorem mkLk_at:∀ (l:List Bk) (k j:Nat) (h:j < (mkLk k l).length) (h2:j < l.length),(mkLk k l)[j]=mkB (k+totM (l.take j)) l[j]
  | [],k,j,h,h2=>by simp at h2
  | b :: l,k,0,h,h2=>by simp [mkLk,totM]
  | b :: l,k,j+1,h,h2=>by
    simp only [mkLk,List.getElem_cons_succ,List.take_succ_cons]
    rw [mkLk_at l (k+mkN b) j (by simpa [mkLk] using h) (by simpa using h2)]
    simp [totM,Nat.add_assoc]
theorem totM_snoc (l:List Bk) (k:Nat) (h:k < l.length):totM (l.take (k+1))=totM (l.take k)+mkN l[k]:=by
  unfold totM
  rw [List.take_succ_eq_append_getElem h,List.map_append,List.sum_append]
  simp only [List.map_cons,List.map_nil,List.sum_cons,List.sum_nil,Nat.add_zero]
theorem totM_le:∀ (l:List Bk) (j:Nat),totM (l.take j)<=totM l
  | [],j=>by simp [totM]
  | b :: l,0=>by simp [totM]
  | b :: l,j+1=>by
    have:=totM_le l j
    simp only [totM,List.take_succ_cons,List.map_cons,List.sum_cons] at this ⊢
    omega
def mixZ (k:Nat) (Z:List (Bk × Bv)) (j:Nat):List (Bk × Bv):=(((mkLk k (Z.map (·.1))).zip (Z.map (·.2))).take j) ++ Z.drop j
theorem mixZ_len (k:Nat) (Z:List (Bk × Bv)) (j:Nat) (hj:j<=Z.length):(mixZ k Z j).length=Z.length:=by
  simp [mixZ,mkLk_len];omega
theorem mixZ_now (k:Nat) (Z:List (Bk × Bv)) (j:Nat) (hj:j < Z.length) (h2:j < (mixZ k Z j).length):(mixZ k Z j)[j]=Z[j]:=by
  have e:(mixZ k Z j)[j]?=some Z[j]:=by
    unfold mixZ
    rw [List.getElem?_append_right (by simp [mkLk_len];omega),List.getElem?_drop,List.length_take,List.length_zip,mkLk_len,List.length_map,List.length_map,show j+(j - min j (min Z.length Z.length))=j from by omega]
    exact List.getElem?_eq_getElem hj
  rw [List.getElem?_eq_getElem h2] at e
  exact Option.some.inj e
theorem mixZ_next (k:Nat) (Z:List (Bk × Bv)) (j:Nat) (hj:j < Z.length):(mixZ k Z j).set j (mkB (k+totM ((Z.map (·.1)).take j)) Z[j].1,Z[j].2)=mixZ k Z (j+1):=by
  have hl:((mkLk k (Z.map (·.1))).zip (Z.map (·.2))).length=Z.length:=by simp [mkLk_len]
  unfold mixZ
  rw [List.take_succ_eq_append_getElem (by omega),List.set_append_right _ _ (by simp [mkLk_len];omega),List.drop_eq_getElem_cons hj,show j - (((mkLk k (Z.map (·.1))).zip (Z.map (·.2))).take j).length=0 from by simp [mkLk_len];omega,List.set_cons_zero,List.append_assoc]
  congr 1
  show _=[_] ++ _
  simp only [List.singleton_append,List.cons.injEq,and_true]
  rw [List.getElem_zip,mkLk_at _ _ _ _ (by simpa using hj)]
  simp
theorem mixZ_all (k:Nat) (Z:List (Bk × Bv)):(mixZ k Z Z.length).map (·.1)=mkLk k (Z.map (·.1)):=by
  unfold mixZ
  rw [List.take_of_length_le (by simp [mkLk_len]),List.drop_length,List.append_nil,List.map_fst_zip (by simp [mkLk_len])]
theorem mixZ_zero (k:Nat) (Z:List (Bk × Bv)):mixZ k Z 0=Z:=by simp [mixZ]
structure MidK (base:Nat) (S:Nat->Prop) (w0 w:World) (g n cap:Nat) (Z:List (Bk × Bv)) (Y:List Value):Prop where
  row:w.ownsRow base 50 14 (.slice (some ⟨g,0,none⟩) n cap) n Y
  kvs:Kvs base w g Z
  oth:Oth S w0 w
theorem MidK.set {base:Nat} {S:Nat->Prop} {w0 w:World} {g n cap:Nat} {Z:List (Bk × Bv)} {Y:List Value} (h:MidK base S w0 w g n cap Z Y) (hS:S g) (p:Nat) (u:Value):MidK base S w0 (w.setCell ⟨g,p,none⟩ u) g n cap Z (Y.set p u) :=
  ⟨(h.row.stored p u).1,h.kvs.grown (grown_set w g p u),h.oth.set hS p u⟩
theorem MidK.below {base:Nat} {S:Nat->Prop} {w0 w w':World} {g n cap:Nat} {Z:List (Bk × Bv)} {Y:List Value} (h:MidK base S w0 w g n cap Z Y) (hb:Below w.heap.size w w'):MidK base S w0 w' g n cap Z Y :=
  ⟨row_below h.row hb (Nat.le_refl _),h.kvs.below hb (Nat.le_refl _),h.oth.trans (Oth.of_below hb)⟩
theorem MidK.cell {base:Nat} {S:Nat->Prop} {w0 w:World} {g n cap:Nat} {Z:List (Bk × Bv)} {Y:List Value} (h:MidK base S w0 w g n cap Z Y) (hY:Y.length=14 * n) (p:Nat) (hp:p < 14 * n):(∃ y,w.cell? ⟨g,p,none⟩=some y)/\w.frozen? ⟨g,p,none⟩=false/\w.cell? ⟨g,p,none⟩=Y[p]? :=
  ⟨⟨Y[p]'(by omega),by rw [h.row.cellAt p (by omega)];exact List.getElem?_eq_getElem (by omega)⟩,h.row.frozenAt p,h.row.cellAt p (by omega)⟩
theorem MidK.mark {base:Nat} {S:Nat->Prop} {w0 w w':World} {g n cap:Nat} {Z:List (Bk × Bv)} {Y:List Value} (h:MidK base S w0 w g n cap Z Y) (j:Nat) (hj:j < Z.length) (P:Nat->Prop) (hP:∀ x,P x->Z[j].2.has x/\S x) (hO:Oth P w w') (b':Bk) (hK:OwnK base w' b' Z[j].2) :
    MidK base S w0 w' g n cap (Z.set j (b',Z[j].2)) Y:=by
  refine ⟨row_oth h.row hO (fun k hk hp=>?_),⟨fun i hi=>?_,fun i hi=>?_,fun i hi=>?_,fun i i2 hi hi2 hne=>?_⟩,h.oth.trans (hO.mono (fun x hx=>(hP x hx).2))⟩
  · simp only [Value.ownBlock,Option.some.injEq] at hk
    subst hk
    exact h.kvs.far j hj (hP _ hp).1
  · rw [List.getElem_set]
    split
    · exact hK
    · have hi':i < Z.length:=by simpa using hi
      have o:=h.kvs.own i hi'
      have k:∀ x,Z[i].2.has x->¬ P x:=fun x hx hp=>h.kvs.apart i j hi' hj (by omega) x hx (hP x hp).1
      exact ⟨row_oth o.q hO (fun x e=>k x (.inl e)),row_oth o.p hO (fun x e=>k x (.inr (.inl e))),row_oth o.h hO (fun x e=>k x (.inr (.inr (.inl e)))),row_oth o.t hO (fun x e=>k x (.inr (.inr (.inr (.inl e))))),row_oth o.n hO (fun x e=>k x (.inr (.inr (.inr (.inr e)))))⟩
  · have e:((Z.set j (b',Z[j].2))[i]).2=(Z[i]'(by simpa using hi)).2:=by rw [List.getElem_set];split <;> simp_all
    rw [e];exact h.kvs.far i (by simpa using hi)
  · have e:((Z.set j (b',Z[j].2))[i]).2=(Z[i]'(by simpa using hi)).2:=by rw [List.getElem_set];split <;> simp_all
    rw [e];exact h.kvs.inner i (by simpa using hi)
  · have e:((Z.set j (b',Z[j].2))[i]).2=(Z[i]'(by simpa using hi)).2:=by rw [List.getElem_set];split <;> simp_all
    have e2:((Z.set j (b',Z[j].2))[i2]).2=(Z[i2]'(by simpa using hi2)).2:=by rw [List.getElem_set];split <;> simp_all
    rw [e,e2];exact h.kvs.apart i i2 (by simpa using hi) (by simpa using hi2) hne
theorem MidK.own {base:Nat} {S:Nat->Prop} {w0 w:World} {g n cap:Nat} {X:List (Bk × Bv)} {Y:List Value} {j:Nat} {b:Bk} {v:Bv} (h:MidK base S w0 w g n cap (X.set j (b,v)) Y) (hj:j < X.length):OwnK base w b v:=by
  have o:=h.kvs.own j (by simpa using hj)
  simpa using o
theorem MidK.mark2 {base:Nat} {S:Nat->Prop} {w0 w w':World} {g n cap:Nat} {X:List (Bk × Bv)} {Y:List Value} {j:Nat} {b:Bk} {v:Bv} (h:MidK base S w0 w g n cap (X.set j (b,v)) Y) (hj:j < X.length) (P:Nat->Prop) (hP:∀ x,P x->v.has x/\S x) (hO:Oth P w w') (b':Bk) (hK:OwnK base w' b' v):MidK base S w0 w' g n cap (X.set j (b',v)) Y:=by
  have h2:=h.mark j (by simpa using hj) P (by simpa using hP) hO b' (by simpa using hK)
  simpa [List.set_set] using h2
theorem set14 {α:Type} (X:List α) (o:Nat) (y0 y1 y2 y3 y4 y5 y6 y7 y8 y9 y10 y11 y12 y13:α) (h6:X[o+6]?=some y6) (h8:X[o+8]?=some y8) (h9:X[o+9]?=some y9) (h10:X[o+10]?=some y10) (h12:X[o+12]?=some y12) :
    ((((((((X.set o y0).set (o+1) y1).set (o+2) y2).set (o+3) y3).set (o+4) y4).set (o+5) y5).set (o+7) y7).set (o+11) y11).set (o+13) y13=setAll X o [y0,y1,y2,y3,y4,y5,y6,y7,y8,y9,y10,y11,y12,y13]:=by
  simp only [setAll]
  apply List.ext_getElem?
  intro i
  simp only [List.getElem?_set,Nat.add_assoc,List.length_set]
  by_cases e6:o+6=i
  · subst e6;simp [h6];have:=(List.getElem?_eq_some_iff.1 h6).1;omega
  by_cases e8:o+8=i
  · subst e8;simp [h8];have:=(List.getElem?_eq_some_iff.1 h8).1;omega
  by_cases e9:o+9=i
  · subst e9;simp [h9];have:=(List.getElem?_eq_some_iff.1 h9).1;omega
  by_cases e10:o+10=i
  · subst e10;simp [h10];have:=(List.getElem?_eq_some_iff.1 h10).1;omega
  by_cases e12:o+12=i
  · subst e12;simp [h12];have:=(List.getElem?_eq_some_iff.1 h12).1;omega
  simp [e6,e8,e9,e10,e12]
theorem mix_at {k:Nat} {Z:List (Bk × Bv)} {j:Nat} (hj:j < Z.length) (t:Nat) (ht:t < 14):((mixZ k Z j).map bkP).flatten[j * 14+t]?=(bkC Z[j].1 Z[j].2)[t]?:=by
  have hl:=mixZ_len k Z j (by omega)
  rw [flat_get 14 _ j t (by simpa [hl] using hj) (bkP_sz _) ht]
  simp [mixZ_now k Z j hj,bkP]
theorem markBlockS_any (v:Value) (l:List Bk) (k base:Nat) (w0 w:World) (ho0:OwnKs base w0 v l) (hw0:Below w0.heap.size w0 w) (hl:l.length<=10000000) (hl1:∀ b ∈ l,b.qw.length<=4000000/\b.tw.length<=4000000/\b.th.length<=4000000/\b.ts.length<=4000000/\b.nx.length<=4000000) (hk:k+totM l<=80000000) (hk0:0 < k) :
    Calls Tryz.prog 41 #[v,.int .i64 (k:Int)] w fun e w'=>e=.returned (.int .i64 ((k+totM l:Nat):Int))/\OwnKs base w' v (mkLk k l)/\Oth (fun x=>base<=x/\x < w0.heap.size) w w':=by
  obtain ⟨g,cap,Z,hZ,rfl,hrow0,hkv0⟩:=ho0
  obtain ⟨n,hn⟩:∃ n,l.length=n:=⟨_,rfl⟩
  have hZl:Z.length=n:=by rw [<- hn,<- hZ];simp
  have hSg:(fun x=>base<=x/\x < w0.heap.size) g:=World.ownsRow.lt hrow0 g rfl
  have HSall:Hid (∀ j (h:j < Z.length) x,Z[j].2.has x->base<=x/\x < w0.heap.size):=hide (fun j h x hx=>(hkv0.own j h).in9 x hx)
  have HM0:Hid (MidK base (fun x=>base<=x/\x < w0.heap.size) w w g n cap (mixZ k Z 0) ((mixZ k Z 0).map bkP).flatten):=hide (by
    rw [mixZ_zero]
    rw [hn] at hrow0
    exact ⟨row_below hrow0 hw0 (Nat.le_refl _),hkv0.below hw0 (Nat.le_refl _),Oth.refl _ _⟩)
  have HZ:=hide hZ
  have Hl1:=hide hl1
  have Hkk:=hide hk
  have HSg:=hide hSg
  rw [hn] at hl ⊢
  have Hn:=hide hn
  clear hrow0 hkv0 hw0 hZ hl1 hk hn hSg
  go_enter Tryz.func41,Tryz.ntmps41
  go_wp2
  go_loopw [1,5] (fun kv iv wr=>∃ j:Nat,j<=n/\iv=.int .i64 (j:Int)/\kv=.int .i64 ((k+totM (l.take j):Nat):Int)/\MidK base (fun x=>base<=x/\x < w0.heap.size) w wr g n cap (mixZ k Z j) ((mixZ k Z j).map bkP).flatten)
    (fun _ iv _=>n - (intOf iv).toNat)
  case atStart=>exact ⟨0,Nat.zero_le _,rfl,by simp [totM],HM0.out⟩
  case round =>
    obtain ⟨j,hj,rfl,rfl,hm⟩:=hrel
    clear HM0
    by_cases hlt:j < n
    · have hjZ:j < Z.length:=by omega
      have hjl:j < l.length:=by have:=Hn.out;omega
      have eZ:l[j]=Z[j].1:=by have:=HZ.out;subst this;simp
      have hmx:=mixZ_len k Z j (by omega)
      have hjm:j < (mixZ k Z j).length:=by omega
      have hnow:=mixZ_now k Z j hjZ hjm
      have hYl:((mixZ k Z j).map bkP).flatten.length=14 * n:=by rw [flat_len 14 _ (bkP_sz _),List.length_map,hmx,hZl];omega
      have Hat:Hid (∀ t,t < 14->((mixZ k Z j).map bkP).flatten[j * 14+t]?=(bkC Z[j].1 Z[j].2)[t]?):=hide (fun t ht=>mix_at hjZ t ht)
      have Hb:=hide (Hl1.out l[j] (List.getElem_mem hjl))
      have htot:=totM_le l (j+1)
      rw [totM_snoc l j hjl] at htot
      have htk:k+totM (l.take j)+mkN l[j]<=80000000:=by have:=Hkk.out;omega
      have HnxK:Hid (k+totM (l.take (j+1))=k+totM (l.take j)+mkN l[j]):=hide (by rw [totM_snoc l j hjl];omega)
      have HEnd:Hid (∀ Y,Y=setAll ((mixZ k Z j).map bkP).flatten (j * 14) (bkC (mkB (k+totM (l.take j)) Z[j].1) Z[j].2)->Y=((mixZ k Z (j+1)).map bkP).flatten):=hide (fun Y hY=>by
        rw [hY,setAll_flat 14 _ _ j (by simpa [hmx] using hjZ) (bkP_sz _) rfl,<- mixZ_next k Z j hjZ,List.map_set,HZ.out]
        rfl)
      have Hmix:Hid ((mixZ k Z j).set j (mkB (k+totM (l.take j)) Z[j].1,Z[j].2)=mixZ k Z (j+1)):=hide (by have:=mixZ_next k Z j hjZ;rw [HZ.out] at this;exact this)
      have HS1:Hid (∀ x,Z[j].2.has x->base<=x/\x < w0.heap.size):=hide (HSall.out j hjZ)
      have hin0:=hm.kvs.inner j hjm
      rw [hnow] at hin0
      have Hin:=hide hin0
      have ho0:=hm.kvs.own j hjm
      rw [hnow] at ho0
      have hK0:0 < k+totM (l.take j):=by omega
      rw [eZ] at Hb htk HnxK
      generalize k+totM (l.take j)=K at htk HnxK HEnd Hmix hK0 ⊢
      generalize hZX:mixZ k Z j=X at hm hmx hjm hnow hYl Hat HEnd Hmix
      generalize hYX:(X.map bkP).flatten=Y at hm hYl Hat HEnd
      generalize hq:Z[j]=zq at hnow Hat Hb htk HnxK HEnd Hmix HS1 Hin ho0 hin0
      obtain ⟨b,bv⟩:=zq
      clear hZX hYX hq htot eZ hin0 hjl
      simp only at *
      obtain ⟨aq,cq,aw,cw,ah,ch,at_,ct,an,cn,rfl⟩:=ho0.rd.shapes9
      obtain ⟨id,ep,rd,md,qr,qb,qw,tr,tw,th,ts,en,nx,rt⟩:=b
      simp only [mkN] at *
      have hli:(j:Int) < (n:Int):=by omega
      clear ho0
      have HM:=hide (show MidK base (fun x=>base<=x/\x < w0.heap.size) w wr g n cap (X.set j (⟨id,ep,rd,md,qr,qb,qw,tr,tw,th,ts,en,nx,rt⟩,(⟨.slice aq qw.length cq,.slice aw tw.length cw,.slice ah th.length ch,.slice at_ ts.length ct,.slice an nx.length cn⟩:Bv))) Y from by rw [<- hnow,List.set_getElem_self];exact hm)
      clear hm hnow
      obtain ⟨⟨y0,q0⟩,f0,-⟩:=HM.out.cell (by simp [hYl]) (j * 14) (by omega)
      obtain ⟨⟨y1,q1⟩,f1,-⟩:=HM.out.cell (by simp [hYl]) (j * 14+1) (by omega)
      obtain ⟨⟨y2,q2⟩,f2,-⟩:=HM.out.cell (by simp [hYl]) (j * 14+2) (by omega)
      have HT1:=hide (fun V=>markText_any (K+3) V (by omega) (by omega))
      rw [show ((K+3:Nat):Int)=(K:Int)+1+1+1 from by omega] at HT1
      have HEnd:=hide (HEnd.out)
      have HMn:=hide (((HM.out.set HSg.out (j * 14) (.int .i64 (K:Int))).set HSg.out (j * 14+1) (.int .i64 ((K:Int)+1))).set HSg.out (j * 14+2) (.int .i64 ((K:Int)+1+1)))
      clear HM
      have HM:=HMn
      clear HMn
      go_wp2_with fail
      refine (HT1.out _).mono ?_
      rintro e w1 ⟨rfl,hb1⟩
      have HMn:=hide (HM.out.below hb1)
      clear q0 q1 q2 f0 f1 f2 hb1 HM HT1
      have HM:=HMn
      clear HMn
      obtain ⟨⟨y3,q3⟩,f3,-⟩:=HM.out.cell (by simp [hYl]) (j * 14+3) (by omega)
      obtain ⟨⟨y4,q4⟩,f4,-⟩:=HM.out.cell (by simp [hYl]) (j * 14+4) (by omega)
      obtain ⟨⟨y5,q5⟩,f5,-⟩:=HM.out.cell (by simp [hYl]) (j * 14+5) (by omega)
      have q6:=(HM.out.cell (by simp [hYl]) (j * 14+6) (by omega)).2.2
      simp only [List.getElem?_set,List.length_set] at q6
      rw [if_neg (show ¬ j * 14+2=j * 14+6 from by omega),if_neg (show ¬ j * 14+1=j * 14+6 from by omega),if_neg (show ¬ j * 14=j * 14+6 from by omega),Hat.out 6 (by omega)] at q6
      simp only [bkC,List.getElem?_cons_zero,List.getElem?_cons_succ] at q6
      have HMn:=hide (((HM.out.set HSg.out (j * 14+3) (.string (mtx (K+3)))).set HSg.out (j * 14+4) (.int .i64 ((K:Int)+1+1+1+1))).set HSg.out (j * 14+5) (.int .i64 ((K:Int)+1+1+1+1+1)))
      clear HM
      have HM:=HMn
      clear HMn
      have HA:=hide (markStringS_any (Value.slice aq qw.length cq) qw (K+6) base _ (HM.out.own hjm).q (by have:=Hb.out;omega) (by omega) (by omega))
      rw [show ((K+6:Nat):Int)=(K:Int)+1+1+1+1+1+1 from by omega] at HA
      go_wp2_with fail
      refine HA.out.mono ?_
      rintro e w2 ⟨rfl,ho2,hg2⟩
      have HMn:=hide (HM.out.mark2 hjm (fun x=>(Value.slice aq qw.length cq).ownBlock=some x) (fun x hx=>⟨.inl hx,HS1.out x (.inl hx)⟩) (Oth.of_grown hg2 (fun g h=>h)) ⟨id,ep,rd,md,qr,qb,mkS (K+6) qw.length,tr,tw,th,ts,en,nx,rt⟩ ((HM.out.own hjm).putq Hin.out _ ho2 (Oth.of_grown hg2 (fun g h=>h))))
      clear HM HA
      have HM:=HMn
      clear HMn
      obtain ⟨K2,hK2⟩:∃ K2:Nat,K+6+qw.length=K2:=⟨_,rfl⟩
      have HK2:=hide hK2
      have hk2:K2+3+tw.length+th.length+5 * ts.length+2 * nx.length<=80000000:=by omega
      have hk20:0 < K2:=by omega
      rw [hK2]
      clear q3 q4 q5 q6 f3 f4 f5 ho2 hg2 hK2
      obtain ⟨⟨y7,q7⟩,f7,-⟩:=HM.out.cell (by simp [hYl]) (j * 14+7) (by omega)
      have q8:=(HM.out.cell (by simp [hYl]) (j * 14+8) (by omega)).2.2
      simp only [List.getElem?_set,List.length_set] at q8
      rw [if_neg (show ¬ j * 14+5=j * 14+8 from by omega),if_neg (show ¬ j * 14+4=j * 14+8 from by omega),if_neg (show ¬ j * 14+3=j * 14+8 from by omega),if_neg (show ¬ j * 14+2=j * 14+8 from by omega),if_neg (show ¬ j * 14+1=j * 14+8 from by omega),if_neg (show ¬ j * 14=j * 14+8 from by omega),Hat.out 8 (by omega)] at q8
      simp only [bkC,List.getElem?_cons_zero,List.getElem?_cons_succ] at q8
      have HMn:=hide (HM.out.set HSg.out (j * 14+7) (.int .i64 (K2:Int)))
      clear HM
      have HM:=HMn
      clear HMn
      have HA:=hide (markStringS_any (Value.slice aw tw.length cw) tw (K2+1) base _ (HM.out.own hjm).p (by have:=Hb.out;omega) (by omega) (by omega))
      rw [show ((K2+1:Nat):Int)=(K2:Int)+1 from by omega] at HA
      go_wp2_with fail
      refine HA.out.mono ?_
      rintro e w3 ⟨rfl,ho3,hg3⟩
      have HMn:=hide (HM.out.mark2 hjm (fun x=>(Value.slice aw tw.length cw).ownBlock=some x) (fun x hx=>⟨.inr (.inl hx),HS1.out x (.inr (.inl hx))⟩) (Oth.of_grown hg3 (fun g h=>h)) ⟨id,ep,rd,md,qr,qb,mkS (K+6) qw.length,tr,mkS (K2+1) tw.length,th,ts,en,nx,rt⟩ ((HM.out.own hjm).putw Hin.out _ ho3 (Oth.of_grown hg3 (fun g h=>h))))
      clear HM HA
      have HM:=HMn
      clear HMn
      obtain ⟨K3,hK3⟩:∃ K3:Nat,K2+1+tw.length=K3:=⟨_,rfl⟩
      have HK3:=hide hK3
      have hk3:K3+2+th.length+5 * ts.length+2 * nx.length<=80000000:=by omega
      have hk30:0 < K3:=by omega
      rw [hK3]
      clear q7 q8 f7 ho3 hg3 hK3
      have q9:=(HM.out.cell (by simp [hYl]) (j * 14+9) (by omega)).2.2
      simp only [List.getElem?_set,List.length_set] at q9
      rw [if_neg (show ¬ j * 14+7=j * 14+9 from by omega),if_neg (show ¬ j * 14+5=j * 14+9 from by omega),if_neg (show ¬ j * 14+4=j * 14+9 from by omega),if_neg (show ¬ j * 14+3=j * 14+9 from by omega),if_neg (show ¬ j * 14+2=j * 14+9 from by omega),if_neg (show ¬ j * 14+1=j * 14+9 from by omega),if_neg (show ¬ j * 14=j * 14+9 from by omega),Hat.out 9 (by omega)] at q9
      simp only [bkC,List.getElem?_cons_zero,List.getElem?_cons_succ] at q9
      have HA:=hide (markIntS_any (Value.slice ah th.length ch) th K3 base _ (HM.out.own hjm).h (by have:=Hb.out;omega) (by omega) (by omega))
      go_wp2_with fail
      refine HA.out.mono ?_
      rintro e w4 ⟨rfl,ho4,hg4⟩
      have HMn:=hide (HM.out.mark2 hjm (fun x=>(Value.slice ah th.length ch).ownBlock=some x) (fun x hx=>⟨.inr (.inr (.inl hx)),HS1.out x (.inr (.inr (.inl hx)))⟩) (Oth.of_grown hg4 (fun g h=>h)) ⟨id,ep,rd,md,qr,qb,mkS (K+6) qw.length,tr,mkS (K2+1) tw.length,mkI K3 th.length,ts,en,nx,rt⟩ ((HM.out.own hjm).puth _ ho4 (Oth.of_grown hg4 (fun g h=>h))))
      clear HM HA
      have HM:=HMn
      clear HMn
      obtain ⟨K4,hK4⟩:∃ K4:Nat,K3+th.length=K4:=⟨_,rfl⟩
      have HK4:=hide hK4
      have hk4:K4+2+5 * ts.length+2 * nx.length<=80000000:=by omega
      have hk40:0 < K4:=by omega
      rw [hK4]
      clear q9 ho4 hg4 hK4
      have q10:=(HM.out.cell (by simp [hYl]) (j * 14+10) (by omega)).2.2
      simp only [List.getElem?_set,List.length_set] at q10
      rw [if_neg (show ¬ j * 14+7=j * 14+10 from by omega),if_neg (show ¬ j * 14+5=j * 14+10 from by omega),if_neg (show ¬ j * 14+4=j * 14+10 from by omega),if_neg (show ¬ j * 14+3=j * 14+10 from by omega),if_neg (show ¬ j * 14+2=j * 14+10 from by omega),if_neg (show ¬ j * 14+1=j * 14+10 from by omega),if_neg (show ¬ j * 14=j * 14+10 from by omega),Hat.out 10 (by omega)] at q10
      simp only [bkC,List.getElem?_cons_zero,List.getElem?_cons_succ] at q10
      have HA:=hide (markTxC_any (Value.slice at_ ts.length ct) ts K4 base _ (HM.out.own hjm).t (by have:=Hb.out;omega) (by omega) (by omega))
      go_wp2_with fail
      refine HA.out.mono ?_
      rintro e w5 ⟨rfl,ho5,hO5⟩
      have HMn:=hide (HM.out.mark2 hjm (fun x=>(Value.slice at_ ts.length ct).ownBlock=some x) (fun x hx=>⟨.inr (.inr (.inr (.inl hx))),HS1.out x (.inr (.inr (.inr (.inl hx))))⟩) (hO5) ⟨id,ep,rd,md,qr,qb,mkS (K+6) qw.length,tr,mkS (K2+1) tw.length,mkI K3 th.length,mkT K4 ts.length,en,nx,rt⟩ ((HM.out.own hjm).putt _ ho5 (hO5)))
      clear HM HA
      have HM:=HMn
      clear HMn
      obtain ⟨K5,hK5⟩:∃ K5:Nat,K4+5 * ts.length=K5:=⟨_,rfl⟩
      have HK5:=hide hK5
      have hk5:K5+2+2 * nx.length<=80000000:=by omega
      have hk50:0 < K5:=by omega
      rw [hK5]
      clear q10 ho5 hO5 hK5
      obtain ⟨⟨y11,q11⟩,f11,-⟩:=HM.out.cell (by simp [hYl]) (j * 14+11) (by omega)
      have q12:=(HM.out.cell (by simp [hYl]) (j * 14+12) (by omega)).2.2
      simp only [List.getElem?_set,List.length_set] at q12
      rw [if_neg (show ¬ j * 14+7=j * 14+12 from by omega),if_neg (show ¬ j * 14+5=j * 14+12 from by omega),if_neg (show ¬ j * 14+4=j * 14+12 from by omega),if_neg (show ¬ j * 14+3=j * 14+12 from by omega),if_neg (show ¬ j * 14+2=j * 14+12 from by omega),if_neg (show ¬ j * 14+1=j * 14+12 from by omega),if_neg (show ¬ j * 14=j * 14+12 from by omega),Hat.out 12 (by omega)] at q12
      simp only [bkC,List.getElem?_cons_zero,List.getElem?_cons_succ] at q12
      have HMn:=hide (HM.out.set HSg.out (j * 14+11) (.bool (decide ((K5:Int) % 3=0))))
      clear HM
      have HM:=HMn
      clear HMn
      have HA:=hide (markValS_any (Value.slice an nx.length cn) nx (K5+1) base _ (HM.out.own hjm).n (by have:=Hb.out;omega) (by omega) (by omega))
      rw [show ((K5+1:Nat):Int)=(K5:Int)+1 from by omega] at HA
      go_wp2_with fail
      refine HA.out.mono ?_
      rintro e w6 ⟨rfl,ho6,hg6⟩
      have HMn:=hide (HM.out.mark2 hjm (fun x=>(Value.slice an nx.length cn).ownBlock=some x) (fun x hx=>⟨.inr (.inr (.inr (.inr hx))),HS1.out x (.inr (.inr (.inr (.inr hx))))⟩) (Oth.of_grown hg6 (fun g h=>h)) ⟨id,ep,rd,md,qr,qb,mkS (K+6) qw.length,tr,mkS (K2+1) tw.length,mkI K3 th.length,mkT K4 ts.length,en,mkV (K5+1) nx.length,rt⟩ ((HM.out.own hjm).putn _ ho6 (Oth.of_grown hg6 (fun g h=>h))))
      clear HM HA
      have HM:=HMn
      clear HMn
      obtain ⟨K6,hK6⟩:∃ K6:Nat,K5+1+2 * nx.length=K6:=⟨_,rfl⟩
      have HK6:=hide hK6
      have hk6:K6+1<=80000000:=by omega
      have hk60:0 < K6:=by omega
      rw [hK6]
      clear q11 q12 f11 ho6 hg6 hK6
      have HT1:=hide (fun V=>markText_any K6 V (by omega) (by omega))
      go_wp2_with fail
      refine (HT1.out _).mono ?_
      rintro e w7 ⟨rfl,hb7⟩
      have HMn:=hide (HM.out.below hb7)
      clear hb7 HM HT1
      have HM:=HMn
      clear HMn
      obtain ⟨⟨y13,q13⟩,f13,-⟩:=HM.out.cell (by simp [hYl]) (j * 14+13) (by omega)
      have HMn:=hide (HM.out.set HSg.out (j * 14+13) (.string (mtx K6)))
      clear HM
      have HM:=HMn
      clear HMn
      have HF:Hid (MidK base (fun x=>base<=x/\x < w0.heap.size) w _ g n cap (mixZ k Z (j+1)) ((mixZ k Z (j+1)).map bkP).flatten):=hide (by
        have h6:=Hat.out 6 (by omega)
        have h8:=Hat.out 8 (by omega)
        have h9:=Hat.out 9 (by omega)
        have h10:=Hat.out 10 (by omega)
        have h12:=Hat.out 12 (by omega)
        simp only [bkC,List.getElem?_cons_zero,List.getElem?_cons_succ] at h6 h8 h9 h10 h12
        have e1:mkB K ⟨id,ep,rd,md,qr,qb,qw,tr,tw,th,ts,en,nx,rt⟩=⟨(K:Int),(K:Int)+1,(K:Int)+1+1,mtx (K+3),(K:Int)+1+1+1+1,(K:Int)+1+1+1+1+1,mkS (K+6) qw.length,(K2:Int),mkS (K2+1) tw.length,mkI K3 th.length,mkT K4 ts.length,decide ((K5:Int) % 3=0),mkV (K5+1) nx.length,mtx K6⟩:=by
          unfold mkB
          simp only [HK2.out,HK3.out,HK4.out,HK5.out,HK6.out]
          rw [Bk.mk.injEq]
          exact ⟨rfl,by omega,by omega,rfl,by omega,by omega,rfl,rfl,rfl,rfl,rfl,rfl,rfl,rfl⟩
        have e2:=HEnd.out _ rfl
        have e3:=Hmix.out
        rw [e1] at e2 e3
        have o:=HM.out.own hjm
        have hm9:=HM.out.mark2 hjm (fun _=>False) (fun _ h=>h.elim) (Oth.refl _ _) ⟨(K:Int),(K:Int)+1,(K:Int)+1+1,mtx (K+3),(K:Int)+1+1+1+1,(K:Int)+1+1+1+1+1,mkS (K+6) qw.length,(K2:Int),mkS (K2+1) tw.length,mkI K3 th.length,mkT K4 ts.length,decide ((K5:Int) % 3=0),mkV (K5+1) nx.length,mtx K6⟩ ⟨o.q,o.p,o.h,o.t,o.n⟩
        rw [set14 Y (j * 14) _ _ _ _ _ _ _ _ _ _ _ _ _ _ h6 h8 h9 h10 h12] at hm9
        rw [e3] at hm9
        rw [<- e2]
        exact hm9)
      go_wp2
      go_roundw
      case rel=>exact ⟨j+1,by omega,by go_num,by rw [HnxK.out];have:=HK2.out;have:=HK3.out;have:=HK4.out;have:=HK5.out;have:=HK6.out;congr 1;omega,HF.out⟩
      case measure=>simp [intOf];omega
    · have ej:j=n:=by omega
      have em:mixZ k Z j=mixZ k Z Z.length:=by rw [hZl,ej]
      have HF:Hid (OwnKs base wr (.slice (some ⟨g,0,none⟩) n cap) (mkLk k l)):=hide (by
        have e1:=mixZ_all k Z
        rw [<- em,HZ.out] at e1
        have e2:(mkLk k l).length=n:=by rw [mkLk_len,Hn.out]
        exact ⟨g,cap,mixZ k Z j,e1,by rw [e2],by rw [e2];exact hm.row,hm.kvs⟩)
      have HOo:=hide hm.oth
      have HT:Hid (((k+totM (l.take j):Nat):Int)=((k+totM l:Nat):Int)):=hide (by rw [List.take_of_length_le (by have:=Hn.out;omega)])
      clear hm em ej
      generalize k+totM (l.take j)=K at HT
      go_wp2
      go_ret
      exact ⟨ret_int HT.out,HF.out,HOo.out⟩
def lgB (e:Int) (l:List Ac):Bool:=inB e 0 900 && acsB l
theorem specLedgerOk_any (e:Int) (v:Value) (l:List Ac) (w:World) (hr:RdA w v l) (hl:l.length<=4000000) (hall:∀ a ∈ l,a.1.size<=maxLen/\a.2.2.2.2.length<=4000000) :
    Calls Tryz.prog 143 #[lgV e v] w fun en w'=>en=.returned (.bool (lgB e l))/\Below w.heap.size w w':=by
  obtain ⟨a1,cv1,rfl⟩:=hr.shape
  simp only [lgV] at *
  have hb3:Below w.heap.size w (w.alloc (.cells #[.int .i64 e,.slice a1 l.length cv1] 26)):=(Below.refl _ w).alloc (Nat.le_refl _) _
  have HE:=hide (specAcctsOk_any _ l _ (hr.below hb3 (Nat.le_refl _)) hl hall)
  have Hb3:=hide hb3
  have Hx:Hid (lgB e l=(inB e 0 900 && acsB l)):=hide rfl
  clear hb3 hr hall
  generalize lgB e l=X at Hx
  generalize acsB l=A at Hx HE
  cases h0:inB e 0 900
  · rw [h0,Bool.false_and] at Hx
    go_enter Tryz.func143,Tryz.ntmps143
    go_wp2_with (go_at_call 181;refine (l1In_any _ _ _ _).mono ?_;rintro en w1 ⟨rfl,rfl⟩)
    go_ret
    exact ⟨ret_bool Hx.out.symm,Hb3.out⟩
  · rw [h0,Bool.true_and] at Hx
    go_enter Tryz.func143,Tryz.ntmps143
    go_wp2_with (first
      | (go_at_call 181;refine (l1In_any _ _ _ _).mono ?_;rintro en w1 ⟨rfl,rfl⟩)
      | (go_at_call 195;refine HE.out.mono ?_;rintro en w2 ⟨rfl,hb2⟩))
    go_ret
    exact ⟨ret_bool Hx.out.symm,Hb3.out.trans (hb2.mono Hb3.out.size)⟩
theorem keep2 {W:World} {B G:Nat} {x y u v:Value} (h:W.cell? ⟨B,0,none⟩=some x/\W.cell? ⟨B,1,none⟩=some y) (hne:B ≠ G):((W.setCell ⟨G,0,none⟩ u).setCell ⟨G,1,none⟩ v).cell? ⟨B,0,none⟩=some x/\((W.setCell ⟨G,0,none⟩ u).setCell ⟨G,1,none⟩ v).cell? ⟨B,1,none⟩=some y:=by
  have e:((W.setCell ⟨G,0,none⟩ u).setCell ⟨G,1,none⟩ v).heap[B]?=W.heap[B]?:=by
    rw [heap_setCell_other _ ⟨G,1,none⟩ B _ hne,heap_setCell_other _ ⟨G,0,none⟩ B _ hne]
  exact ⟨(World.cell?_of_block e).trans h.1,(World.cell?_of_block e).trans h.2⟩
theorem specL6Copy_any (e:Int) (v:Value) (l:List Ac) (w:World) (hr:RdA w v l) (hl:l.length<=4000000) (hall:∀ a ∈ l,a.2.2.2.2.length<=4000000) :
    Calls Tryz.prog 71 #[lgV e v] w fun en w'=>∃ v',en=.returned (lgV e v')/\OwnA w.heap.size w' v' l/\Below w.heap.size w w':=by
  obtain ⟨a1,cv1,rfl⟩:=hr.shape
  simp only [lgV] at *
  obtain ⟨w2,hw2⟩:∃ w2,(w.alloc (.cells #[.int .i64 e,.slice a1 l.length cv1] 26)).alloc (.cells #[.int .i64 0,.slice none 0 0] 26)=w2:=⟨_,rfl⟩
  have hb2:Below w.heap.size w w2.drew:=by rw [<- hw2];exact (((Below.refl _ w).alloc (Nat.le_refl _) _).alloc (by simp) _).drew
  have hs2:w2.heap.size=w.heap.size+2:=by rw [<- hw2];simp
  have kA:Blk w2 w.heap.size 26 [.int .i64 e,.slice a1 l.length cv1]:=by
    rw [<- hw2]
    exact (Blk.new w 26 [.int .i64 e,.slice a1 l.length cv1]).below ((Below.refl (w.heap.size+1) _).alloc (by simp) _) (by omega)
  have kR:Blk w2 (w.heap.size+1) 26 [.int .i64 0,.slice none 0 0]:=by
    rw [<- hw2]
    have h:=Blk.new (w.alloc (.cells #[.int .i64 e,.slice a1 l.length cv1] 26)) 26 [.int .i64 0,.slice none 0 0]
    simp only [World.size_alloc] at h
    exact h
  have HC:=hide (specCopy_any _ l w2.drew (hr.below hb2 (Nat.le_refl _)) hl hall)
  have hS2:w2.drew.cell? ⟨w.heap.size,0,none⟩=some (.int .i64 e)/\w2.drew.cell? ⟨w.heap.size,1,none⟩=some (.slice a1 l.length cv1):=⟨kA.cell 0,kA.cell 1⟩
  have Hb2:=hide hb2
  have KA:Hid (Blk w2.drew w.heap.size 26 [.int .i64 e,.slice a1 l.length cv1]):=hide kA
  have KR:Hid (Blk w2.drew (w.heap.size+1) 26 [.int .i64 0,.slice none 0 0]):=hide kR
  have hs3:w2.drew.heap.size=w.heap.size+2:=hs2
  clear hr hb2 kA kR
  go_enter Tryz.func71,Tryz.ntmps71
  go_wp2
  go_region_held_law (fun w'=>w'.cell? ⟨w.heap.size,0,none⟩=some (.int .i64 e)/\w'.cell? ⟨w.heap.size,1,none⟩=some (.slice a1 l.length cv1)) (first | exact hS2 | exact hS4 | exact keep2 hS4 (by omega)) ((go_at_call 133;refine HC.out.mono ?_;rintro en w4 ⟨v4,rfl,ho4,hb4⟩;have KA4:=KA.out.below hb4 (by omega);have KR4:=KR.out.below hb4 (by omega);have hS4:w4.cell? ⟨w.heap.size,0,none⟩=some (.int .i64 e)/\w4.cell? ⟨w.heap.size,1,none⟩=some (.slice a1 l.length cv1):=⟨KA4.cell 0,KA4.cell 1⟩;have r0:w4.cell? ⟨w.heap.size+1,0,none⟩=some (.int .i64 0):=KR4.cell 0;have r1:w4.cell? ⟨w.heap.size+1,1,none⟩=some (.slice none 0 0):=KR4.cell 1;have q0:=KR4.frozen 0;have q1:=KR4.frozen 1;have hsh:=ho4.rd.shape;obtain ⟨a4,cv4,hv4⟩:=hsh;subst hv4))
  have Ho:=hide (((ho4.older (g:=w.heap.size+1) (by omega) 0 (.int .i64 e)).older (g:=w.heap.size+1) (by omega) 1 (.slice a4 l.length cv4)).mono (show w.heap.size<=_ by omega))
  have HB:=hide (((Hb2.out.trans (hb4.mono Hb2.out.size)).setCell (p:=⟨w.heap.size+1,0,none⟩) (show w.heap.size<=w.heap.size+1 by omega) (.int .i64 e)).setCell (p:=⟨w.heap.size+1,1,none⟩) (show w.heap.size<=w.heap.size+1 by omega) (.slice a4 l.length cv4))
  clear ho4 hb4 KA4
  go_wp2
  refine bodyPost_ret (v:=.agg #[.int .i64 e,.slice a4 l.length cv4]) (by simp [results,Tryz.f71,go_sem,r0,r1]) rfl ?_
  exact ⟨_,rfl,Ho.out,HB.out⟩
theorem app_ownLg {ops:Array Oper} {rest:List Oper} {o:Oper} {a:Act} {Q:Exit->Act->World->Prop} (w:World) (hgd:o.guard=none) (s x:Operand)
    (ho:o.op=.call { callee:=.builtin .append,args:=#[s,x],argTypes:=#[103,103] })
    (base:Nat) (v vx:Value) (l k:List (Int × Int)) (hs:a.eval s=v) (hx:a.eval x=vx) (hown:OwnL base w v l) (hrd:RdL w vx k)
    (hlen:l.length+k.length<=100000000) (hbase:base<=w.heap.size)
    (h:∀ v' w',OwnL base w' v' (l ++ k)->w.grownBy w' v.ownBlock->wpList Tryz.prog ops Q rest (a.put o.dst v') w'):wpList Tryz.prog ops Q (o :: rest) a w:=by
  obtain ⟨i0,hi,hz0,hz1,hz2⟩:=info_parts Tryz.infoLv
  rcases hrd with ⟨ax,cap,rfl,rfl,hnil⟩ | ⟨b,off,cap,h0,rfl,h1,h2,h3,h4⟩
  · cases ax with
    | none =>
      have hc:cap=0:=hnil rfl
      subst hc
      refine wpList_append_own_none hgd s x 103 ho base 107 i0 2 Tryz.underlying103 hi v l.length (l.map lvC).flatten hs hown hx ?_
      exact h v w (by simpa [OwnL] using hown) (World.grownBy.refl _ _)
    | some ad =>
      refine wpList_append_own w hgd s x 103 ho base 107 i0 (.agg #[.int .i64 0,.int .i64 0]) 2 16 Tryz.underlying103 hi hz0 hz1 hz2 rfl (by decide) v l.length (l.map lvC).flatten hs hown ad 0 cap [] hx rfl (by intro j u hj;simp at hj) (by intro u hu;simp at hu) (by unfold maxLen;simp at hlen;omega) (by simp at hlen;omega) hbase ?_
      intro v' w' ho' hg _
      exact h v' w' (by simpa [OwnL] using ho') hg
  · refine wpList_append_own w hgd s x 103 ho base 107 i0 (.agg #[.int .i64 0,.int .i64 0]) 2 16 Tryz.underlying103 hi hz0 hz1 hz2 rfl (by decide) v l.length (l.map lvC).flatten hs hown ⟨b,off,none⟩ k.length cap (k.map lvC).flatten hx (by rw [flat_len 2 _ (lvM_sz k),List.length_map]) (rdL_cells h4) ?_ (by unfold maxLen;omega) (by omega) hbase ?_
    · intro u hu
      obtain ⟨c,hc,hu⟩:=List.mem_flatten.1 hu
      obtain ⟨p,_,rfl⟩:=List.mem_map.1 hc
      simp only [lvC,List.mem_cons,List.not_mem_nil,or_false] at hu
      rcases hu with rfl | rfl <;> rfl
    · intro v' w' ho' hg _
      exact h v' w' (by simpa [OwnL] using ho') hg
theorem rd_one_lv (w:World) (g:Nat) (x y:Int) (hg:g=w.heap.size):RdL (w.alloc (.cells #[.int .i64 x,.int .i64 y] 107)) (.slice (some ⟨g,0,none⟩) 1 1) [(x,y)]:=by
  subst hg
  refine .inr ⟨w.heap.size,0,1,by simp,rfl,by simp,by unfold maxLen;omega,by simp,?_⟩
  intro i hi
  simp only [List.length_cons,List.length_nil] at hi
  have:i=0:=by omega
  subst this
  exact ⟨by rw [World.cell?_alloc_at _ _ _ _ rfl];rfl,by rw [World.cell?_alloc_at _ _ _ _ rfl];rfl⟩
theorem RdL.at {w:World} {a:Option Addr} {cap k:Nat} {l:List (Int × Int)} (h:RdL w (.slice a l.length cap) l) (hk:k < l.length) :
    ∃ b off,a=some ⟨b,off,none⟩/\l.length<=cap/\cap<=maxLen/\b < w.heap.size/\w.cell? ⟨b,off+k * 2,none⟩=some (.int .i64 l[k].1)/\w.cell? ⟨b,off+k * 2+1,none⟩=some (.int .i64 l[k].2):=by
  rcases h with ⟨a',cap',e,rfl,-⟩ | ⟨b,off,cap',h0,e,h1,h2,h3,h4⟩
  · simp at hk
  · simp only [Value.slice.injEq] at e
    obtain ⟨rfl,-,rfl⟩:=e
    exact ⟨b,off,rfl,h1,h2,h3,(h4 k hk).1,(h4 k hk).2⟩
theorem Blk.kept' {W W':World} {row:Option Nat} {B:Nat} {t:TypeId} {cs:List Value} (h:Blk W B t cs) (hg:W.grownBy W' row) (hne:some B ≠ row):Blk W' B t cs:=(hg.block B h.lt hne).trans h
def lvP (n t:Int):List (Int × Int)->List (Int × Int)
  | []=>[(n,t)]
  | x :: r=>if x.2=t then (wrap64 (x.1+n),x.2) :: r else if t < x.2 then (n,t) :: x :: r else x :: lvP n t r
theorem lvP_len (n t:Int):∀ l:List (Int × Int),(lvP n t l).length<=l.length+1
  | []=>by simp [lvP]
  | x :: r=>by
    have:=lvP_len n t r
    rw [lvP]
    split
    · simp
    · split
      · simp
      · simp only [List.length_cons];omega
theorem specL6Leave_any (v:Value) (l:List (Int × Int)) (n t:Int) (w:World) (hr:RdL w v l) (hl:l.length<=4000000) :
    Calls Tryz.prog 202 #[v,.int .i64 n,.int .i64 t] w fun e w'=>∃ v',e=.returned v'/\OwnL w.heap.size w' v' (lvP n t l)/\Below w.heap.size w w':=by
  obtain ⟨av,cv,rfl⟩:=hr.shape
  have Hr:=hide hr
  have ho0:=own_nilL w w.heap.size (Nat.le_refl _)
  have hb0:Below w.heap.size w (w.alloc (.cells #[] 107)):=(Below.refl _ w).alloc (Nat.le_refl _) _
  clear hr
  go_enter Tryz.func202,Tryz.ntmps202
  go_wp2
  go_loopw [7,8,9] (fun bv pv iv wr=>∃ (k:Nat) (pre:List (Int × Int)) (put:Bool),k<=l.length/\iv=.int .i64 (k:Int)/\pv=.bool put/\OwnL w.heap.size wr bv pre/\Below w.heap.size w wr/\pre.length<=k+1/\(put=false->pre.length<=k)/\lvP n t l=pre ++ (if put=true then l.drop k else lvP n t (l.drop k))) (fun _ _ iv _=>l.length - (intOf iv).toNat)
  case atStart=>exact ⟨0,[],false,by omega,rfl,rfl,ho0,hb0,by simp,by simp,by simp⟩
  case round =>
    obtain ⟨k,pre,put,hk,rfl,rfl,ho,hb,hpl,hpf,hpre⟩:=hrel
    clear ho0 hb0
    have hbs:=hb.size
    by_cases hlt:k < l.length
    · obtain ⟨b,off,rfl,hc1,hc2,hbw,e0,e1⟩:=Hr.out.at hlt
      have f0:=(hb.cell (p:=⟨b,off+k * 2,none⟩) hbw).trans e0
      have f1:=(hb.cell (p:=⟨b,off+k * 2+1,none⟩) hbw).trans e1
      have hd:l.drop k=l[k] :: l.drop (k+1):=List.drop_eq_getElem_cons hlt
      rw [hd] at hpre
      generalize l[k]=x at f0 f1 hpre e0 e1
      obtain ⟨xa,xt⟩:=x
      simp only at f0 f1
      have Hpre:=hide hpre
      have Ho:=hide ho
      have Hb:=hide hb
      clear e0 e1 hd hpre ho hb
      cases put
      · rw [if_neg (by simp)] at Hpre
        have hp0:pre.length<=k:=hpf rfl
        clear hpf
        by_cases h1:xt=t
        · have Hnx:Hid (lvP n t l=(pre ++ [(wrap64 (xa+n),xt)]) ++ (if true=true then l.drop (k+1) else lvP n t (l.drop (k+1)))):=hide (by rw [Hpre.out,lvP,if_pos h1,if_pos rfl,List.append_assoc];rfl)
          clear Hpre
          subst h1
          go_wp2_with (at_builtin;refine app_ownLg _ rfl _ _ rfl w.heap.size _ _ pre [(wrap64 (xa+n),xt)] rfl rfl ((Ho.out.alloc _).alloc _) (rd_one_lv _ _ (wrap64 (xa+n)) xt (by simp)) (by simp;omega) (by simp;omega) ?_;intro v1 w1 ho1 hg1)
          have HB:=hide (((Hb.out.alloc hbs (.cells #[.int .i64 (wrap64 (xa+n)),.int .i64 xt] 107)).alloc (by simp;omega) (.cells #[.int .i64 (wrap64 (xa+n)),.int .i64 xt] 107)).grown hg1 (by simp;omega) (fun k hk=>Ho.out.ge k hk))
          go_roundw
          case rel=>exact ⟨k+1,pre ++ [(wrap64 (xa+n),xt)],true,by omega,by go_num,rfl,ho1,HB.out,by simp;omega,by simp,Hnx.out⟩
          case measure=>simp [intOf];omega
        · by_cases h2:t < xt
          · have Hnx:Hid (lvP n t l=(pre ++ [(n,t)] ++ [(xa,xt)]) ++ (if true=true then l.drop (k+1) else lvP n t (l.drop (k+1)))):=hide (by rw [Hpre.out,lvP,if_neg h1,if_pos h2,if_pos rfl,List.append_assoc,List.append_assoc];rfl)
            have hq:(xt == t)=false:=by rw [beq_eq_false_iff_ne];exact h1
            have hbx:=Blk.new wr 107 [.int .i64 xa,.int .i64 xt]
            have hox:=Ho.out.lt
            clear Hpre h1
            go_wp2_with (first
              | (at_builtin;refine app_ownLg _ rfl _ _ rfl w.heap.size _ _ (pre ++ [(n,t)]) [(xa,xt)] rfl rfl (ho1.alloc _) (rd_one_lv _ _ xa xt (by simp)) (by simp;omega) (by simp;omega) ?_;intro v2 w2 ho2 hg2)
              | (at_builtin;refine app_ownLg _ rfl _ _ rfl w.heap.size _ _ pre [(n,t)] rfl rfl ((Ho.out.alloc _).alloc _) (rd_one_lv _ _ n t (by simp)) (by simp;omega) (by simp;omega) ?_;intro v1 w1 ho1 hg1;have hz1:=hg1.size;have hb1:=(hbx.below ((Below.refl (wr.heap.size+1) _).alloc (by simp) (.cells #[.int .i64 n,.int .i64 t] 107)) (by omega)).kept' hg1 (fun e=>by have:=hox _ e.symm;omega);have c0:=hb1.cell 0;have c1:=hb1.cell 1;simp only [List.getElem?_cons_zero,List.getElem?_cons_succ,World.size_alloc] at c0 c1 hz1))
            have HB1:=hide (((Hb.out.alloc hbs (.cells #[.int .i64 xa,.int .i64 xt] 107)).alloc (by simp;omega) (.cells #[.int .i64 n,.int .i64 t] 107)).grown hg1 (by simp;omega) (fun k hk=>Ho.out.ge k hk))
            have HB:=hide ((HB1.out.alloc (by omega) (.cells #[.int .i64 xa,.int .i64 xt] 107)).grown hg2 (by simp;omega) (fun k hk=>ho1.ge k hk))
            go_roundw
            case rel=>exact ⟨k+1,pre ++ [(n,t)] ++ [(xa,xt)],true,by omega,by go_num,rfl,ho2,HB.out,by simp;omega,by simp,Hnx.out⟩
            case measure=>simp [intOf];omega
          · have Hnx:Hid (lvP n t l=(pre ++ [(xa,xt)]) ++ (if false=true then l.drop (k+1) else lvP n t (l.drop (k+1)))):=hide (by rw [Hpre.out,lvP,if_neg h1,if_neg h2,if_neg (by simp),List.append_assoc];rfl)
            have hq:(xt == t)=false:=by rw [beq_eq_false_iff_ne];exact h1
            clear Hpre h1
            go_wp2_with (at_builtin;refine app_ownLg _ rfl _ _ rfl w.heap.size _ _ pre [(xa,xt)] rfl rfl ((Ho.out.alloc _).alloc _) (rd_one_lv _ _ xa xt (by simp)) (by simp;omega) (by simp;omega) ?_;intro v1 w1 ho1 hg1)
            have HB:=hide (((Hb.out.alloc hbs (.cells #[.int .i64 xa,.int .i64 xt] 107)).alloc (by simp;omega) (.cells #[.int .i64 xa,.int .i64 xt] 107)).grown hg1 (by simp;omega) (fun k hk=>Ho.out.ge k hk))
            go_roundw
            case rel=>exact ⟨k+1,pre ++ [(xa,xt)],false,by omega,by go_num,rfl,ho1,HB.out,by simp;omega,fun _=>by simp;omega,Hnx.out⟩
            case measure=>simp [intOf];omega
      · have Hnx:Hid (lvP n t l=(pre ++ [(xa,xt)]) ++ (if true=true then l.drop (k+1) else lvP n t (l.drop (k+1)))):=hide (by rw [Hpre.out,if_pos rfl,if_pos rfl,List.append_assoc];rfl)
        clear Hpre
        go_wp2_with (at_builtin;refine app_ownLg _ rfl _ _ rfl w.heap.size _ _ pre [(xa,xt)] rfl rfl ((Ho.out.alloc _).alloc _) (rd_one_lv _ _ xa xt (by simp)) (by simp;omega) (by simp;omega) ?_;intro v1 w1 ho1 hg1)
        have HB:=hide (((Hb.out.alloc hbs (.cells #[.int .i64 xa,.int .i64 xt] 107)).alloc (by simp;omega) (.cells #[.int .i64 xa,.int .i64 xt] 107)).grown hg1 (by simp;omega) (fun k hk=>Ho.out.ge k hk))
        go_roundw
        case rel=>exact ⟨k+1,pre ++ [(xa,xt)],true,by omega,by go_num,rfl,ho1,HB.out,by simp;omega,by simp,Hnx.out⟩
        case measure=>simp [intOf];omega
    · have hd:l.drop k=[]:=List.drop_eq_nil_of_le (by omega)
      rw [hd] at hpre
      clear hd
      cases put
      · have Hnx:Hid (lvP n t l=pre ++ [(n,t)]):=hide (by rw [hpre,if_neg (by simp)];rfl)
        clear hpre
        have Ho:=hide ho
        have Hb:=hide hb
        clear ho hb
        go_wp2_with (at_builtin;refine app_ownLg _ rfl _ _ rfl w.heap.size _ _ pre [(n,t)] rfl rfl (Ho.out.alloc _) (rd_one_lv _ _ n t (by simp)) (by simp;omega) (by simp;omega) ?_;intro v1 w1 ho1 hg1)
        have HB:=hide ((Hb.out.alloc hbs (.cells #[.int .i64 n,.int .i64 t] 107)).grown hg1 (by simp;omega) (fun k hk=>Ho.out.ge k hk))
        go_ret
        exact ⟨v1,rfl,by rw [Hnx.out];exact ho1,HB.out⟩
      · have Hnx:Hid (lvP n t l=pre):=hide (by rw [hpre,if_pos rfl,List.append_nil])
        clear hpre
        go_wp2
        go_ret
        exact ⟨_,rfl,by rw [Hnx.out];exact ho,hb⟩
end Go.Proofs.YtohachldbpejpaaGreatDoor
