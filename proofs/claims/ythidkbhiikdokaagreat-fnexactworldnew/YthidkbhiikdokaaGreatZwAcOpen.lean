/- Accounts that came in, opened. -/
import Derived.Test.YthidkbhiikdokaaGreatZwAcEq
import Derived.Deep.SlicePairs
import Derived.Lib.SmallJoins
import Derived.OpenShut
set_option maxRecDepth 20000
set_option maxHeartbeats 2000000
namespace Go.Proofs.YthidkbhiikdokaaGreat
open Go.RowKit
set_option linter.unusedVariables false
def tot (ls:List ByteArray):Nat:=(ls.map (fun s=>s.size)).sum
theorem tot_take:∀ (ls:List ByteArray) (k:Nat),tot (ls.take k)<=tot ls:=by
  intro ls
  induction ls with
  | nil=>intro k;simp [tot]
  | cons s t ih =>
    intro k
    cases k with
    | zero=>simp [tot]
    | succ k =>
      have:=ih k
      simp only [tot,List.take_succ_cons,List.map_cons,List.sum_cons] at this ⊢
      omega
def RdS (w:World) (v:Value) (l:List ByteArray):Prop :=
  (∃ a cap,v=.slice a 0 cap/\l=[]/\(a=none->cap=0)) \/
  ∃ b off cap,l ≠ []/\v=.slice (some ⟨b,off,none⟩) l.length cap/\l.length<=cap/\cap<=maxLen/\b < w.heap.size/\∀ i (h:i < l.length),w.cell? ⟨b,off+i,none⟩=some (.string l[i])
theorem RdS.shape {w:World} {v:Value} {l:List ByteArray} (h:RdS w v l):∃ a cap,v=.slice a l.length cap:=by
  rcases h with ⟨a,cap,rfl,rfl,-⟩ | ⟨b,off,cap,h0,rfl,_⟩
  · exact ⟨a,cap,rfl⟩
  · exact ⟨_,cap,rfl⟩
theorem RdS.below {B:Nat} {w w':World} {v:Value} {l:List ByteArray} (h:RdS w v l) (hb:Below B w w') (hB:w.heap.size<=B):RdS w' v l:=by
  rcases h with h | ⟨b,off,cap,h0,hv,h1,h2,h3,h4⟩
  · exact .inl h
  · exact .inr ⟨b,off,cap,h0,hv,h1,h2,by have:=hb.size;omega,fun i hi=>(hb.cell (p:=⟨b,off+i,none⟩) (by show b < B;omega)).trans (h4 i hi)⟩
def OwnS (base:Nat) (w:World) (v:Value) (l:List ByteArray):Prop:=w.ownsRow base 9 1 v l.length (l.map Value.string)
theorem OwnS.rd {base:Nat} {w:World} {v:Value} {l:List ByteArray} (h:OwnS base w v l):RdS w v l:=by
  rcases h.2 with ⟨hv,hn⟩ | ⟨g,cap,cur,hv,hb,hg,hnc,hcm,hcs,ht⟩
  · exact .inl ⟨none,0,hv,List.length_eq_zero_iff.1 hn,fun _=>rfl⟩
  · by_cases hl:l=[]
    · subst hl;exact .inl ⟨_,_,hv,rfl,fun h=>by cases h⟩
    · refine .inr ⟨g,0,cap,hl,hv,hnc,hcm,?_,?_⟩
      · exact (Array.getElem?_eq_some_iff.1 hg).1
      · intro i hi
        have h':w.ownsRow base 9 1 (.slice (some ⟨g,0,none⟩) l.length cap) l.length (l.map Value.string):=hv ▸ h
        rw [show 0+i=i from by omega,h'.cellAt i (by omega)]
        simp [hi]
theorem Tryz.infoStr:(Tryz.prog.info? 9).map (fun i=>(i.zero,i.size,i.bytes))=some (some (.string ByteArray.empty),1,16):=by kernel_rfl
theorem gen_set {α:Type} (M l:List α) (f:α->Value) (j:Nat) (hM:M.length=l.length) (h:j < M.length):((M.take j ++ l.drop j).map f).set j (f M[j])=(M.take (j+1) ++ l.drop (j+1)).map f:=by
  rw [List.take_succ_eq_append_getElem h,List.drop_eq_getElem_cons (show j < l.length from by omega)]
  simp only [List.map_append,List.map_cons,List.append_assoc,List.singleton_append]
  rw [List.set_append_right _ _ (by simp;omega)]
  simp [show min j M.length=j from by omega]
theorem bytes_ne {a b:ByteArray} (h:a ≠ b):(a.toList == b.toList)=false:=by
  rw [beq_eq_false_iff_ne]
  intro e
  rw [ByteArray.toList_eq,ByteArray.toList_eq] at e
  exact h (ByteArray.ext (Array.toList_inj.1 e))
abbrev Ac:=ByteArray × Int × Int × Int × List (Int × Int)
def acV (a:Ac) (lv:Value):Value:=.agg #[.string a.1,.int .i64 a.2.1,.int .i64 a.2.2.1,.int .i64 a.2.2.2.1,lv]
theorem toAcct_any (a:Ac) (lv:Value) (w:World) (hr:RdL w lv a.2.2.2.2) (hl:a.2.2.2.2.length<=4000000) :
    Calls Tryz.prog 52 #[acV a lv] w fun e w'=>∃ lv',e=.returned (acV a lv')/\OwnL w.heap.size w' lv' a.2.2.2.2/\Below w.heap.size w w':=by
  obtain ⟨nm,fr,no,st,ls⟩:=a
  obtain ⟨av,cv,rfl⟩:=hr.shape
  have Hr:=hide hr
  clear hr
  simp only [acV] at *
  go_enter Tryz.func52,Tryz.ntmps52
  have HB0:=hide ((((Below.refl _ w).alloc (Nat.le_refl _) (.cells #[.string nm,.int .i64 fr,.int .i64 no,.int .i64 st,.slice av ls.length cv] 82)).alloc (by simp) (.cells #[.string { data:=#[] },.int .i64 0,.int .i64 0,.int .i64 0,.slice none 0 0] 53)).alloc (by simp;omega) (.cells #[.string nm,.int .i64 fr,.int .i64 no,.int .i64 st,.slice none 0 0] 53))
  go_wp2_with fail
  refine (toLeaveS_any _ ls _ (Hr.out.below HB0.out (Nat.le_refl _)) hl).mono ?_
  rintro e w4 ⟨lv',rfl,ho4,hb4⟩
  have hk:=(Blk.new ((w.alloc (.cells #[.string nm,.int .i64 fr,.int .i64 no,.int .i64 st,.slice av ls.length cv] 82)).alloc (.cells #[.string { data:=#[] },.int .i64 0,.int .i64 0,.int .i64 0,.slice none 0 0] 53)) 53 [.string nm,.int .i64 fr,.int .i64 no,.int .i64 st,.slice none 0 0]).below hb4 (by simp)
  simp only [World.size_alloc] at hk
  have c0:=hk.cell 0
  have c1:=hk.cell 1
  have c2:=hk.cell 2
  have c3:=hk.cell 3
  have c4:=hk.cell 4
  have f4:=hk.frozen 4
  simp only [List.getElem?_cons_zero,List.getElem?_cons_succ] at c0 c1 c2 c3 c4
  have hk1:=(Blk.below (Blk.new (w.alloc (.cells #[.string nm,.int .i64 fr,.int .i64 no,.int .i64 st,.slice av ls.length cv] 82)) 53 [.string { data:=#[] },.int .i64 0,.int .i64 0,.int .i64 0,.slice none 0 0]) ((Below.refl _ _).alloc (Nat.le_refl _) (.cells #[.string nm,.int .i64 fr,.int .i64 no,.int .i64 st,.slice none 0 0] 53)) (by simp)).below hb4 (by simp)
  simp only [World.size_alloc] at hk1
  have d0:=hk1.cell 0
  have d1:=hk1.cell 1
  have d2:=hk1.cell 2
  have d3:=hk1.cell 3
  have d4:=hk1.cell 4
  have g0:=hk1.frozen 0
  have g1:=hk1.frozen 1
  have g2:=hk1.frozen 2
  have g3:=hk1.frozen 3
  have g4:=hk1.frozen 4
  simp only [List.getElem?_cons_zero,List.getElem?_cons_succ] at d0 d1 d2 d3 d4
  have ho4':OwnL w.heap.size w4 lv' ls:=ho4.mono (by simp;omega)
  have ge4:=ho4.ge
  obtain ⟨av',cv',rfl⟩:=ho4.rd.shape
  have Ho:=hide ho4'
  have Hb4:=hide (HB0.out.trans (hb4.mono (by simp;omega)))
  clear ho4 ho4' hb4 hk hk1 HB0
  go_wp2
  refine bodyPost_ret (v:=.agg #[.string nm,.int .i64 fr,.int .i64 no,.int .i64 st,.slice av' ls.length cv']) (by simp [results,Tryz.f52,go_sem,d0,d1,d2,d3,d4]) rfl ?_
  have n1:∀ k,(Value.slice av' ls.length cv').ownBlock=some k->k ≠ w.heap.size+1:=fun k hk=>by have:=ge4 k hk;simp at this;omega
  have n2:∀ k,(Value.slice av' ls.length cv').ownBlock=some k->k ≠ w.heap.size+1+1:=fun k hk=>by have:=ge4 k hk;simp at this;omega
  refine ⟨_,rfl,row_set (row_set (row_set (row_set (row_set (row_set Ho.out _ _ _ n2) _ _ _ n1) _ _ _ n1) _ _ _ n1) _ _ _ n1) _ _ _ n1,?_⟩
  exact (((((Hb4.out.setCell (p:=⟨w.heap.size+1+1,4,none⟩) (by show w.heap.size<=w.heap.size+1+1;omega) _).setCell (p:=⟨w.heap.size+1,0,none⟩) (by show w.heap.size<=w.heap.size+1;omega) _).setCell (p:=⟨w.heap.size+1,1,none⟩) (by show w.heap.size<=w.heap.size+1;omega) _).setCell (p:=⟨w.heap.size+1,2,none⟩) (by show w.heap.size<=w.heap.size+1;omega) _).setCell (p:=⟨w.heap.size+1,3,none⟩) (by show w.heap.size<=w.heap.size+1;omega) _).setCell (p:=⟨w.heap.size+1,4,none⟩) (by show w.heap.size<=w.heap.size+1;omega) _
theorem eqAcct_any (a b:Ac) (la lb:Value) (w:World) (hra:RdL w la a.2.2.2.2) (hrb:RdL w lb b.2.2.2.2) (hl1:a.2.2.2.2.length<=4000000) (hl2:b.2.2.2.2.length<=4000000) :
    Calls Tryz.prog 64 #[acV a la,acV b lb] w fun e w'=>e=.returned (.bool (decide (a=b)))/\Below w.heap.size w w':=by
  obtain ⟨n1,f1,o1,s1,l1⟩:=a
  obtain ⟨n2,f2,o2,s2,l2⟩:=b
  obtain ⟨av,ac,rfl⟩:=hra.shape
  obtain ⟨bv,bc,rfl⟩:=hrb.shape
  have HB:=hide (((Below.refl _ w).alloc (Nat.le_refl _) (.cells #[.string n1,.int .i64 f1,.int .i64 o1,.int .i64 s1,.slice av l1.length ac] 53)).alloc (by simp) (.cells #[.string n2,.int .i64 f2,.int .i64 o2,.int .i64 s2,.slice bv l2.length bc] 53))
  have Ha:=hide (hra.below HB.out (Nat.le_refl _))
  have Hb:=hide (hrb.below HB.out (Nat.le_refl _))
  clear hra hrb
  simp only [acV] at *
  by_cases h1:n1=n2
  · by_cases h2:f1=f2
    · by_cases h3:o1=o2
      · by_cases h4:s1=s2
        · subst h1 h2 h3 h4
          have Hd:Hid (decide (((n1,f1,o1,s1,l1):Ac)=(n1,f1,o1,s1,l2))=decide (l1=l2)):=hide (by simp)
          have HE:=hide (eqLeaveS_any _ _ l1 l2 _ Ha.out Hb.out hl1 hl2)
          by_cases hq:l1=l2
          · rw [decide_eq_true hq] at HE Hd
            clear hq
            go_enter Tryz.func64,Tryz.ntmps64
            go_wp2_with fail
            refine HE.out.mono ?_
            rintro e w3 ⟨rfl,hb3⟩
            have hB3:=HB.out.trans (hb3.mono HB.out.size)
            go_wp2
            go_ret
            exact ⟨ret_bool Hd.out.symm,hB3⟩
          · rw [decide_eq_false hq] at HE Hd
            clear hq
            go_enter Tryz.func64,Tryz.ntmps64
            go_wp2_with fail
            refine HE.out.mono ?_
            rintro e w3 ⟨rfl,hb3⟩
            have hB3:=HB.out.trans (hb3.mono HB.out.size)
            go_wp2
            go_ret
            exact ⟨ret_bool Hd.out.symm,hB3⟩
        · subst h1 h2 h3
          have Hd:Hid (decide (((n1,f1,o1,s1,l1):Ac)=(n1,f1,o1,s2,l2))=false):=hide (by rw [decide_eq_false];intro e;simp only [Prod.mk.injEq] at e;exact h4 e.2.2.2.1)
          have hq:(s1 != s2)=true:=by rw [bne_iff_ne];exact h4
          clear h4
          go_enter Tryz.func64,Tryz.ntmps64
          go_wp2
          go_ret
          exact ⟨ret_bool Hd.out.symm,HB.out⟩
      · subst h1 h2
        have Hd:Hid (decide (((n1,f1,o1,s1,l1):Ac)=(n1,f1,o2,s2,l2))=false):=hide (by rw [decide_eq_false];intro e;simp only [Prod.mk.injEq] at e;exact h3 e.2.2.1)
        have hq:(o1 != o2)=true:=by rw [bne_iff_ne];exact h3
        clear h3
        go_enter Tryz.func64,Tryz.ntmps64
        go_wp2
        go_ret
        exact ⟨ret_bool Hd.out.symm,HB.out⟩
    · subst h1
      have Hd:Hid (decide (((n1,f1,o1,s1,l1):Ac)=(n1,f2,o2,s2,l2))=false):=hide (by rw [decide_eq_false];intro e;simp only [Prod.mk.injEq] at e;exact h2 e.2.1)
      have hq:(f1 != f2)=true:=by rw [bne_iff_ne];exact h2
      clear h2
      go_enter Tryz.func64,Tryz.ntmps64
      go_wp2
      go_ret
      exact ⟨ret_bool Hd.out.symm,HB.out⟩
  · have Hd:Hid (decide (((n1,f1,o1,s1,l1):Ac)=(n2,f2,o2,s2,l2))=false):=hide (by rw [decide_eq_false];intro e;simp only [Prod.mk.injEq] at e;exact h1 e.1)
    have hq:=bytes_ne h1
    clear h1
    go_enter Tryz.func64,Tryz.ntmps64
    go_wp2
    go_ret
    exact ⟨ret_bool Hd.out.symm,HB.out⟩
def szAc (a:Ac) (m:Int):Int:=if m - a.1.size < 0 then -1 else if m - a.1.size - a.2.2.2.2.length < 0 then -1 else m - a.1.size - a.2.2.2.2.length
theorem szAcct_any (a:Ac) (la:Value) (m:Int) (w:World) (hr:RdL w la a.2.2.2.2) (hm0:0<=m) (hm:m<=100000000) (hn:a.1.size<=9223372036854775807) (hl:a.2.2.2.2.length<=9223372036854775807) :
    Calls Tryz.prog 46 #[acV a la,.int .i64 m] w fun e w'=>e=.returned (.int .i64 (szAc a m))/\Below w.heap.size w w':=by
  obtain ⟨n1,f1,o1,s1,l1⟩:=a
  obtain ⟨av,ac,rfl⟩:=hr.shape
  have HB:=hide ((Below.refl _ w).alloc (Nat.le_refl _) (.cells #[.string n1,.int .i64 f1,.int .i64 o1,.int .i64 s1,.slice av l1.length ac] 82))
  clear hr
  simp only [acV] at *
  have w1:IntKind.i64.wrap (m - (n1.size:Int))=m - n1.size:=by rw [IntKind.wrap_i64];omega
  by_cases h1:m - (n1.size:Int) < 0
  · have Hs:Hid (szAc (n1,f1,o1,s1,l1) m=-1):=hide (by unfold szAc;rw [if_pos h1])
    go_enter Tryz.func46,Tryz.ntmps46
    go_wp2
    go_ret
    exact ⟨ret_int Hs.out.symm,HB.out⟩
  · have w2:IntKind.i64.wrap (m - (n1.size:Int) - (l1.length:Int))=m - n1.size - l1.length:=by rw [IntKind.wrap_i64];omega
    by_cases h2:m - (n1.size:Int) - (l1.length:Int) < 0
    · have Hs:Hid (szAc (n1,f1,o1,s1,l1) m=-1):=hide (by unfold szAc;rw [if_neg h1,if_pos h2])
      go_enter Tryz.func46,Tryz.ntmps46
      go_wp2
      go_ret
      exact ⟨ret_int Hs.out.symm,HB.out⟩
    · have Hs:Hid (szAc (n1,f1,o1,s1,l1) m=m - n1.size - l1.length):=hide (by unfold szAc;rw [if_neg h1,if_neg h2])
      go_enter Tryz.func46,Tryz.ntmps46
      go_wp2
      go_ret
      exact ⟨ret_int Hs.out.symm,HB.out⟩
structure AcAt (w:World) (b o:Nat) (a:Ac) (lv:Value):Prop where
  c0:w.cell? ⟨b,o,none⟩=some (.string a.1)
  c1:w.cell? ⟨b,o+1,none⟩=some (.int .i64 a.2.1)
  c2:w.cell? ⟨b,o+2,none⟩=some (.int .i64 a.2.2.1)
  c3:w.cell? ⟨b,o+3,none⟩=some (.int .i64 a.2.2.2.1)
  c4:w.cell? ⟨b,o+4,none⟩=some lv
theorem AcAt.below {w w':World} {B b o:Nat} {a:Ac} {lv:Value} (h:AcAt w b o a lv) (hb:Below B w w') (hB:b < B):AcAt w' b o a lv :=
  ⟨(hb.cell (p:=⟨b,o,none⟩) hB).trans h.c0,(hb.cell (p:=⟨b,o+1,none⟩) hB).trans h.c1,(hb.cell (p:=⟨b,o+2,none⟩) hB).trans h.c2,(hb.cell (p:=⟨b,o+3,none⟩) hB).trans h.c3,(hb.cell (p:=⟨b,o+4,none⟩) hB).trans h.c4⟩
def RdA (w:World) (v:Value) (l:List Ac):Prop :=
  (∃ a cap,v=.slice a 0 cap/\l=[]/\(a=none->cap=0)) \/
  ∃ b off cap,l ≠ []/\v=.slice (some ⟨b,off,none⟩) l.length cap/\l.length<=cap/\cap<=maxLen/\b < w.heap.size /\
    ∀ i (h:i < l.length),∃ lv,AcAt w b (off+i * 5) l[i] lv/\RdL w lv l[i].2.2.2.2
theorem RdA.shape {w:World} {v:Value} {l:List Ac} (h:RdA w v l):∃ a cap,v=.slice a l.length cap:=by
  rcases h with ⟨a,cap,rfl,rfl,-⟩ | ⟨b,off,cap,h0,rfl,_⟩
  · exact ⟨a,cap,rfl⟩
  · exact ⟨_,cap,rfl⟩
theorem RdA.below {B:Nat} {w w':World} {v:Value} {l:List Ac} (h:RdA w v l) (hb:Below B w w') (hB:w.heap.size<=B):RdA w' v l:=by
  rcases h with h | ⟨b,off,cap,h0,hv,h1,h2,h3,h4⟩
  · exact .inl h
  · refine .inr ⟨b,off,cap,h0,hv,h1,h2,by have:=hb.size;omega,fun i hi=>?_⟩
    obtain ⟨lv,k1,k2⟩:=h4 i hi
    exact ⟨lv,k1.below hb (by omega),k2.below hb hB⟩
def acC (q:Ac × Value):List Value:=[.string q.1.1,.int .i64 q.1.2.1,.int .i64 q.1.2.2.1,.int .i64 q.1.2.2.2.1,q.2]
def acZ:List Value:=[.string { data:=#[] },.int .i64 0,.int .i64 0,.int .i64 0,.slice none 0 0]
theorem acM_sz (l:List (Ac × Value)):∀ x ∈ l.map acC,x.length=5:=fun x hx=>by obtain ⟨p,_,rfl⟩:=List.mem_map.1 hx;rfl
structure Lvs (base:Nat) (w:World) (g:Nat) (Z:List (Ac × Value)):Prop where
  own:∀ i (h:i < Z.length),OwnL base w Z[i].2 Z[i].1.2.2.2.2
  far:∀ i (h:i < Z.length) k,Z[i].2.ownBlock=some k->k ≠ g
  apart:∀ i j (hi:i < Z.length) (hj:j < Z.length),i ≠ j->∀ k,Z[i].2.ownBlock=some k->Z[j].2.ownBlock ≠ some k
def OwnA (base:Nat) (w:World) (v:Value) (l:List Ac):Prop :=
  ∃ (g cap:Nat) (Z:List (Ac × Value)),Z.map (·.1)=l/\v=.slice (some ⟨g,0,none⟩) l.length cap/\w.ownsRow base 53 5 v l.length (Z.map acC).flatten/\Lvs base w g Z
theorem OwnA.rd {base:Nat} {w:World} {v:Value} {l:List Ac} (h:OwnA base w v l):RdA w v l:=by
  obtain ⟨g,cap,Z,hZ,rfl,ho,hl⟩:=h
  have hlen:Z.length=l.length:=by rw [<- hZ];simp
  by_cases hn:l=[]
  · subst hn;exact .inl ⟨_,_,rfl,rfl,fun h=>by cases h⟩
  · rcases ho.2 with ⟨hv,_⟩ | ⟨g',cap',cur,hv,hb,hg,hnc,hcm,hcs,ht⟩
    · cases hv
    · simp only [Value.slice.injEq,Option.some.injEq,Addr.mk.injEq,and_true,true_and] at hv
      obtain ⟨rfl,rfl⟩:=hv
      refine .inr ⟨g,0,cap,hn,rfl,hnc,hcm,(Array.getElem?_eq_some_iff.1 hg).1,fun i hi=>?_⟩
      have hi':i < Z.length:=by omega
      have e:l[i]=Z[i].1:=by subst hZ;simp
      refine ⟨Z[i].2,?_,by rw [e];exact (hl.own i hi').rd⟩
      have cell:∀ j,j < 5->w.cell? ⟨g,0+i * 5+j,none⟩=(acC Z[i])[j]?:=fun j hj=>by
        rw [Nat.zero_add,ho.cellAt (i * 5+j) (by omega),flat_get 5 (Z.map acC) i j (by simpa using hi') (acM_sz Z) hj]
        simp
      rw [e]
      exact ⟨by have:=cell 0 (by omega);simpa [acC] using this,by have:=cell 1 (by omega);simpa [acC] using this,by have:=cell 2 (by omega);simpa [acC] using this,by have:=cell 3 (by omega);simpa [acC] using this,by have:=cell 4 (by omega);simpa [acC] using this⟩
theorem Lvs.below {B base:Nat} {w w':World} {g:Nat} {Z:List (Ac × Value)} (h:Lvs base w g Z) (hb:Below B w w') (hB:w.heap.size<=B):Lvs base w' g Z :=
  ⟨fun i hi=>(h.own i hi).below hb hB,h.far,h.apart⟩
theorem Lvs.set {base:Nat} {w:World} {g:Nat} {Z:List (Ac × Value)} (h:Lvs base w g Z) (j:Nat) (u:Value):Lvs base (w.setCell ⟨g,j,none⟩ u) g Z :=
  ⟨fun i hi=>row_set (h.own i hi) g j u (h.far i hi),h.far,h.apart⟩
theorem Lvs.snoc {base:Nat} {w:World} {g:Nat} {Z:List (Ac × Value)} (h:Lvs base w g Z) (q:Ac × Value) (ho:OwnL base w q.2 q.1.2.2.2.2) (hf:∀ k,q.2.ownBlock=some k->k ≠ g)
    (hn:∀ i (hi:i < Z.length) k,Z[i].2.ownBlock=some k->q.2.ownBlock ≠ some k):Lvs base w g (Z ++ [q]):=by
  have at1:∀ i (hi:i < (Z ++ [q]).length),(∃ h':i < Z.length,(Z ++ [q])[i]=Z[i])\/(i=Z.length/\(Z ++ [q])[i]=q):=fun i hi=>by
    by_cases h':i < Z.length
    · exact .inl ⟨h',List.getElem_append_left h'⟩
    · have e:i=Z.length:=by simp at hi;omega
      subst e
      exact .inr ⟨rfl,by simp⟩
  refine ⟨fun i hi=>?_,fun i hi k hk=>?_,fun i j hi hj hij k hk=>?_⟩
  · rcases at1 i hi with ⟨h',e⟩ | ⟨_,e⟩
    · rw [e];exact h.own i h'
    · rw [e];exact ho
  · rcases at1 i hi with ⟨h',e⟩ | ⟨_,e⟩
    · rw [e] at hk;exact h.far i h' k hk
    · rw [e] at hk;exact hf k hk
  · rcases at1 i hi with ⟨h',e⟩ | ⟨ei,e⟩ <;> rcases at1 j hj with ⟨h2,e2⟩ | ⟨ej,e2⟩
    · rw [e] at hk;rw [e2];exact h.apart i j h' h2 hij k hk
    · rw [e] at hk;rw [e2];exact hn i h' k hk
    · rw [e] at hk;rw [e2];exact fun e3=>hn j h2 k e3 hk
    · omega
theorem Tryz.infoAc:(Tryz.prog.info? 53).map (fun i=>(i.zero,i.size,i.bytes))=some (some (.agg #[.string { data:=#[] },.int .i64 0,.int .i64 0,.int .i64 0,.slice none 0 0]),5,64):=by kernel_rfl
theorem toAcctS_any (v:Value) (l:List Ac) (w:World) (hr:RdA w v l) (hl:l.length<=4000000) (hall:∀ a ∈ l,a.2.2.2.2.length<=4000000) :
    Calls Tryz.prog 23 #[v] w fun e w'=>∃ v',e=.returned v'/\OwnA w.heap.size w' v' l/\Below w.heap.size w w':=by
  obtain ⟨i0,hi,hz0,hz1,hz2⟩:=info_parts Tryz.infoAc
  rcases hr with ⟨a,cap,rfl,rfl,-⟩ | ⟨b,off,cap,h0,rfl,h1,h2,h3,h4⟩
  · go_enter Tryz.func23,Tryz.ntmps23
    go_wp2_with (refine wpList_make_full _ rfl _ _ 28 rfl w.heap.size 53 i0 (.agg #[.string { data:=#[] },.int .i64 0,.int .i64 0,.int .i64 0,.slice none 0 0]) 5 Tryz.underlying28 hi hz0 hz1 .i64 .i64 _ _ 0 rfl rfl rfl rfl (by omega) (by unfold maxLen;omega) (Nat.le_refl _) ?_;intro w1 hown hgrow)
    have hb1:Below w.heap.size w w1:=(Below.refl _ _).grown hgrow (Nat.le_refl _) (by intro k hk;cases hk)
    refine wp_loop_rounds 1 ?_
    rw [rounds_succ]
    go_wp2
    go_ret
    have ho':OwnA w.heap.size w1 (.slice (some ⟨w.heap.size,0,none⟩) 0 0) []:=by
      have e:=made_flat (Value.agg #[.string { data:=#[] },.int .i64 0,.int .i64 0,.int .i64 0,.slice none 0 0]).cells 5 0 rfl (by omega)
      rw [e] at hown
      exact ⟨_,_,[],rfl,rfl,hown,⟨fun i h=>by simp at h,fun i h=>by simp at h,fun i j h=>by simp at h⟩⟩
    exact ⟨_,rfl,ho',hb1⟩
  · go_enter Tryz.func23,Tryz.ntmps23
    go_wp2_with (refine wpList_make_full _ rfl _ _ 28 rfl w.heap.size 53 i0 (.agg #[.string { data:=#[] },.int .i64 0,.int .i64 0,.int .i64 0,.slice none 0 0]) 5 Tryz.underlying28 hi hz0 hz1 .i64 .i64 _ _ l.length rfl rfl rfl rfl (by rw [hz2];omega) (by unfold maxLen;omega) (Nat.le_refl _) ?_;intro w1 hown hgrow)
    have hb1:Below w.heap.size w w1:=(Below.refl _ _).grown hgrow (Nat.le_refl _) (by intro k hk;cases hk)
    go_loopw [4] (fun i wr=>∃ (k:Nat) (Z:List (Ac × Value)),k<=l.length/\i=.int .i64 k/\Z.map (·.1)=l.take k/\wr.ownsRow w.heap.size 53 5 (.slice (some ⟨w.heap.size,0,none⟩) l.length l.length) l.length (prt (Z.map acC) acZ l.length).flatten/\Lvs w.heap.size wr w.heap.size Z/\Below w.heap.size w wr)
      (fun i _=>l.length - (intOf i).toNat)
    case atStart =>
      refine ⟨0,[],Nat.zero_le _,rfl,rfl,?_,⟨fun i h=>by simp at h,fun i h=>by simp at h,fun i j h=>by simp at h⟩,hb1⟩
      rw [List.map_nil,prt_zero]
      have e:=made_flat (Value.agg #[.string { data:=#[] },.int .i64 0,.int .i64 0,.int .i64 0,.slice none 0 0]).cells 5 l.length rfl (by omega)
      rw [e] at hown
      exact hown
    case round =>
      obtain ⟨k,Z,hk,rfl,hZ,ho,hlv,hb⟩:=hrel
      clear hown hgrow hb1
      have hZl:(Z.map acC).length=k:=by have:=congrArg List.length hZ;simp at this;simp;omega
      by_cases hlt:k < l.length
      · obtain ⟨lv,hat,hrl⟩:=h4 k hlt
        have hshape:=hrl.shape
        have hat:=hat.below hb h3
        obtain ⟨c0,c1,c2,c3,c4⟩:=hat
        have hli:(k:Int) < (l.length:Int):=by omega
        have psz:=prt_sz 5 (Z.map acC) acZ l.length (acM_sz Z) rfl
        have plen:=prt_len (Z.map acC) acZ l.length (by omega)
        have Hg:Hid (∀ j,j < 5->(prt (Z.map acC) acZ l.length).flatten[k * 5+j]?=acZ[j]?):=hide (fun j hj=>by
          rw [flat_get 5 _ k j (by rw [plen];exact hlt) psz hj,prt_at _ _ _ k hZl.symm hlt])
        have HT:=hide (toAcct_any l[k] lv wr (hrl.below hb (Nat.le_refl _)) (hall l[k] (List.getElem_mem _)))
        have Hput:Hid (∀ lv':Value,((((((prt (Z.map acC) acZ l.length).flatten.set (k * 5) (.string l[k].1)).set (k * 5+1) (.int .i64 l[k].2.1)).set (k * 5+2) (.int .i64 l[k].2.2.1)).set (k * 5+3) (.int .i64 l[k].2.2.2.1)).set (k * 5+4) lv')=(prt ((Z ++ [(l[k],lv')]).map acC) acZ l.length).flatten):=hide (fun lv'=>by
          rw [flat_put5 _ k _ _ _ _ _ (by rw [plen];exact hlt) psz,prt_next _ _ _ _ k hZl.symm hlt,List.map_append]
          rfl)
        have HZ2:Hid (∀ lv':Value,(Z ++ [(l[k],lv')]).map (·.1)=l.take (k+1)):=hide (fun lv'=>by rw [List.map_append,hZ,List.take_succ_eq_append_getElem hlt];rfl)
        have Hlv:=hide hlv
        have hgl:w.heap.size < wr.heap.size:=(World.ownsRow.lt ho w.heap.size rfl).2
        have hZlen:Z.length=k:=by simpa using hZl
        clear h4 hlv hrl psz plen hZl hZ hall
        generalize l[k]=ak at c0 c1 c2 c3 HT Hput HZ2 hshape
        obtain ⟨nm,fr,no,st,ls⟩:=ak
        simp only [acV] at c0 c1 c2 c3 HT Hput HZ2
        obtain ⟨av,cv,rfl⟩:=hshape
        go_wp2_with (go_at_call 52;refine HT.out.mono ?_;rintro e w2 ⟨lv',rfl,ho',hb2⟩;obtain ⟨av',cv',rfl⟩:=ho'.rd.shape;have ho2:=row_below ho hb2 (Nat.le_refl _);have q0:=ho2.cellAt (k * 5) (by omega);have q1:=ho2.cellAt (k * 5+1) (by omega);have q2:=ho2.cellAt (k * 5+2) (by omega);have q3:=ho2.cellAt (k * 5+3) (by omega);have q4:=ho2.cellAt (k * 5+4) (by omega);have f0:=ho2.frozenAt (k * 5);have f1:=ho2.frozenAt (k * 5+1);have f2:=ho2.frozenAt (k * 5+2);have f3:=ho2.frozenAt (k * 5+3);have f4:=ho2.frozenAt (k * 5+4);rw [<- Nat.add_zero (k * 5),Hg.out 0 (by omega)] at q0;rw [Hg.out 1 (by omega)] at q1;rw [Hg.out 2 (by omega)] at q2;rw [Hg.out 3 (by omega)] at q3;rw [Hg.out 4 (by omega)] at q4;rw [Nat.add_zero] at q0;simp only [acZ,List.getElem?_cons_zero,List.getElem?_cons_succ] at q0 q1 q2 q3 q4)
        have n1:∀ k,(Value.slice av' ls.length cv').ownBlock=some k->k ≠ w.heap.size:=fun k hk=>by have:=ho'.ge k hk;omega
        have HL:Lvs w.heap.size w2 w.heap.size (Z ++ [((nm,fr,no,st,ls),.slice av' ls.length cv')]):=(Hlv.out.below hb2 (Nat.le_refl _)).snoc _ (ho'.mono hb.size) n1 (fun i hi k hk e=>by have:=(Hlv.out.own i hi).lt k hk;have:=ho'.ge k e;omega)
        go_roundw
        case rel =>
          refine ⟨k+1,Z ++ [((nm,fr,no,st,ls),.slice av' ls.length cv')],by omega,by go_num,HZ2.out _,?_,((((HL.set _ _).set _ _).set _ _).set _ _).set _ _,?_⟩
          · have s1:=(ho2.stored (k * 5) (.string nm)).1
            have s2:=(s1.stored (k * 5+1) (.int .i64 fr)).1
            have s3:=(s2.stored (k * 5+2) (.int .i64 no)).1
            have s4:=(s3.stored (k * 5+3) (.int .i64 st)).1
            have s5:=(s4.stored (k * 5+4) (.slice av' ls.length cv')).1
            rw [Hput.out] at s5
            exact s5
          · exact (((((hb.trans (hb2.mono hb.size)).setCell (p:=⟨w.heap.size,k * 5,none⟩) (Nat.le_refl _) _).setCell (p:=⟨w.heap.size,k * 5+1,none⟩) (Nat.le_refl _) _).setCell (p:=⟨w.heap.size,k * 5+2,none⟩) (Nat.le_refl _) _).setCell (p:=⟨w.heap.size,k * 5+3,none⟩) (Nat.le_refl _) _).setCell (p:=⟨w.heap.size,k * 5+4,none⟩) (Nat.le_refl _) _
        case measure=>simp [intOf];omega
      · have e:k=l.length:=by omega
        subst e
        rw [prt_all _ _ _ hZl] at ho
        rw [List.take_length] at hZ
        go_wp2
        go_ret
        exact ⟨_,rfl,⟨_,_,Z,hZ,rfl,ho,hlv⟩,hb⟩
end Go.Proofs.YthidkbhiikdokaaGreat
namespace Go.Proofs.YthidkbhiikdokaaGreat
open Go.RowKit Go.ChangeShapes Go.WideShapes
set_option linter.unusedVariables false
section
variable {H:Type} {enc:TypeId × Value->H} {w:World} {base:Nat} {spare:Nat->Bool} {held:Bool}
theorem add_plain' (b off i:Nat):(⟨b,off,none⟩:Addr).add i=⟨b,off+i,none⟩:=by
  by_cases hz:i=0
  · subst hz;simp [Addr.add]
  · simp [Addr.add,hz]
theorem open_lvs {fuel:Nat} {cs:List Value} {x:DataW H × List MemPlace} (h:DataW.trod enc Tryz.prog w base spare held fuel 80 cs=some x) :
    ∃ v ls,cs=[v]/\RdL w v ls/\ls.length<=maxLen:=by
  rcases Deep.open_slice_pairs Tryz.underlying80 Tryz.underlying142 (by kernel_rfl) rfl rfl (by kernel_rfl) (by kernel_rfl) h with ⟨rfl,_⟩ | ⟨a,len,cap,m,n,V0,V1,D0,D1,P0,P1,rfl,hb,hl,hm,hmm,hx,hel⟩
  · exact ⟨_,[],rfl,.inl ⟨_,_,rfl,rfl,fun _=>rfl⟩,by simp⟩
  · have hlm:len<=m:=by rw [hmm];split <;> omega
    by_cases h0:len=0
    · subst h0;exact ⟨_,[],rfl,.inl ⟨_,_,rfl,rfl,fun h=>by cases h⟩,by simp⟩
    · obtain ⟨b,off,spot⟩:=a
      have hc0:=(hel 0 (by omega)).1
      have hspot:spot=none:=by simpa [Addr.add] using World.cell?_spot hc0
      subst hspot
      have hlen:((List.range len).map (fun i=>(intOf (V0 i),intOf (V1 i)))).length=len:=by simp
      refine ⟨_,(List.range len).map (fun i=>(intOf (V0 i),intOf (V1 i))),rfl,.inr ⟨b,off,cap,?_,by rw [hlen],by omega,hm,?_,?_⟩,by omega⟩
      · intro e;rw [e] at hlen;simp at hlen;omega
      · have:=World.block_lt_of_cell? w _ hc0;simpa [Addr.add] using this
      · intro i hi
        rw [hlen] at hi
        obtain ⟨e0,e1,t0,t1⟩:=hel i (by omega)
        obtain ⟨z0,q0,_⟩:=DataW.trod_int Tryz.underlying3 t0
        obtain ⟨z1,q1,_⟩:=DataW.trod_int Tryz.underlying3 t1
        rw [add_plain'] at e0 e1
        simp only [List.cons.injEq,and_true] at q0 q1
        rw [q0] at e0
        rw [q1] at e1
        simp only [List.getElem_map,List.getElem_range,q0,q1,intOf]
        exact ⟨e0,by rw [<- e1,Nat.add_assoc]⟩
theorem open_acc {fuel:Nat} {cs:List Value} {x:DataW H × List MemPlace} (h:DataW.trod enc Tryz.prog w base spare held fuel 82 cs=some x) :
    ∃ (a:Ac) (lv:Value),cs=[.string a.1,.int .i64 a.2.1,.int .i64 a.2.2.1,.int .i64 a.2.2.2.1,lv]/\RdL w lv a.2.2.2.2/\a.1.size<=maxLen/\a.2.2.2.2.length<=maxLen:=by
  obtain ⟨xs,n,_,_,hlen,hxl,hf⟩:=DataW.trod_struct Tryz.underlying82 h
  have h5:cs.length=5:=hlen.trans (by kernel_rfl)
  have hx5:xs.length=5:=hxl
  match cs,h5,xs,hx5 with
  | [c0,c1,c2,c3,c4],_,[y0,y1,y2,y3,y4],_ =>
    have ks:Tryz.prog.cellsOf 9=1:=by kernel_rfl
    have ki:Tryz.prog.cellsOf 3=1:=by kernel_rfl
    have kl:Tryz.prog.cellsOf 80=1:=by kernel_rfl
    have g0:DataW.trod enc Tryz.prog w base spare held n 9 [c0]=some y0:=by
      have e:=hf 0 _ rfl
      change DataW.trod enc Tryz.prog w base spare held n 9 (List.take (Tryz.prog.cellsOf 9) [c0,c1,c2,c3,c4])=some y0 at e
      rw [ks] at e
      exact e
    have g1:DataW.trod enc Tryz.prog w base spare held n 3 [c1]=some y1:=by
      have e:=hf 1 _ rfl
      change DataW.trod enc Tryz.prog w base spare held n 3 (List.take (Tryz.prog.cellsOf 3) [c1,c2,c3,c4])=some y1 at e
      rw [ki] at e
      exact e
    have g2:DataW.trod enc Tryz.prog w base spare held n 3 [c2]=some y2:=by
      have e:=hf 2 _ rfl
      change DataW.trod enc Tryz.prog w base spare held n 3 (List.take (Tryz.prog.cellsOf 3) [c2,c3,c4])=some y2 at e
      rw [ki] at e
      exact e
    have g3:DataW.trod enc Tryz.prog w base spare held n 3 [c3]=some y3:=by
      have e:=hf 3 _ rfl
      change DataW.trod enc Tryz.prog w base spare held n 3 (List.take (Tryz.prog.cellsOf 3) [c3,c4])=some y3 at e
      rw [ki] at e
      exact e
    have g4:DataW.trod enc Tryz.prog w base spare held n 80 [c4]=some y4:=by
      have e:=hf 4 _ rfl
      change DataW.trod enc Tryz.prog w base spare held n 80 (List.take (Tryz.prog.cellsOf 80) [c4])=some y4 at e
      rw [kl] at e
      exact e
    obtain ⟨s,e0,_,hs⟩:=DataW.trod_string Tryz.underlying9 g0
    obtain ⟨z1,e1,_⟩:=DataW.trod_int Tryz.underlying3 g1
    obtain ⟨z2,e2,_⟩:=DataW.trod_int Tryz.underlying3 g2
    obtain ⟨z3,e3,_⟩:=DataW.trod_int Tryz.underlying3 g3
    obtain ⟨v,ls,e4,hr,hl⟩:=open_lvs g4
    simp only [List.cons.injEq,and_true] at e0 e1 e2 e3 e4
    subst e0 e1 e2 e3 e4
    exact ⟨(s,z1,z2,z3,ls),c4,rfl,hr,hs,hl⟩
theorem open_accS {fuel:Nat} {a:Option Addr} {len cap:Nat} {x:DataW H × List MemPlace} (h:DataW.trod enc Tryz.prog w base spare held fuel 22 [.slice a len cap]=some x) :
    ∃ l:List Ac,len=l.length/\RdA w (.slice a len cap) l/\l.length<=maxLen/\∀ q ∈ l,q.1.size<=maxLen/\q.2.2.2.2.length<=maxLen:=by
  rcases Deep.open_slice Tryz.underlying22 h with ⟨hcs,_⟩ | ⟨ad,len',cap',m,n,D,Pl,hcs,hb,hl,hm,hmm,hx,hel⟩
  · simp at hcs
    obtain ⟨rfl,rfl,rfl⟩:=hcs
    exact ⟨[],rfl,.inl ⟨_,_,rfl,rfl,fun _=>rfl⟩,by simp,by simp⟩
  · simp at hcs
    obtain ⟨rfl,rfl,rfl⟩:=hcs
    have hlm:len<=m:=by rw [hmm];split <;> omega
    by_cases h0:len=0
    · subst h0;exact ⟨[],rfl,.inl ⟨_,_,rfl,rfl,fun h=>by cases h⟩,by simp,by simp⟩
    · obtain ⟨b,off,spot⟩:=ad
      rw [show Tryz.prog.cellsOf 82=5 from by kernel_rfl] at hel
      have each:∀ i,i < m->∃ q:Ac × Value,w.cells? base ((⟨b,off,spot⟩:Addr).add (i * 5)) 5=some [.string q.1.1,.int .i64 q.1.2.1,.int .i64 q.1.2.2.1,.int .i64 q.1.2.2.2.1,q.2]/\RdL w q.2 q.1.2.2.2.2/\q.1.1.size<=maxLen/\q.1.2.2.2.2.length<=maxLen:=fun i hi=>by
        obtain ⟨cs',h1,h2⟩:=hel i hi
        obtain ⟨qa,lv,rfl,k1,k2,k3⟩:=open_acc h2
        exact ⟨(qa,lv),h1,k1,k2,k3⟩
      obtain ⟨q,hq⟩:=Deep.choose_lt each
      have c0:∀ i,i < m->∀ j,j < 5->w.cell? (((⟨b,off,spot⟩:Addr).add (i * 5)).add j)=(acC (q i))[j]?:=fun i hi=>(World.cells?_some (hq i hi).1).2.2
      have hc0:=c0 0 (by omega) 0 (by omega)
      have hspot:spot=none:=by simpa [Addr.add] using World.cell?_spot hc0
      subst hspot
      have hlen:((List.range len).map (fun i=>(q i).1)).length=len:=by simp
      refine ⟨(List.range len).map (fun i=>(q i).1),hlen.symm,.inr ⟨b,off,cap,?_,by rw [hlen],by omega,hm,?_,?_⟩,by omega,?_⟩
      · intro e;rw [e] at hlen;simp at hlen;omega
      · have:=World.block_lt_of_cell? w _ hc0;simpa [Addr.add] using this
      · intro i hi
        rw [hlen] at hi
        refine ⟨(q i).2,?_,by simpa using (hq i (by omega)).2.1⟩
        have cc:∀ j,j < 5->w.cell? ⟨b,off+i * 5+j,none⟩=(acC (q i))[j]?:=fun j hj=>by
          have:=c0 i (by omega) j hj
          rwa [add_plain',add_plain'] at this
        simp only [List.getElem_map,List.getElem_range]
        exact ⟨by have:=cc 0 (by omega);simpa [acC] using this,by have:=cc 1 (by omega);simpa [acC] using this,by have:=cc 2 (by omega);simpa [acC] using this,by have:=cc 3 (by omega);simpa [acC] using this,by have:=cc 4 (by omega);simpa [acC] using this⟩
      · intro z hz
        obtain ⟨i,hi,rfl⟩:=List.mem_map.1 hz
        exact (hq i (by have:=List.mem_range.1 hi;omega)).2.2
end
end Go.Proofs.YthidkbhiikdokaaGreat
