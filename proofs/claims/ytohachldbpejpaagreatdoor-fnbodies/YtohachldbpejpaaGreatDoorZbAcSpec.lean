/- The model's AcctAt, l4Of and Wealth. -/
import Derived.Test.YtohachldbpejpaaGreatDoorZbCtVal
import Derived.Laws.IdiomStrings
import Derived.Deep.RegionHeldLaw
set_option maxRecDepth 20000
set_option maxHeartbeats 1000000
namespace Go.Proofs.YtohachldbpejpaaGreatDoor
open Go.RowKit
set_option linter.unusedVariables false
def dg:Nat->Nat->List UInt8->List UInt8
  | 0,_,acc=>acc
  | f+1,k,acc=>if k=0 then acc else dg f (k / 10) (UInt8.ofNat (48+k % 10) :: acc)
def mtx (k:Nat):ByteArray:=⟨(109 :: dg k k []).toArray⟩
def mkS (k n:Nat):List ByteArray:=(List.range n).map (fun i=>mtx (k+i))
theorem grownS_trans {a b c:World} {row:Option Nat} (h:a.grownBy b row) (k:b.grownBy c row):a.grownBy c row :=
  ⟨k.os.trans h.os,k.tape.trans h.tape,k.output.trans h.output,Nat.le_trans h.size k.size,fun i hi hr=>(k.block i (Nat.lt_of_lt_of_le hi h.size) hr).trans (h.block i hi hr)⟩
def RdL (w:World) (v:Value) (l:List (Int × Int)):Prop :=
  (∃ a cap,v=.slice a 0 cap/\l=[]/\(a=none->cap=0)) \/
  ∃ b off cap,l ≠ []/\v=.slice (some ⟨b,off,none⟩) l.length cap/\l.length<=cap/\cap<=maxLen/\b < w.heap.size /\
    ∀ i (h:i < l.length),w.cell? ⟨b,off+i * 2,none⟩=some (.int .i64 l[i].1)/\w.cell? ⟨b,off+i * 2+1,none⟩=some (.int .i64 l[i].2)
theorem RdL.shape {w:World} {v:Value} {l:List (Int × Int)} (h:RdL w v l):∃ a cap,v=.slice a l.length cap:=by
  rcases h with ⟨a,cap,rfl,rfl,-⟩ | ⟨b,off,cap,h0,rfl,_⟩
  · exact ⟨a,cap,rfl⟩
  · exact ⟨_,cap,rfl⟩
theorem RdL.below {B:Nat} {w w':World} {v:Value} {l:List (Int × Int)} (h:RdL w v l) (hb:Below B w w') (hB:w.heap.size<=B):RdL w' v l:=by
  rcases h with h | ⟨b,off,cap,h0,hv,h1,h2,h3,h4⟩
  · exact .inl h
  · exact .inr ⟨b,off,cap,h0,hv,h1,h2,by have:=hb.size;omega,fun i hi=>⟨(hb.cell (p:=⟨b,off+i * 2,none⟩) (by show b < B;omega)).trans (h4 i hi).1,(hb.cell (p:=⟨b,off+i * 2+1,none⟩) (by show b < B;omega)).trans (h4 i hi).2⟩⟩
def lvC (p:Int × Int):List Value:=[.int .i64 p.1,.int .i64 p.2]
def OwnL (base:Nat) (w:World) (v:Value) (l:List (Int × Int)):Prop:=w.ownsRow base 107 2 v l.length (l.map lvC).flatten
theorem Tryz.infoLv:(Tryz.prog.info? 107).map (fun i=>(i.zero,i.size,i.bytes))=some (some (.agg #[.int .i64 0,.int .i64 0]),2,16):=by kernel_rfl
theorem lvM_sz (l:List (Int × Int)):∀ x ∈ l.map lvC,x.length=2:=fun x hx=>by obtain ⟨p,_,rfl⟩:=List.mem_map.1 hx;rfl
theorem OwnL.rd {base:Nat} {w:World} {v:Value} {l:List (Int × Int)} (h:OwnL base w v l):RdL w v l:=by
  rcases h.2 with ⟨hv,hn⟩ | ⟨g,cap,cur,hv,hb,hg,hnc,hcm,hcs,ht⟩
  · exact .inl ⟨none,0,hv,List.length_eq_zero_iff.1 hn,fun _=>rfl⟩
  · by_cases hl:l=[]
    · subst hl;exact .inl ⟨_,_,hv,rfl,fun h=>by cases h⟩
    · refine .inr ⟨g,0,cap,hl,hv,hnc,hcm,(Array.getElem?_eq_some_iff.1 hg).1,?_⟩
      intro i hi
      have h':w.ownsRow base 107 2 (.slice (some ⟨g,0,none⟩) l.length cap) l.length (l.map lvC).flatten:=hv ▸ h
      have e0:=flat_get 2 (l.map lvC) i 0 (by simpa using hi) (lvM_sz l) (by omega)
      have e1:=flat_get 2 (l.map lvC) i 1 (by simpa using hi) (lvM_sz l) (by omega)
      rw [Nat.zero_add,h'.cellAt (i * 2) (by omega),h'.cellAt (i * 2+1) (by omega)]
      rw [Nat.add_zero] at e0
      rw [e0,e1]
      simp [lvC]
theorem OwnL.mono {base base':Nat} {w:World} {v:Value} {l:List (Int × Int)} (h:OwnL base w v l) (hB:base'<=base):OwnL base' w v l:=by
  refine ⟨h.1,?_⟩
  rcases h.2 with h' | ⟨g,cap,cur,hv,hbb,r⟩
  · exact .inl h'
  · exact .inr ⟨g,cap,cur,hv,by omega,r⟩
theorem OwnL.ge {base:Nat} {w:World} {v:Value} {l:List (Int × Int)} (h:OwnL base w v l):∀ k,v.ownBlock=some k->base<=k:=fun k hk=>(World.ownsRow.lt h k hk).1
theorem OwnL.lt {base:Nat} {w:World} {v:Value} {l:List (Int × Int)} (h:OwnL base w v l):∀ k,v.ownBlock=some k->k < w.heap.size:=fun k hk=>(World.ownsRow.lt h k hk).2
theorem OwnL.below {B base:Nat} {w w':World} {v:Value} {l:List (Int × Int)} (h:OwnL base w v l) (hb:Below B w w') (hB:w.heap.size<=B):OwnL base w' v l:=row_below h hb hB
theorem OwnL.kept {base:Nat} {w w':World} {v:Value} {l:List (Int × Int)} {row:Option Nat} (h:OwnL base w v l) (hg:w.grownBy w' row) (hne:v.ownBlock=none\/v.ownBlock ≠ row):OwnL base w' v l:=World.ownsRow.kept h hg hne
abbrev Ac:=ByteArray × Int × Int × Int × List (Int × Int)
def acV (a:Ac) (lv:Value):Value:=.agg #[.string a.1,.int .i64 a.2.1,.int .i64 a.2.2.1,.int .i64 a.2.2.2.1,lv]
def szAc (a:Ac) (m:Int):Int:=if m - a.1.size < 0 then -1 else if m - a.1.size - a.2.2.2.2.length < 0 then -1 else m - a.1.size - a.2.2.2.2.length
structure AcAt (w:World) (b o:Nat) (a:Ac) (lv:Value):Prop where
  c0:w.cell? ⟨b,o,none⟩=some (.string a.1)
  c1:w.cell? ⟨b,o+1,none⟩=some (.int .i64 a.2.1)
  c2:w.cell? ⟨b,o+2,none⟩=some (.int .i64 a.2.2.1)
  c3:w.cell? ⟨b,o+3,none⟩=some (.int .i64 a.2.2.2.1)
  c4:w.cell? ⟨b,o+4,none⟩=some lv
theorem AcAt.below {w w':World} {B b o:Nat} {a:Ac} {lv:Value} (h:AcAt w b o a lv) (hb:Below B w w') (hB:b < B):AcAt w' b o a lv :=
  ⟨(hb.cell (p:=⟨b,o,none⟩) hB).trans h.c0,(hb.cell (p:=⟨b,o+1,none⟩) hB).trans h.c1,(hb.cell (p:=⟨b,o+2,none⟩) hB).trans h.c2,(hb.cell (p:=⟨b,o+3,none⟩) hB).trans h.c3,(hb.cell (p:=⟨b,o+4,none⟩) hB).trans h.c4⟩
def RdA (w:World) (v:Value) (l:List Ac):Prop :=
  (∃ a cap,v=.slice a 0 cap/\l=[]/\(a=none->cap=0)) \/
  ∃ b off cap,l ≠ []/\v=.slice (some ⟨b,off,none⟩) l.length cap/\l.length<=cap/\cap<=maxLen/\b < w.heap.size /\
    ∀ i (h:i < l.length),∃ lv,AcAt w b (off+i * 5) l[i] lv/\RdL w lv l[i].2.2.2.2
theorem RdA.shape {w:World} {v:Value} {l:List Ac} (h:RdA w v l):∃ a cap,v=.slice a l.length cap:=by
  rcases h with ⟨a,cap,rfl,rfl,-⟩ | ⟨b,off,cap,h0,rfl,_⟩
  · exact ⟨a,cap,rfl⟩
  · exact ⟨_,cap,rfl⟩
theorem RdA.below {B:Nat} {w w':World} {v:Value} {l:List Ac} (h:RdA w v l) (hb:Below B w w') (hB:w.heap.size<=B):RdA w' v l:=by
  rcases h with h | ⟨b,off,cap,h0,hv,h1,h2,h3,h4⟩
  · exact .inl h
  · refine .inr ⟨b,off,cap,h0,hv,h1,h2,by have:=hb.size;omega,fun i hi=>?_⟩
    obtain ⟨lv,k1,k2⟩:=h4 i hi
    exact ⟨lv,k1.below hb (by omega),k2.below hb hB⟩
def acC (q:Ac × Value):List Value:=[.string q.1.1,.int .i64 q.1.2.1,.int .i64 q.1.2.2.1,.int .i64 q.1.2.2.2.1,q.2]
def acZ:List Value:=[.string { data:=#[] },.int .i64 0,.int .i64 0,.int .i64 0,.slice none 0 0]
theorem acM_sz (l:List (Ac × Value)):∀ x ∈ l.map acC,x.length=5:=fun x hx=>by obtain ⟨p,_,rfl⟩:=List.mem_map.1 hx;rfl
structure Lvs (base:Nat) (w:World) (g:Nat) (Z:List (Ac × Value)):Prop where
  own:∀ i (h:i < Z.length),OwnL base w Z[i].2 Z[i].1.2.2.2.2
  far:∀ i (h:i < Z.length) k,Z[i].2.ownBlock=some k->k ≠ g
  apart:∀ i j (hi:i < Z.length) (hj:j < Z.length),i ≠ j->∀ k,Z[i].2.ownBlock=some k->Z[j].2.ownBlock ≠ some k
def OwnA (base:Nat) (w:World) (v:Value) (l:List Ac):Prop :=
  ∃ (g cap:Nat) (Z:List (Ac × Value)),Z.map (·.1)=l/\v=.slice (some ⟨g,0,none⟩) l.length cap/\w.ownsRow base 105 5 v l.length (Z.map acC).flatten/\Lvs base w g Z
theorem OwnA.rd {base:Nat} {w:World} {v:Value} {l:List Ac} (h:OwnA base w v l):RdA w v l:=by
  obtain ⟨g,cap,Z,hZ,rfl,ho,hl⟩:=h
  have hlen:Z.length=l.length:=by rw [<- hZ];simp
  by_cases hn:l=[]
  · subst hn;exact .inl ⟨_,_,rfl,rfl,fun h=>by cases h⟩
  · rcases ho.2 with ⟨hv,_⟩ | ⟨g',cap',cur,hv,hb,hg,hnc,hcm,hcs,ht⟩
    · cases hv
    · simp only [Value.slice.injEq,Option.some.injEq,Addr.mk.injEq,and_true,true_and] at hv
      obtain ⟨rfl,rfl⟩:=hv
      refine .inr ⟨g,0,cap,hn,rfl,hnc,hcm,(Array.getElem?_eq_some_iff.1 hg).1,fun i hi=>?_⟩
      have hi':i < Z.length:=by omega
      have e:l[i]=Z[i].1:=by subst hZ;simp
      refine ⟨Z[i].2,?_,by rw [e];exact (hl.own i hi').rd⟩
      have cell:∀ j,j < 5->w.cell? ⟨g,0+i * 5+j,none⟩=(acC Z[i])[j]?:=fun j hj=>by
        rw [Nat.zero_add,ho.cellAt (i * 5+j) (by omega),flat_get 5 (Z.map acC) i j (by simpa using hi') (acM_sz Z) hj]
        simp
      rw [e]
      exact ⟨by have:=cell 0 (by omega);simpa [acC] using this,by have:=cell 1 (by omega);simpa [acC] using this,by have:=cell 2 (by omega);simpa [acC] using this,by have:=cell 3 (by omega);simpa [acC] using this,by have:=cell 4 (by omega);simpa [acC] using this⟩
theorem Lvs.below {B base:Nat} {w w':World} {g:Nat} {Z:List (Ac × Value)} (h:Lvs base w g Z) (hb:Below B w w') (hB:w.heap.size<=B):Lvs base w' g Z :=
  ⟨fun i hi=>(h.own i hi).below hb hB,h.far,h.apart⟩
theorem Lvs.set {base:Nat} {w:World} {g:Nat} {Z:List (Ac × Value)} (h:Lvs base w g Z) (j:Nat) (u:Value):Lvs base (w.setCell ⟨g,j,none⟩ u) g Z :=
  ⟨fun i hi=>row_set (h.own i hi) g j u (h.far i hi),h.far,h.apart⟩
theorem Lvs.snoc {base:Nat} {w:World} {g:Nat} {Z:List (Ac × Value)} (h:Lvs base w g Z) (q:Ac × Value) (ho:OwnL base w q.2 q.1.2.2.2.2) (hf:∀ k,q.2.ownBlock=some k->k ≠ g)
    (hn:∀ i (hi:i < Z.length) k,Z[i].2.ownBlock=some k->q.2.ownBlock ≠ some k):Lvs base w g (Z ++ [q]):=by
  have at1:∀ i (hi:i < (Z ++ [q]).length),(∃ h':i < Z.length,(Z ++ [q])[i]=Z[i])\/(i=Z.length/\(Z ++ [q])[i]=q):=fun i hi=>by
    by_cases h':i < Z.length
    · exact .inl ⟨h',List.getElem_append_left h'⟩
    · have e:i=Z.length:=by simp at hi;omega
      subst e
      exact .inr ⟨rfl,by simp⟩
  refine ⟨fun i hi=>?_,fun i hi k hk=>?_,fun i j hi hj hij k hk=>?_⟩
  · rcases at1 i hi with ⟨h',e⟩ | ⟨_,e⟩
    · rw [e];exact h.own i h'
    · rw [e];exact ho
  · rcases at1 i hi with ⟨h',e⟩ | ⟨_,e⟩
    · rw [e] at hk;exact h.far i h' k hk
    · rw [e] at hk;exact hf k hk
  · rcases at1 i hi with ⟨h',e⟩ | ⟨ei,e⟩ <;> rcases at1 j hj with ⟨h2,e2⟩ | ⟨ej,e2⟩
    · rw [e] at hk;rw [e2];exact h.apart i j h' h2 hij k hk
    · rw [e] at hk;rw [e2];exact hn i h' k hk
    · rw [e] at hk;rw [e2];exact fun e3=>hn j h2 k e3 hk
    · omega
theorem OwnA.below {B base:Nat} {w w':World} {v:Value} {l:List Ac} (h:OwnA base w v l) (hb:Below B w w') (hB:w.heap.size<=B):OwnA base w' v l:=by
  obtain ⟨g,cap,Z,hZ,hv,ho,hl⟩:=h
  exact ⟨g,cap,Z,hZ,hv,row_below ho hb hB,hl.below hb hB⟩
theorem Tryz.infoAc:(Tryz.prog.info? 105).map (fun i=>(i.zero,i.size,i.bytes))=some (some (.agg #[.string { data:=#[] },.int .i64 0,.int .i64 0,.int .i64 0,.slice none 0 0]),5,64):=by kernel_rfl
def atF (s:ByteArray):List Ac->Nat->Int
  | [],_=>-1
  | a :: l,n=>if a.1=s then (n:Int) else atF s l (n+1)
def atA (l:List Ac) (s:ByteArray):Int:=atF s l 0
theorem atF_found (s:ByteArray):∀ (l:List Ac) (n k:Nat) (h:k < l.length),l[k].1=s->(∀ j (hj:j < k),(l[j]'(by omega)).1 ≠ s)->atF s l n=((n+k:Nat):Int)
  | [],n,k,h,_,_=>by simp at h
  | a :: l,n,k,h,he,hn=>by
    cases k with
    | zero=>rw [atF,if_pos (by simpa using he)];simp
    | succ k =>
      have h0:¬ a.1=s:=hn 0 (by omega)
      rw [atF,if_neg h0,atF_found s l (n+1) k (by simpa using h) (by simpa using he) (fun j hj=>by have:=hn (j+1) (by omega);simpa using this)]
      omega
theorem atF_none (s:ByteArray):∀ (l:List Ac) (n:Nat),(∀ j (hj:j < l.length),l[j].1 ≠ s)->atF s l n=-1
  | [],n,_=>rfl
  | a :: l,n,hn=>by
    have h0:¬ a.1=s:=hn 0 (by simp)
    rw [atF,if_neg h0]
    exact atF_none s l (n+1) (fun j hj=>by have:=hn (j+1) (by simpa using hj);simpa using this)
theorem specAcctAt_any (v:Value) (l:List Ac) (s:ByteArray) (w:World) (hr:RdA w v l) (hl:l.length<=4000000) :
    Calls Tryz.prog 155 #[v,.string s] w fun e w'=>e=.returned (.int .i64 (atA l s))/\Below w.heap.size w w':=by
  rcases hr with ⟨a,cap,rfl,rfl,-⟩ | ⟨b,off,cap,h0,rfl,h1,h2,h3,h4⟩
  · go_enter Tryz.func155,Tryz.ntmps155
    go_wp2
    refine wp_loop_rounds 1 ?_
    rw [rounds_succ]
    go_wp2
    go_ret
    exact ⟨rfl,Below.refl _ _⟩
  · have H4 := hide h4
    clear h4
    go_enter Tryz.func155,Tryz.ntmps155
    go_wp2
    go_loopw [5] (fun i wr=>∃ k:Nat,k<=l.length/\i=.int .i64 k/\(∀ j (h:j < l.length),j < k->l[j].1 ≠ s)/\Below w.heap.size w wr) (fun i _=>l.length - (intOf i).toNat)
    case atStart=>exact ⟨0,Nat.zero_le _,rfl,fun j _ hj=>by omega,Below.refl _ _⟩
    case round =>
      obtain ⟨k,hk,rfl,hno,hb⟩:=hrel
      have Hno:=hide hno
      clear hno
      by_cases hlt:k < l.length
      · obtain ⟨lv,hat,hrl⟩:=H4.out k hlt
        have hc:=(hat.below hb h3).c0
        have hli:(k:Int) < (l.length:Int):=by omega
        clear hat hrl
        by_cases he:l[k].1=s
        · have Hr:Hid (atA l s=(k:Int)):=hide (by unfold atA;rw [atF_found s l 0 k hlt he (fun j hj=>Hno.out j (by omega) hj)];omega)
          rw [he] at hc
          clear he
          go_wp2
          go_ret
          exact ⟨ret_int Hr.out.symm,hb⟩
        · have Hn2:Hid (∀ j (h:j < l.length),j < k+1->l[j].1 ≠ s):=hide (fun j h hj=>by
            by_cases e:j=k
            · subst e;exact he
            · exact Hno.out j h (by omega))
          have hq:=bytes_ne he
          clear he Hno
          generalize l[k].1=t at hc hq
          go_wp2
          go_roundw
          case rel=>exact ⟨k+1,by omega,by go_num,Hn2.out,hb⟩
          case measure=>simp [intOf];omega
      · have Hr:Hid (atA l s=-1):=hide (by unfold atA;exact atF_none s l 0 (fun j hj=>Hno.out j hj (by omega)))
        go_wp2
        go_ret
        exact ⟨ret_int Hr.out.symm,hb⟩
def ofA (a:Ac):Int:=(a.2.2.2.2).foldl (fun s p=>wrap64 (s+p.1)) (wrap64 (a.2.1+a.2.2.2.1))
def wealthA (l:List Ac):Int:=l.foldl (fun s a=>wrap64 (s+ofA a)) 0
theorem fold_snoc {α β:Type} (f:β->α->β) (z:β) (l:List α) (k:Nat) (h:k < l.length):(l.take (k+1)).foldl f z=f ((l.take k).foldl f z) l[k]:=by
  rw [List.take_succ_eq_append_getElem h,List.foldl_append];rfl
theorem specOf_any (a:Ac) (lv:Value) (w:World) (hr:RdL w lv a.2.2.2.2) (hl:a.2.2.2.2.length<=4000000) :
    Calls Tryz.prog 235 #[acV a lv] w fun e w'=>e=.returned (.int .i64 (ofA a))/\Below w.heap.size w w':=by
  obtain ⟨nm,fr,no,st,ls⟩:=a
  have HB:=hide ((Below.refl _ w).alloc (Nat.le_refl _) (.cells #[.string nm,.int .i64 fr,.int .i64 no,.int .i64 st,lv] 105))
  have hk:=Blk.new w 105 [.string nm,.int .i64 fr,.int .i64 no,.int .i64 st,lv]
  have Hr:=hide (hr.below HB.out (Nat.le_refl _))
  obtain ⟨av,cv,rfl⟩:=hr.shape
  clear hr
  simp only [acV] at *
  obtain ⟨w0,hw0⟩:∃ w0,w.alloc (.cells #[.string nm,.int .i64 fr,.int .i64 no,.int .i64 st,.slice av ls.length cv] 105)=w0:=⟨_,rfl⟩
  have hk':Blk w0 w.heap.size 105 [.string nm,.int .i64 fr,.int .i64 no,.int .i64 st,.slice av ls.length cv]:=by rw [<- hw0];exact hk
  have HB':Hid (Below w.heap.size w w0):=hide (by rw [<- hw0];exact HB.out)
  have Hr':Hid (RdL w0 (.slice av ls.length cv) ls):=hide (by rw [<- hw0];exact Hr.out)
  have hlt0:=hk'.lt
  have k1:=hk'.cell 1
  have k3:=hk'.cell 3
  simp only [List.getElem?_cons_zero,List.getElem?_cons_succ] at k1 k3
  clear hk HB Hr
  go_enter Tryz.func235,Tryz.ntmps235
  go_wp2
  clear k1 k3
  go_loopw [3,4] (fun nv iv wr=>∃ k:Nat,k<=ls.length/\iv=.int .i64 k/\nv=.int .i64 ((ls.take k).foldl (fun s p=>wrap64 (s+p.1)) (wrap64 (fr+st)))/\Below w0.heap.size w0 wr) (fun _ iv _=>ls.length - (intOf iv).toNat)
  case atStart=>exact ⟨0,Nat.zero_le _,rfl,rfl,Below.refl _ _⟩
  case round =>
    obtain ⟨k,hkl,rfl,rfl,hb⟩:=hrel
    have hc:=(hk'.below hb hlt0).cell 4
    simp only [List.getElem?_cons_zero,List.getElem?_cons_succ] at hc
    by_cases hlt:k < ls.length
    · have hrr:=Hr'.out
      rcases hrr with ⟨_,_,_,e,_⟩ | ⟨b,off,cap,h0,hv,h1,h2,h3,h4⟩
      · subst e;simp at hlt
      injection hv with ha _ hcap
      subst ha hcap
      have hc1:=(hb.cell (p:=⟨b,off+k * 2,none⟩) h3).trans (h4 k hlt).1
      have hli:(k:Int) < (ls.length:Int):=by omega
      have Hf:=hide (fold_snoc (fun s (p:Int × Int)=>wrap64 (s+p.1)) (wrap64 (fr+st)) ls k hlt)
      clear h4
      generalize ls[k]=p at hc1 Hf
      obtain ⟨x,y⟩:=p
      simp only at hc1 Hf
      generalize (ls.take k).foldl (fun s (p:Int × Int)=>wrap64 (s+p.1)) (wrap64 (fr+st))=acc at Hf
      go_wp2
      go_roundw
      case rel=>exact ⟨k+1,by omega,by go_num,by rw [Hf.out],hb⟩
      case measure=>simp [intOf];omega
    · have Hf:Hid (ofA (nm,fr,no,st,ls)=(ls.take k).foldl (fun s p=>wrap64 (s+p.1)) (wrap64 (fr+st))):=hide (by unfold ofA;rw [List.take_of_length_le (by omega)])
      generalize (ls.take k).foldl (fun s (p:Int × Int)=>wrap64 (s+p.1)) (wrap64 (fr+st))=acc at Hf
      go_wp2
      go_ret
      exact ⟨ret_int Hf.out.symm,HB'.out.trans (hb.mono HB'.out.size)⟩
theorem specWealth_any (v:Value) (l:List Ac) (w:World) (hr:RdA w v l) (hl:l.length<=4000000) (hall:∀ a ∈ l,a.2.2.2.2.length<=4000000) :
    Calls Tryz.prog 224 #[v] w fun e w'=>e=.returned (.int .i64 (wealthA l))/\Below w.heap.size w w':=by
  rcases hr with ⟨a,cap,rfl,rfl,-⟩ | ⟨b,off,cap,h0,rfl,h1,h2,h3,h4⟩
  · go_enter Tryz.func224,Tryz.ntmps224
    go_wp2
    refine wp_loop_rounds 1 ?_
    rw [rounds_succ]
    go_wp2
    go_ret
    exact ⟨rfl,Below.refl _ _⟩
  · have H4:=hide h4
    clear h4
    go_enter Tryz.func224,Tryz.ntmps224
    go_wp2
    go_loopw [3,4] (fun nv iv wr=>∃ k:Nat,k<=l.length/\iv=.int .i64 k/\nv=.int .i64 ((l.take k).foldl (fun s a=>wrap64 (s+ofA a)) 0)/\Below w.heap.size w wr) (fun _ iv _=>l.length - (intOf iv).toNat)
    case atStart=>exact ⟨0,Nat.zero_le _,rfl,rfl,Below.refl _ _⟩
    case round =>
      obtain ⟨k,hkl,rfl,rfl,hb⟩:=hrel
      by_cases hlt:k < l.length
      · obtain ⟨lv,hat,hrl⟩:=H4.out k hlt
        obtain ⟨c0,c1,c2,c3,c4⟩:=hat.below hb h3
        have hli:(k:Int) < (l.length:Int):=by omega
        have Hf:=hide (fold_snoc (fun s (a:Ac)=>wrap64 (s+ofA a)) 0 l k hlt)
        have HO:=hide (specOf_any l[k] lv wr (hrl.below hb (Nat.le_refl _)) (hall l[k] (List.getElem_mem _)))
        have hshape:=hrl.shape
        clear hat hrl hall
        generalize (l.take k).foldl (fun s (a:Ac)=>wrap64 (s+ofA a)) 0=acc at Hf
        generalize l[k]=ak at c0 c1 c2 c3 Hf HO hshape
        generalize ofA ak=oa at Hf HO
        obtain ⟨nm,fr,no,st,ls⟩:=ak
        obtain ⟨av,cv,rfl⟩:=hshape
        simp only [acV] at c0 c1 c2 c3 HO
        go_wp2_with (go_at_call 235;refine HO.out.mono ?_;rintro e w2 ⟨rfl,hb2⟩)
        go_roundw
        case rel=>exact ⟨k+1,by omega,by go_num,by rw [Hf.out],hb.trans (hb2.mono hb.size)⟩
        case measure=>simp [intOf];omega
      · have Hf:Hid (wealthA l=(l.take k).foldl (fun s a=>wrap64 (s+ofA a)) 0):=hide (by unfold wealthA;rw [List.take_of_length_le (by omega)])
        generalize (l.take k).foldl (fun s (a:Ac)=>wrap64 (s+ofA a)) 0=acc at Hf
        go_wp2
        go_ret
        exact ⟨ret_int Hf.out.symm,hb⟩
end Go.Proofs.YtohachldbpejpaaGreatDoor
