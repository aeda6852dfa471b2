/- The model's AcctAt, l4Of and Wealth. -/
import Derived.Test.YtfdbedenlbikgaaZoAcVal
set_option maxRecDepth 20000
set_option maxHeartbeats 2000000
namespace Go.Proofs.Ytfdbedenlbikgaa
open Go.RowKit
set_option linter.unusedVariables false
structure AcAt (w:World) (b o:Nat) (a:Ac) (lv:Value):Prop where
  c0:w.cell? ⟨b,o,none⟩=some (.string a.1)
  c1:w.cell? ⟨b,o+1,none⟩=some (.int .i64 a.2.1)
  c2:w.cell? ⟨b,o+2,none⟩=some (.int .i64 a.2.2.1)
  c3:w.cell? ⟨b,o+3,none⟩=some (.int .i64 a.2.2.2.1)
  c4:w.cell? ⟨b,o+4,none⟩=some lv
theorem AcAt.below {w w':World} {B b o:Nat} {a:Ac} {lv:Value} (h:AcAt w b o a lv) (hb:Below B w w') (hB:b < B):AcAt w' b o a lv :=
  ⟨(hb.cell (p:=⟨b,o,none⟩) hB).trans h.c0,(hb.cell (p:=⟨b,o+1,none⟩) hB).trans h.c1,(hb.cell (p:=⟨b,o+2,none⟩) hB).trans h.c2,(hb.cell (p:=⟨b,o+3,none⟩) hB).trans h.c3,(hb.cell (p:=⟨b,o+4,none⟩) hB).trans h.c4⟩
def RdA (w:World) (v:Value) (l:List Ac):Prop :=
  (∃ a cap,v=.slice a 0 cap/\l=[]/\(a=none->cap=0)) \/
  ∃ b off cap,l ≠ []/\v=.slice (some ⟨b,off,none⟩) l.length cap/\l.length<=cap/\cap<=maxLen/\b < w.heap.size /\
    ∀ i (h:i < l.length),∃ lv,AcAt w b (off+i * 5) l[i] lv/\RdL w lv l[i].2.2.2.2
theorem RdA.shape {w:World} {v:Value} {l:List Ac} (h:RdA w v l):∃ a cap,v=.slice a l.length cap:=by
  rcases h with ⟨a,cap,rfl,rfl,-⟩ | ⟨b,off,cap,h0,rfl,_⟩
  · exact ⟨a,cap,rfl⟩
  · exact ⟨_,cap,rfl⟩
theorem RdA.below {B:Nat} {w w':World} {v:Value} {l:List Ac} (h:RdA w v l) (hb:Below B w w') (hB:w.heap.size<=B):RdA w' v l:=by
  rcases h with h | ⟨b,off,cap,h0,hv,h1,h2,h3,h4⟩
  · exact .inl h
  · refine .inr ⟨b,off,cap,h0,hv,h1,h2,by have:=hb.size;omega,fun i hi=>?_⟩
    obtain ⟨lv,k1,k2⟩:=h4 i hi
    exact ⟨lv,k1.below hb (by omega),k2.below hb hB⟩
def acC (q:Ac × Value):List Value:=[.string q.1.1,.int .i64 q.1.2.1,.int .i64 q.1.2.2.1,.int .i64 q.1.2.2.2.1,q.2]
def acZ:List Value:=[.string { data:=#[] },.int .i64 0,.int .i64 0,.int .i64 0,.slice none 0 0]
theorem acM_sz (l:List (Ac × Value)):∀ x ∈ l.map acC,x.length=5:=fun x hx=>by obtain ⟨p,_,rfl⟩:=List.mem_map.1 hx;rfl
structure Lvs (base:Nat) (w:World) (g:Nat) (Z:List (Ac × Value)):Prop where
  own:∀ i (h:i < Z.length),OwnL base w Z[i].2 Z[i].1.2.2.2.2
  far:∀ i (h:i < Z.length) k,Z[i].2.ownBlock=some k->k ≠ g
  apart:∀ i j (hi:i < Z.length) (hj:j < Z.length),i ≠ j->∀ k,Z[i].2.ownBlock=some k->Z[j].2.ownBlock ≠ some k
def OwnA (base:Nat) (w:World) (v:Value) (l:List Ac):Prop :=
  ∃ (g cap:Nat) (Z:List (Ac × Value)),Z.map (·.1)=l/\v=.slice (some ⟨g,0,none⟩) l.length cap/\w.ownsRow base 135 5 v l.length (Z.map acC).flatten/\Lvs base w g Z
theorem OwnA.rd {base:Nat} {w:World} {v:Value} {l:List Ac} (h:OwnA base w v l):RdA w v l:=by
  obtain ⟨g,cap,Z,hZ,rfl,ho,hl⟩:=h
  have hlen:Z.length=l.length:=by rw [<- hZ];simp
  by_cases hn:l=[]
  · subst hn;exact .inl ⟨_,_,rfl,rfl,fun h=>by cases h⟩
  · rcases ho.2 with ⟨hv,_⟩ | ⟨g',cap',cur,hv,hb,hg,hnc,hcm,hcs,ht⟩
    · cases hv
    · simp only [Value.slice.injEq,Option.some.injEq,Addr.mk.injEq,and_true,true_and] at hv
      obtain ⟨rfl,rfl⟩:=hv
      refine .inr ⟨g,0,cap,hn,rfl,hnc,hcm,(Array.getElem?_eq_some_iff.1 hg).1,fun i hi=>?_⟩
      have hi':i < Z.length:=by omega
      have e:l[i]=Z[i].1:=by subst hZ;simp
      refine ⟨Z[i].2,?_,by rw [e];exact (hl.own i hi').rd⟩
      have cell:∀ j,j < 5->w.cell? ⟨g,0+i * 5+j,none⟩=(acC Z[i])[j]?:=fun j hj=>by
        rw [Nat.zero_add,ho.cellAt (i * 5+j) (by omega),flat_get 5 (Z.map acC) i j (by simpa using hi') (acM_sz Z) hj]
        simp
      rw [e]
      exact ⟨by have:=cell 0 (by omega);simpa [acC] using this,by have:=cell 1 (by omega);simpa [acC] using this,by have:=cell 2 (by omega);simpa [acC] using this,by have:=cell 3 (by omega);simpa [acC] using this,by have:=cell 4 (by omega);simpa [acC] using this⟩
theorem Lvs.below {B base:Nat} {w w':World} {g:Nat} {Z:List (Ac × Value)} (h:Lvs base w g Z) (hb:Below B w w') (hB:w.heap.size<=B):Lvs base w' g Z :=
  ⟨fun i hi=>(h.own i hi).below hb hB,h.far,h.apart⟩
theorem Lvs.set {base:Nat} {w:World} {g:Nat} {Z:List (Ac × Value)} (h:Lvs base w g Z) (j:Nat) (u:Value):Lvs base (w.setCell ⟨g,j,none⟩ u) g Z :=
  ⟨fun i hi=>row_set (h.own i hi) g j u (h.far i hi),h.far,h.apart⟩
theorem Lvs.snoc {base:Nat} {w:World} {g:Nat} {Z:List (Ac × Value)} (h:Lvs base w g Z) (q:Ac × Value) (ho:OwnL base w q.2 q.1.2.2.2.2) (hf:∀ k,q.2.ownBlock=some k->k ≠ g)
    (hn:∀ i (hi:i < Z.length) k,Z[i].2.ownBlock=some k->q.2.ownBlock ≠ some k):Lvs base w g (Z ++ [q]):=by
  have at1:∀ i (hi:i < (Z ++ [q]).length),(∃ h':i < Z.length,(Z ++ [q])[i]=Z[i])\/(i=Z.length/\(Z ++ [q])[i]=q):=fun i hi=>by
    by_cases h':i < Z.length
    · exact .inl ⟨h',List.getElem_append_left h'⟩
    · have e:i=Z.length:=by simp at hi;omega
      subst e
      exact .inr ⟨rfl,by simp⟩
  refine ⟨fun i hi=>?_,fun i hi k hk=>?_,fun i j hi hj hij k hk=>?_⟩
  · rcases at1 i hi with ⟨h',e⟩ | ⟨_,e⟩
    · rw [e];exact h.own i h'
    · rw [e];exact ho
  · rcases at1 i hi with ⟨h',e⟩ | ⟨_,e⟩
    · rw [e] at hk;exact h.far i h' k hk
    · rw [e] at hk;exact hf k hk
  · rcases at1 i hi with ⟨h',e⟩ | ⟨ei,e⟩ <;> rcases at1 j hj with ⟨h2,e2⟩ | ⟨ej,e2⟩
    · rw [e] at hk;rw [e2];exact h.apart i j h' h2 hij k hk
    · rw [e] at hk;rw [e2];exact hn i h' k hk
    · rw [e] at hk;rw [e2];exact fun e3=>hn j h2 k e3 hk
    · omega
theorem Try.infoAc:(Try.prog.info? 135).map (fun i=>(i.zero,i.size,i.bytes))=some (some (.agg #[.string { data:=#[] },.int .i64 0,.int .i64 0,.int .i64 0,.slice none 0 0]),5,64):=by kernel_rfl
theorem toAcctS_any (v:Value) (l:List Ac) (w:World) (hr:RdA w v l) (hl:l.length<=4000000) (hall:∀ a ∈ l,a.2.2.2.2.length<=4000000) :
    Calls Try.prog 38 #[v] w fun e w'=>∃ v',e=.returned v'/\OwnA w.heap.size w' v' l/\Below w.heap.size w w':=by
  obtain ⟨i0,hi,hz0,hz1,hz2⟩:=info_parts Try.infoAc
  rcases hr with ⟨a,cap,rfl,rfl,-⟩ | ⟨b,off,cap,h0,rfl,h1,h2,h3,h4⟩
  · go_enter Try.func38,Try.ntmps38
    go_wp2_with (refine wpList_make_full _ rfl _ _ 34 rfl w.heap.size 135 i0 (.agg #[.string { data:=#[] },.int .i64 0,.int .i64 0,.int .i64 0,.slice none 0 0]) 5 Try.underlying34 hi hz0 hz1 .i64 .i64 _ _ 0 rfl rfl rfl rfl (by omega) (by unfold maxLen;omega) (Nat.le_refl _) ?_;intro w1 hown hgrow)
    have hb1:Below w.heap.size w w1:=(Below.refl _ _).grown hgrow (Nat.le_refl _) (by intro k hk;cases hk)
    refine wp_loop_rounds 1 ?_
    rw [rounds_succ]
    go_wp2
    go_ret
    have ho':OwnA w.heap.size w1 (.slice (some ⟨w.heap.size,0,none⟩) 0 0) []:=by
      have e:=made_flat (Value.agg #[.string { data:=#[] },.int .i64 0,.int .i64 0,.int .i64 0,.slice none 0 0]).cells 5 0 rfl (by omega)
      rw [e] at hown
      exact ⟨_,_,[],rfl,rfl,hown,⟨fun i h=>by simp at h,fun i h=>by simp at h,fun i j h=>by simp at h⟩⟩
    exact ⟨_,rfl,ho',hb1⟩
  · go_enter Try.func38,Try.ntmps38
    go_wp2_with (refine wpList_make_full _ rfl _ _ 34 rfl w.heap.size 135 i0 (.agg #[.string { data:=#[] },.int .i64 0,.int .i64 0,.int .i64 0,.slice none 0 0]) 5 Try.underlying34 hi hz0 hz1 .i64 .i64 _ _ l.length rfl rfl rfl rfl (by rw [hz2];omega) (by unfold maxLen;omega) (Nat.le_refl _) ?_;intro w1 hown hgrow)
    have hb1:Below w.heap.size w w1:=(Below.refl _ _).grown hgrow (Nat.le_refl _) (by intro k hk;cases hk)
    go_loopw [4] (fun i wr=>∃ (k:Nat) (Z:List (Ac × Value)),k<=l.length/\i=.int .i64 k/\Z.map (·.1)=l.take k/\wr.ownsRow w.heap.size 135 5 (.slice (some ⟨w.heap.size,0,none⟩) l.length l.length) l.length (prt (Z.map acC) acZ l.length).flatten/\Lvs w.heap.size wr w.heap.size Z/\Below w.heap.size w wr)
      (fun i _=>l.length - (intOf i).toNat)
    case atStart =>
      refine ⟨0,[],Nat.zero_le _,rfl,rfl,?_,⟨fun i h=>by simp at h,fun i h=>by simp at h,fun i j h=>by simp at h⟩,hb1⟩
      rw [List.map_nil,prt_zero]
      have e:=made_flat (Value.agg #[.string { data:=#[] },.int .i64 0,.int .i64 0,.int .i64 0,.slice none 0 0]).cells 5 l.length rfl (by omega)
      rw [e] at hown
      exact hown
    case round =>
      obtain ⟨k,Z,hk,rfl,hZ,ho,hlv,hb⟩:=hrel
      clear hown hgrow hb1
      have hZl:(Z.map acC).length=k:=by have:=congrArg List.length hZ;simp at this;simp;omega
      by_cases hlt:k < l.length
      · obtain ⟨lv,hat,hrl⟩:=h4 k hlt
        have hshape:=hrl.shape
        have hat:=hat.below hb h3
        obtain ⟨c0,c1,c2,c3,c4⟩:=hat
        have hli:(k:Int) < (l.length:Int):=by omega
        have psz:=prt_sz 5 (Z.map acC) acZ l.length (acM_sz Z) rfl
        have plen:=prt_len (Z.map acC) acZ l.length (by omega)
        have Hg:Hid (∀ j,j < 5->(prt (Z.map acC) acZ l.length).flatten[k * 5+j]?=acZ[j]?):=hide (fun j hj=>by
          rw [flat_get 5 _ k j (by rw [plen];exact hlt) psz hj,prt_at _ _ _ k hZl.symm hlt])
        have HT:=hide (toAcct_any l[k] lv wr (hrl.below hb (Nat.le_refl _)) (hall l[k] (List.getElem_mem _)))
        have Hput:Hid (∀ lv':Value,((((((prt (Z.map acC) acZ l.length).flatten.set (k * 5) (.string l[k].1)).set (k * 5+1) (.int .i64 l[k].2.1)).set (k * 5+2) (.int .i64 l[k].2.2.1)).set (k * 5+3) (.int .i64 l[k].2.2.2.1)).set (k * 5+4) lv')=(prt ((Z ++ [(l[k],lv')]).map acC) acZ l.length).flatten):=hide (fun lv'=>by
          rw [flat_put5 _ k _ _ _ _ _ (by rw [plen];exact hlt) psz,prt_next _ _ _ _ k hZl.symm hlt,List.map_append]
          rfl)
        have HZ2:Hid (∀ lv':Value,(Z ++ [(l[k],lv')]).map (·.1)=l.take (k+1)):=hide (fun lv'=>by rw [List.map_append,hZ,List.take_succ_eq_append_getElem hlt];rfl)
        have Hlv:=hide hlv
        have hgl:w.heap.size < wr.heap.size:=(World.ownsRow.lt ho w.heap.size rfl).2
        have hZlen:Z.length=k:=by simpa using hZl
        clear h4 hlv hrl psz plen hZl hZ hall
        generalize l[k]=ak at c0 c1 c2 c3 HT Hput HZ2 hshape
        obtain ⟨nm,fr,no,st,ls⟩:=ak
        simp only [acV] at c0 c1 c2 c3 HT Hput HZ2
        obtain ⟨av,cv,rfl⟩:=hshape
        go_wp2_with (go_at_call 59;refine HT.out.mono ?_;rintro e w2 ⟨lv',rfl,ho',hb2⟩;obtain ⟨av',cv',rfl⟩:=ho'.rd.shape;have ho2:=row_below ho hb2 (Nat.le_refl _);have q0:=ho2.cellAt (k * 5) (by omega);have q1:=ho2.cellAt (k * 5+1) (by omega);have q2:=ho2.cellAt (k * 5+2) (by omega);have q3:=ho2.cellAt (k * 5+3) (by omega);have q4:=ho2.cellAt (k * 5+4) (by omega);have f0:=ho2.frozenAt (k * 5);have f1:=ho2.frozenAt (k * 5+1);have f2:=ho2.frozenAt (k * 5+2);have f3:=ho2.frozenAt (k * 5+3);have f4:=ho2.frozenAt (k * 5+4);rw [<- Nat.add_zero (k * 5),Hg.out 0 (by omega)] at q0;rw [Hg.out 1 (by omega)] at q1;rw [Hg.out 2 (by omega)] at q2;rw [Hg.out 3 (by omega)] at q3;rw [Hg.out 4 (by omega)] at q4;rw [Nat.add_zero] at q0;simp only [acZ,List.getElem?_cons_zero,List.getElem?_cons_succ] at q0 q1 q2 q3 q4)
        have n1:∀ k,(Value.slice av' ls.length cv').ownBlock=some k->k ≠ w.heap.size:=fun k hk=>by have:=ho'.ge k hk;omega
        have HL:Lvs w.heap.size w2 w.heap.size (Z ++ [((nm,fr,no,st,ls),.slice av' ls.length cv')]):=(Hlv.out.below hb2 (Nat.le_refl _)).snoc _ (ho'.mono hb.size) n1 (fun i hi k hk e=>by have:=(Hlv.out.own i hi).lt k hk;have:=ho'.ge k e;omega)
        go_roundw
        case rel =>
          refine ⟨k+1,Z ++ [((nm,fr,no,st,ls),.slice av' ls.length cv')],by omega,by go_num,HZ2.out _,?_,((((HL.set _ _).set _ _).set _ _).set _ _).set _ _,?_⟩
          · have s1:=(ho2.stored (k * 5) (.string nm)).1
            have s2:=(s1.stored (k * 5+1) (.int .i64 fr)).1
            have s3:=(s2.stored (k * 5+2) (.int .i64 no)).1
            have s4:=(s3.stored (k * 5+3) (.int .i64 st)).1
            have s5:=(s4.stored (k * 5+4) (.slice av' ls.length cv')).1
            rw [Hput.out] at s5
            exact s5
          · exact (((((hb.trans (hb2.mono hb.size)).setCell (p:=⟨w.heap.size,k * 5,none⟩) (Nat.le_refl _) _).setCell (p:=⟨w.heap.size,k * 5+1,none⟩) (Nat.le_refl _) _).setCell (p:=⟨w.heap.size,k * 5+2,none⟩) (Nat.le_refl _) _).setCell (p:=⟨w.heap.size,k * 5+3,none⟩) (Nat.le_refl _) _).setCell (p:=⟨w.heap.size,k * 5+4,none⟩) (Nat.le_refl _) _
        case measure=>simp [intOf];omega
      · have e:k=l.length:=by omega
        subst e
        rw [prt_all _ _ _ hZl] at ho
        rw [List.take_length] at hZ
        go_wp2
        go_ret
        exact ⟨_,rfl,⟨_,_,Z,hZ,rfl,ho,hlv⟩,hb⟩
def atF (s:ByteArray):List Ac->Nat->Int
  | [],_=>-1
  | a :: l,n=>if a.1=s then (n:Int) else atF s l (n+1)
def atA (l:List Ac) (s:ByteArray):Int:=atF s l 0
def ofA (a:Ac):Int:=(a.2.2.2.2).foldl (fun s p=>wrap64 (s+p.1)) (wrap64 (a.2.1+a.2.2.2.1))
def wealthA (l:List Ac):Int:=l.foldl (fun s a=>wrap64 (s+ofA a)) 0
end Go.Proofs.Ytfdbedenlbikgaa
