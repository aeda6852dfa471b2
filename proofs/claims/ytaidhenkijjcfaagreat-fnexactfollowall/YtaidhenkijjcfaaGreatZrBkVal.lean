/- Blocks. -/
import Derived.Deep.RegionLaw
import Derived.Test.YtaidhenkijjcfaaGreatZrCtTc
set_option maxRecDepth 20000
set_option maxHeartbeats 2000000
namespace Go.Proofs.YtaidhenkijjcfaaGreat
open Go.RowKit
set_option linter.unusedVariables false
abbrev Tx5:=Int × ByteArray × ByteArray × Int × Int
def txV (t:Tx5):Value:=.agg #[.int .i64 t.1,.string t.2.1,.string t.2.2.1,.int .i64 t.2.2.2.1,.int .i64 t.2.2.2.2]
def txB (t:Tx5):Bool:=nmB t.2.1 && (inB t.2.2.2.1 1 1000000 && (inB t.2.2.2.2 0 10000 && (if t.1=1 then nmB t.2.2.1 else (inB t.1 2 3 && decide (t.2.2.1=ByteArray.empty)))))
def lessT (a b:Tx5):Bool :=
  if a.2.1 ≠ b.2.1 then Op.bytesLess a.2.1.toList b.2.1.toList
  else if a.2.2.2.2 ≠ b.2.2.2.2 then decide (a.2.2.2.2 < b.2.2.2.2)
  else if a.1 ≠ b.1 then decide (a.1 < b.1)
  else if a.2.2.1 ≠ b.2.2.1 then Op.bytesLess a.2.2.1.toList b.2.2.1.toList
  else decide (a.2.2.2.1 < b.2.2.2.1)
theorem toTx_any (t:Tx5) (w:World):Calls Tryz.prog 116 #[txV t] w fun e w'=>e=.returned (txV t)/\Below w.heap.size w w':=by
  obtain ⟨k,f,tO,am,no⟩:=t
  simp only [txV]
  go_enter Tryz.func116,Tryz.ntmps116
  go_wp2
  refine bodyPost_ret (v:=.agg #[.int .i64 k,.string f,.string tO,.int .i64 am,.int .i64 no]) (by simp [results,Tryz.f116,go_sem]) rfl ?_
  exact ⟨rfl,((((Below.refl _ w).alloc (Nat.le_refl _) _).alloc (by simp) _).alloc (by simp;omega) _)⟩
theorem eqTx_any (a b:Tx5) (w:World):Calls Tryz.prog 121 #[txV a,txV b] w fun e w'=>e=.returned (.bool (decide (a=b)))/\Below w.heap.size w w':=by
  obtain ⟨k1,f1,t1,m1,n1⟩:=a
  obtain ⟨k2,f2,t2,m2,n2⟩:=b
  simp only [txV]
  have HB:=hide (((Below.refl _ w).alloc (Nat.le_refl _) (.cells #[.int .i64 k1,.string f1,.string t1,.int .i64 m1,.int .i64 n1] 177)).alloc (by simp) (.cells #[.int .i64 k2,.string f2,.string t2,.int .i64 m2,.int .i64 n2] 177))
  by_cases h1:k1=k2
  · by_cases h2:f1=f2
    · by_cases h3:t1=t2
      · by_cases h4:m1=m2
        · by_cases h5:n1=n2
          · subst h1 h2 h3 h4 h5
            have Hd:Hid (decide (((k1,f1,t1,m1,n1):Tx5)=(k1,f1,t1,m1,n1))=true):=hide (by simp)
            go_enter Tryz.func121,Tryz.ntmps121
            go_wp2
            go_ret
            exact ⟨ret_bool Hd.out.symm,HB.out⟩
          · subst h1 h2 h3 h4
            have Hd:Hid (decide (((k1,f1,t1,m1,n1):Tx5)=(k1,f1,t1,m1,n2))=false):=hide (by simp [h5])
            have hq:(n1 != n2)=true:=by rw [bne_iff_ne];exact h5
            clear h5
            go_enter Tryz.func121,Tryz.ntmps121
            go_wp2
            go_ret
            exact ⟨ret_bool Hd.out.symm,HB.out⟩
        · subst h1 h2 h3
          have Hd:Hid (decide (((k1,f1,t1,m1,n1):Tx5)=(k1,f1,t1,m2,n2))=false):=hide (by simp [h4])
          have hq:(m1 != m2)=true:=by rw [bne_iff_ne];exact h4
          clear h4
          go_enter Tryz.func121,Tryz.ntmps121
          go_wp2
          go_ret
          exact ⟨ret_bool Hd.out.symm,HB.out⟩
      · subst h1 h2
        have Hd:Hid (decide (((k1,f1,t1,m1,n1):Tx5)=(k1,f1,t2,m2,n2))=false):=hide (by simp [h3])
        have hq:=bytes_ne h3
        clear h3
        go_enter Tryz.func121,Tryz.ntmps121
        go_wp2
        go_ret
        exact ⟨ret_bool Hd.out.symm,HB.out⟩
    · subst h1
      have Hd:Hid (decide (((k1,f1,t1,m1,n1):Tx5)=(k1,f2,t2,m2,n2))=false):=hide (by simp [h2])
      have hq:=bytes_ne h2
      clear h2
      go_enter Tryz.func121,Tryz.ntmps121
      go_wp2
      go_ret
      exact ⟨ret_bool Hd.out.symm,HB.out⟩
  · have Hd:Hid (decide (((k1,f1,t1,m1,n1):Tx5)=(k2,f2,t2,m2,n2))=false):=hide (by simp [h1])
    have hq:(k1 != k2)=true:=by rw [bne_iff_ne];exact h1
    clear h1
    go_enter Tryz.func121,Tryz.ntmps121
    go_wp2
    go_ret
    exact ⟨ret_bool Hd.out.symm,HB.out⟩
def szT (t:Tx5) (m:Int):Int:=if m - t.2.1.size < 0 then -1 else if m - t.2.1.size - t.2.2.1.size < 0 then -1 else m - t.2.1.size - t.2.2.1.size
theorem szTx_any (t:Tx5) (m:Int) (w:World) (hm0:0<=m) (hm:m<=100000000) (hn:t.2.1.size<=9223372036854775807) (hl:t.2.2.1.size<=9223372036854775807) :
    Calls Tryz.prog 111 #[txV t,.int .i64 m] w fun e w'=>e=.returned (.int .i64 (szT t m))/\Below w.heap.size w w':=by
  obtain ⟨k1,f1,t1,m1,n1⟩:=t
  have HB:=hide ((Below.refl _ w).alloc (Nat.le_refl _) (.cells #[.int .i64 k1,.string f1,.string t1,.int .i64 m1,.int .i64 n1] 170))
  simp only [txV] at *
  have w1:IntKind.i64.wrap (m - (f1.size:Int))=m - f1.size:=by rw [IntKind.wrap_i64];omega
  by_cases h1:m - (f1.size:Int) < 0
  · have Hs:Hid (szT (k1,f1,t1,m1,n1) m=-1):=hide (by unfold szT;rw [if_pos h1])
    go_enter Tryz.func111,Tryz.ntmps111
    go_wp2
    go_ret
    exact ⟨ret_int Hs.out.symm,HB.out⟩
  · have w2:IntKind.i64.wrap (m - (f1.size:Int) - (t1.size:Int))=m - f1.size - t1.size:=by rw [IntKind.wrap_i64];omega
    by_cases h2:m - (f1.size:Int) - (t1.size:Int) < 0
    · have Hs:Hid (szT (k1,f1,t1,m1,n1) m=-1):=hide (by unfold szT;rw [if_neg h1,if_pos h2])
      go_enter Tryz.func111,Tryz.ntmps111
      go_wp2
      go_ret
      exact ⟨ret_int Hs.out.symm,HB.out⟩
    · have Hs:Hid (szT (k1,f1,t1,m1,n1) m=m - f1.size - t1.size):=hide (by unfold szT;rw [if_neg h1,if_neg h2])
      go_enter Tryz.func111,Tryz.ntmps111
      go_wp2
      go_ret
      exact ⟨ret_int Hs.out.symm,HB.out⟩
structure TxAt (w:World) (b o:Nat) (t:Tx5):Prop where
  c0:w.cell? ⟨b,o,none⟩=some (.int .i64 t.1)
  c1:w.cell? ⟨b,o+1,none⟩=some (.string t.2.1)
  c2:w.cell? ⟨b,o+2,none⟩=some (.string t.2.2.1)
  c3:w.cell? ⟨b,o+3,none⟩=some (.int .i64 t.2.2.2.1)
  c4:w.cell? ⟨b,o+4,none⟩=some (.int .i64 t.2.2.2.2)
theorem TxAt.below {w w':World} {B b o:Nat} {t:Tx5} (h:TxAt w b o t) (hb:Below B w w') (hB:b < B):TxAt w' b o t :=
  ⟨(hb.cell (p:=⟨b,o,none⟩) hB).trans h.c0,(hb.cell (p:=⟨b,o+1,none⟩) hB).trans h.c1,(hb.cell (p:=⟨b,o+2,none⟩) hB).trans h.c2,(hb.cell (p:=⟨b,o+3,none⟩) hB).trans h.c3,(hb.cell (p:=⟨b,o+4,none⟩) hB).trans h.c4⟩
def RdT (w:World) (v:Value) (l:List Tx5):Prop :=
  (∃ a cap,v=.slice a 0 cap/\l=[]/\(a=none->cap=0)) \/
  ∃ b off cap,l ≠ []/\v=.slice (some ⟨b,off,none⟩) l.length cap/\l.length<=cap/\cap<=maxLen/\b < w.heap.size/\∀ i (h:i < l.length),TxAt w b (off+i * 5) l[i]
theorem RdT.shape {w:World} {v:Value} {l:List Tx5} (h:RdT w v l):∃ a cap,v=.slice a l.length cap:=by
  rcases h with ⟨a,cap,rfl,rfl,-⟩ | ⟨b,off,cap,h0,rfl,_⟩
  · exact ⟨a,cap,rfl⟩
  · exact ⟨_,cap,rfl⟩
theorem RdT.below {B:Nat} {w w':World} {v:Value} {l:List Tx5} (h:RdT w v l) (hb:Below B w w') (hB:w.heap.size<=B):RdT w' v l:=by
  rcases h with h | ⟨b,off,cap,h0,hv,h1,h2,h3,h4⟩
  · exact .inl h
  · exact .inr ⟨b,off,cap,h0,hv,h1,h2,by have:=hb.size;omega,fun i hi=>(h4 i hi).below hb (by omega)⟩
def txC (t:Tx5):List Value:=[.int .i64 t.1,.string t.2.1,.string t.2.2.1,.int .i64 t.2.2.2.1,.int .i64 t.2.2.2.2]
def txZ:List Value:=[.int .i64 0,.string { data:=#[] },.string { data:=#[] },.int .i64 0,.int .i64 0]
theorem txM_sz (l:List Tx5):∀ x ∈ l.map txC,x.length=5:=fun x hx=>by obtain ⟨p,_,rfl⟩:=List.mem_map.1 hx;rfl
theorem txP_sz (l:List Tx5) (k:Nat):∀ x ∈ part txC txZ l k,x.length=5:=part_sz 5 _ _ _ _ (fun _=>rfl) rfl
def OwnT (base:Nat) (w:World) (v:Value) (l:List Tx5):Prop:=w.ownsRow base 177 5 v l.length (l.map txC).flatten
theorem OwnT.rd {base:Nat} {w:World} {v:Value} {l:List Tx5} (h:OwnT base w v l):RdT w v l:=by
  rcases h.2 with ⟨rfl,hn⟩ | ⟨g,cap,cur,rfl,hb,hg,hnc,hcm,hcs,ht⟩
  · have:l=[]:=List.length_eq_zero_iff.1 hn
    subst this
    exact .inl ⟨_,_,rfl,rfl,fun _=>rfl⟩
  · by_cases hn:l=[]
    · subst hn;exact .inl ⟨_,_,rfl,rfl,fun h=>by cases h⟩
    · refine .inr ⟨g,0,cap,hn,rfl,hnc,hcm,(Array.getElem?_eq_some_iff.1 hg).1,fun i hi=>?_⟩
      have cell:∀ j,j < 5->w.cell? ⟨g,0+i * 5+j,none⟩=(txC l[i])[j]?:=fun j hj=>by
        rw [Nat.zero_add,World.ownsRow.cellAt h (i * 5+j) (by omega),flat_get 5 (l.map txC) i j (by simpa using hi) (txM_sz l) hj]
        simp
      exact ⟨by have:=cell 0 (by omega);simpa [txC] using this,by have:=cell 1 (by omega);simpa [txC] using this,by have:=cell 2 (by omega);simpa [txC] using this,by have:=cell 3 (by omega);simpa [txC] using this,by have:=cell 4 (by omega);simpa [txC] using this⟩
theorem OwnT.below {B base:Nat} {w w':World} {v:Value} {l:List Tx5} (h:OwnT base w v l) (hb:Below B w w') (hB:w.heap.size<=B):OwnT base w' v l:=row_below h hb hB
theorem OwnT.lt {base:Nat} {w:World} {v:Value} {l:List Tx5} (h:OwnT base w v l):∀ k,v.ownBlock=some k->base<=k/\k < w.heap.size:=fun k hk=>World.ownsRow.lt h k hk
theorem Tryz.infoTx:(Tryz.prog.info? 177).map (fun i=>(i.zero,i.size,i.bytes))=some (some (.agg #[.int .i64 0,.string { data:=#[] },.string { data:=#[] },.int .i64 0,.int .i64 0]),5,56):=by kernel_rfl
theorem toTxS_any (v:Value) (l:List Tx5) (w:World) (hr:RdT w v l) (hl:l.length<=4000000) :
    Calls Tryz.prog 62 #[v] w fun e w'=>∃ v',e=.returned v'/\OwnT w.heap.size w' v' l/\Below w.heap.size w w':=by
  obtain ⟨i0,hi,hz0,hz1,hz2⟩:=info_parts Tryz.infoTx
  rcases hr with ⟨a,cap,rfl,rfl,-⟩ | ⟨b,off,cap,h0,rfl,h1,h2,h3,h4⟩
  · go_enter Tryz.func62,Tryz.ntmps62
    go_wp2_with (refine wpList_make_full _ rfl _ _ 70 rfl w.heap.size 177 i0 (.agg #[.int .i64 0,.string { data:=#[] },.string { data:=#[] },.int .i64 0,.int .i64 0]) 5 Tryz.underlying70 hi hz0 hz1 .i64 .i64 _ _ 0 rfl rfl rfl rfl (by omega) (by unfold maxLen;omega) (Nat.le_refl _) ?_;intro w1 hown hgrow)
    have hb1:Below w.heap.size w w1:=(Below.refl _ _).grown hgrow (Nat.le_refl _) (by intro k hk;cases hk)
    refine wp_loop_rounds 1 ?_
    rw [rounds_succ]
    go_wp2
    go_ret
    have ho':OwnT w.heap.size w1 (.slice (some ⟨w.heap.size,0,none⟩) 0 0) []:=by
      have e:=made_flat (Value.agg #[.int .i64 0,.string { data:=#[] },.string { data:=#[] },.int .i64 0,.int .i64 0]).cells 5 0 rfl (by omega)
      rw [e] at hown
      exact hown
    exact ⟨_,rfl,ho',hb1⟩
  · go_enter Tryz.func62,Tryz.ntmps62
    go_wp2_with (refine wpList_make_full _ rfl _ _ 70 rfl w.heap.size 177 i0 (.agg #[.int .i64 0,.string { data:=#[] },.string { data:=#[] },.int .i64 0,.int .i64 0]) 5 Tryz.underlying70 hi hz0 hz1 .i64 .i64 _ _ l.length rfl rfl rfl rfl (by rw [hz2];omega) (by unfold maxLen;omega) (Nat.le_refl _) ?_;intro w1 hown hgrow)
    have hb1:Below w.heap.size w w1:=(Below.refl _ _).grown hgrow (Nat.le_refl _) (by intro k hk;cases hk)
    go_loopw [4] (fun i wr=>∃ k:Nat,k<=l.length/\i=.int .i64 k/\wr.ownsRow w.heap.size 177 5 (.slice (some ⟨w.heap.size,0,none⟩) l.length l.length) l.length (part txC txZ l k).flatten/\Below w.heap.size w wr)
      (fun i _=>l.length - (intOf i).toNat)
    case atStart =>
      refine ⟨0,Nat.zero_le _,rfl,?_,hb1⟩
      rw [part_zero]
      have e:=made_flat (Value.agg #[.int .i64 0,.string { data:=#[] },.string { data:=#[] },.int .i64 0,.int .i64 0]).cells 5 l.length rfl (by omega)
      rw [e] at hown
      exact hown
    case round =>
      obtain ⟨k,hk,rfl,ho,hb⟩:=hrel
      clear hown hgrow hb1
      by_cases hlt:k < l.length
      · obtain ⟨c0,c1,c2,c3,c4⟩:=(h4 k hlt).below hb h3
        have hli:(k:Int) < (l.length:Int):=by omega
        have Hput:=hide (flat_put5 (part txC txZ l k) k (.int .i64 l[k].1) (.string l[k].2.1) (.string l[k].2.2.1) (.int .i64 l[k].2.2.2.1) (.int .i64 l[k].2.2.2.2) (by rw [part_len _ _ _ _ hk];exact hlt) (txP_sz l k))
        have Hnext:=hide (part_next txC txZ l k hlt)
        have Hg:Hid (∀ j,j < 5->(part txC txZ l k).flatten[k * 5+j]?=txZ[j]?):=hide (fun j hj=>by
          rw [flat_get 5 _ k j (by rw [part_len _ _ _ _ hk];exact hlt) (txP_sz l k) hj,part_at _ _ _ _ hlt])
        have Htx:Hid (txC l[k]=[.int .i64 l[k].1,.string l[k].2.1,.string l[k].2.2.1,.int .i64 l[k].2.2.2.1,.int .i64 l[k].2.2.2.2]):=hide rfl
        have hlb:w.heap.size < wr.heap.size:=((World.ownsRow.lt ho w.heap.size rfl)).2
        have HT:=hide (toTx_any l[k] wr)
        clear h4
        generalize l[k]=tk at c0 c1 c2 c3 c4 Hput Htx HT Hnext
        obtain ⟨kd,fr,tO,am,no⟩:=tk
        simp only [txV] at c0 c1 c2 c3 c4 Hput Htx HT
        go_wp2_with (go_at_call 116;refine HT.out.mono ?_;rintro e w2 ⟨rfl,hb2⟩;have ho2:=row_below ho hb2 (Nat.le_refl _);have q0:=ho2.cellAt (k * 5) (by omega);have q1:=ho2.cellAt (k * 5+1) (by omega);have q2:=ho2.cellAt (k * 5+2) (by omega);have q3:=ho2.cellAt (k * 5+3) (by omega);have q4:=ho2.cellAt (k * 5+4) (by omega);have f0:=ho2.frozenAt (k * 5);have f1:=ho2.frozenAt (k * 5+1);have f2:=ho2.frozenAt (k * 5+2);have f3:=ho2.frozenAt (k * 5+3);have f4:=ho2.frozenAt (k * 5+4);rw [<- Nat.add_zero (k * 5),Hg.out 0 (by omega)] at q0;rw [Hg.out 1 (by omega)] at q1;rw [Hg.out 2 (by omega)] at q2;rw [Hg.out 3 (by omega)] at q3;rw [Hg.out 4 (by omega)] at q4;rw [Nat.add_zero] at q0;simp only [txZ,List.getElem?_cons_zero,List.getElem?_cons_succ] at q0 q1 q2 q3 q4)
        go_roundw
        case rel =>
          refine ⟨k+1,by omega,by go_num,?_,(((((hb.trans (hb2.mono hb.size)).setCell (p:=⟨w.heap.size,k * 5,none⟩) (Nat.le_refl _) _).setCell (p:=⟨w.heap.size,k * 5+1,none⟩) (Nat.le_refl _) _).setCell (p:=⟨w.heap.size,k * 5+2,none⟩) (Nat.le_refl _) _).setCell (p:=⟨w.heap.size,k * 5+3,none⟩) (Nat.le_refl _) _).setCell (p:=⟨w.heap.size,k * 5+4,none⟩) (Nat.le_refl _) _⟩
          have s1:=(ho2.stored (k * 5) (.int .i64 kd)).1
          have s2:=(s1.stored (k * 5+1) (.string fr)).1
          have s3:=(s2.stored (k * 5+2) (.string tO)).1
          have s4:=(s3.stored (k * 5+3) (.int .i64 am)).1
          have s5:=(s4.stored (k * 5+4) (.int .i64 no)).1
          rw [Hput.out,<- Htx.out,Hnext.out] at s5
          exact s5
        case measure=>simp [intOf];omega
      · have e:k=l.length:=by omega
        subst e
        rw [part_all] at ho
        go_wp2
        go_ret
        exact ⟨_,rfl,ho,hb⟩
theorem eqTxS_any (v1 v2:Value) (l1 l2:List Tx5) (w:World) (hr1:RdT w v1 l1) (hr2:RdT w v2 l2) (hl1:l1.length<=4000000) (hl2:l2.length<=4000000) (he:l1=l2) :
    Calls Tryz.prog 70 #[v1,v2] w fun e w'=>e=.returned (.bool true)/\Below w.heap.size w w':=by
  subst he
  rcases hr1 with ⟨a,cap,rfl,rfl,-⟩ | ⟨b,off,cap,h0,rfl,h1,h2,h3,h4⟩
  · obtain ⟨a2,cap2,rfl⟩:=hr2.shape
    clear hr2
    go_enter Tryz.func70,Tryz.ntmps70
    go_wp2
    refine wp_loop_rounds 1 ?_
    rw [rounds_succ]
    go_wp2
    go_ret
    exact ⟨rfl,Below.refl _ _⟩
  · rcases hr2 with ⟨a2,cap2,rfl,rfl,-⟩ | ⟨b2,off2,cap2,g0,rfl,g1,g2,g3,g4⟩
    · exact absurd rfl h0
    · have H4:=hide h4
      have G4:=hide g4
      clear h4 g4
      go_enter Tryz.func70,Tryz.ntmps70
      go_wp2
      go_loopw [5] (fun i wr=>∃ k:Nat,k<=l1.length/\i=.int .i64 k/\Below w.heap.size w wr) (fun i _=>l1.length - (intOf i).toNat)
      case atStart=>exact ⟨0,Nat.zero_le _,rfl,Below.refl _ _⟩
      case round =>
        obtain ⟨k,hk,rfl,hs⟩:=hrel
        by_cases hlt:k < l1.length
        · obtain ⟨c0,c1,c2,c3,c4⟩:=(H4.out k hlt).below hs.drew h3
          obtain ⟨d0,d1,d2,d3,d4⟩:=(G4.out k hlt).below hs.drew g3
          have hli:(k:Int) < (l1.length:Int):=by omega
          have HE:=hide (eqTx_any l1[k] l1[k] wr.drew)
          rw [decide_eq_true rfl] at HE
          generalize l1[k]=p at c0 c1 c2 c3 c4 d0 d1 d2 d3 d4 HE
          obtain ⟨kd,fr,tO,am,no⟩:=p
          simp only [txV] at c0 c1 c2 c3 c4 d0 d1 d2 d3 d4 HE
          have hS1:wr.drew.cell? ⟨b,off+k * 5,none⟩=some (.int .i64 kd)/\wr.drew.cell? ⟨b,off+k * 5+1,none⟩=some (.string fr)/\wr.drew.cell? ⟨b,off+k * 5+2,none⟩=some (.string tO)/\wr.drew.cell? ⟨b,off+k * 5+3,none⟩=some (.int .i64 am)/\wr.drew.cell? ⟨b,off+k * 5+4,none⟩=some (.int .i64 no)/\wr.drew.cell? ⟨b2,off2+k * 5,none⟩=some (.int .i64 kd)/\wr.drew.cell? ⟨b2,off2+k * 5+1,none⟩=some (.string fr)/\wr.drew.cell? ⟨b2,off2+k * 5+2,none⟩=some (.string tO)/\wr.drew.cell? ⟨b2,off2+k * 5+3,none⟩=some (.int .i64 am)/\wr.drew.cell? ⟨b2,off2+k * 5+4,none⟩=some (.int .i64 no):=⟨c0,c1,c2,c3,c4,d0,d1,d2,d3,d4⟩
          clear c0 c1 c2 c3 c4 d0 d1 d2 d3 d4
          go_wp2
          go_region_held_law (fun w'=>w'.cell? ⟨b,off+k * 5,none⟩=some (.int .i64 kd)/\w'.cell? ⟨b,off+k * 5+1,none⟩=some (.string fr)/\w'.cell? ⟨b,off+k * 5+2,none⟩=some (.string tO)/\w'.cell? ⟨b,off+k * 5+3,none⟩=some (.int .i64 am)/\w'.cell? ⟨b,off+k * 5+4,none⟩=some (.int .i64 no)/\w'.cell? ⟨b2,off2+k * 5,none⟩=some (.int .i64 kd)/\w'.cell? ⟨b2,off2+k * 5+1,none⟩=some (.string fr)/\w'.cell? ⟨b2,off2+k * 5+2,none⟩=some (.string tO)/\w'.cell? ⟨b2,off2+k * 5+3,none⟩=some (.int .i64 am)/\w'.cell? ⟨b2,off2+k * 5+4,none⟩=some (.int .i64 no)) (first | exact hS1 | exact hS2) ((go_at_call 121;refine HE.out.mono ?_;rintro e w2 ⟨rfl,hb2⟩;have hz:=hs.size;have hS2:w2.cell? ⟨b,off+k * 5,none⟩=some (.int .i64 kd)/\w2.cell? ⟨b,off+k * 5+1,none⟩=some (.string fr)/\w2.cell? ⟨b,off+k * 5+2,none⟩=some (.string tO)/\w2.cell? ⟨b,off+k * 5+3,none⟩=some (.int .i64 am)/\w2.cell? ⟨b,off+k * 5+4,none⟩=some (.int .i64 no)/\w2.cell? ⟨b2,off2+k * 5,none⟩=some (.int .i64 kd)/\w2.cell? ⟨b2,off2+k * 5+1,none⟩=some (.string fr)/\w2.cell? ⟨b2,off2+k * 5+2,none⟩=some (.string tO)/\w2.cell? ⟨b2,off2+k * 5+3,none⟩=some (.int .i64 am)/\w2.cell? ⟨b2,off2+k * 5+4,none⟩=some (.int .i64 no):=⟨(hb2.cell (p:=⟨b,off+k * 5,none⟩) (Nat.lt_of_lt_of_le h3 hz)).trans hS1.1,(hb2.cell (p:=⟨b,off+k * 5+1,none⟩) (Nat.lt_of_lt_of_le h3 hz)).trans hS1.2.1,(hb2.cell (p:=⟨b,off+k * 5+2,none⟩) (Nat.lt_of_lt_of_le h3 hz)).trans hS1.2.2.1,(hb2.cell (p:=⟨b,off+k * 5+3,none⟩) (Nat.lt_of_lt_of_le h3 hz)).trans hS1.2.2.2.1,(hb2.cell (p:=⟨b,off+k * 5+4,none⟩) (Nat.lt_of_lt_of_le h3 hz)).trans hS1.2.2.2.2.1,(hb2.cell (p:=⟨b2,off2+k * 5,none⟩) (Nat.lt_of_lt_of_le g3 hz)).trans hS1.2.2.2.2.2.1,(hb2.cell (p:=⟨b2,off2+k * 5+1,none⟩) (Nat.lt_of_lt_of_le g3 hz)).trans hS1.2.2.2.2.2.2.1,(hb2.cell (p:=⟨b2,off2+k * 5+2,none⟩) (Nat.lt_of_lt_of_le g3 hz)).trans hS1.2.2.2.2.2.2.2.1,(hb2.cell (p:=⟨b2,off2+k * 5+3,none⟩) (Nat.lt_of_lt_of_le g3 hz)).trans hS1.2.2.2.2.2.2.2.2.1,(hb2.cell (p:=⟨b2,off2+k * 5+4,none⟩) (Nat.lt_of_lt_of_le g3 hz)).trans hS1.2.2.2.2.2.2.2.2.2⟩))
          go_wp2
          go_roundw
          case rel=>exact ⟨k+1,by omega,by go_num,hs.drew.trans (hb2.mono hs.size)⟩
          case measure=>simp [intOf];omega
        · go_wp2
          go_ret
          exact ⟨rfl,hs⟩
def wgT (t:Tx5):Nat:=t.2.1.size+t.2.2.1.size
def totT (l:List Tx5):Nat:=(l.map wgT).sum
theorem totT_snoc (l:List Tx5) (k:Nat) (h:k < l.length):totT (l.take (k+1))=totT (l.take k)+wgT l[k]:=by
  unfold totT
  rw [List.take_succ_eq_append_getElem h,List.map_append,List.sum_append]
  simp only [List.map_cons,List.map_nil,List.sum_cons,List.sum_nil,Nat.add_zero]
theorem szT_fit (t:Tx5) (r:Nat) (h:wgT t<=r):szT t (r:Int)=((r - wgT t:Nat):Int):=by
  unfold wgT at h
  unfold szT wgT
  rw [if_neg (by omega),if_neg (by omega)]
  omega
theorem szT_not (t:Tx5) (r:Nat) (h:¬ wgT t<=r):szT t (r:Int)=-1:=by
  unfold wgT at h
  unfold szT
  by_cases h1:(r:Int) - t.2.1.size < 0
  · rw [if_pos h1]
  · rw [if_neg h1,if_pos (by omega)]
end Go.Proofs.YtaidhenkijjcfaaGreat
namespace Go.Proofs.YtaidhenkijjcfaaGreat
open Go.RowKit Go.Sort
set_option linter.unusedVariables false
theorem sameV_regrown {P:Program} {f:FuncId} {args:Array Value} {w:World} {d:Nat} {os:Array Obj} {v:Value}
    (h:Calls P f args (grow (redrawn w d) os) fun e w'=>e=.returned v/\w'=grow (redrawn w d) os):Calls P f args (grow (redrawn w d) os) fun e w''=>e=.returned v/\∃ p:Regrown,w''=grow (redrawn w p.d) p.os :=
  h.mono fun _ _ ⟨he,hw⟩=>⟨he,⟨⟨d,os⟩,hw⟩⟩
def vl0:Vl:=(ByteArray.empty,0)
def valB (p:Vl):Bool:=nmB p.1 && inB p.2 1 1000000
def vlAt (l:List Vl) (i:Nat):Bool:=valB (l.getD i vl0) && (decide (i=0) || Op.bytesLess (l.getD (i - 1) vl0).1.toList (l.getD i vl0).1.toList)
def setB (l:List Vl):Bool:=(List.range l.length).all (vlAt l) && inB l.length 1 12
theorem set_no (l:List Vl) (k:Nat) (h:k < l.length) (hk:vlAt l k=false):setB l=false:=by
  unfold setB
  have:(List.range l.length).all (vlAt l)=false:=by
    rw [List.all_eq_false]
    exact ⟨k,List.mem_range.2 h,by simp [hk]⟩
  rw [this,Bool.false_and]
theorem set_yes (l:List Vl) (h:∀ j,j < l.length->vlAt l j=true):setB l=inB l.length 1 12:=by
  unfold setB
  have:(List.range l.length).all (vlAt l)=true:=by
    rw [List.all_eq_true]
    exact fun j hj=>h j (List.mem_range.1 hj)
  rw [this,Bool.true_and]
theorem vlAt_eq (l:List Vl) (k:Nat) (a:Vl) (h:k < l.length) (ha:l[k]=a):vlAt l k=((nmB a.1 && inB a.2 1 1000000) && (decide (k=0) || Op.bytesLess (l.getD (k - 1) vl0).1.toList a.1.toList)):=by
  have:l.getD k vl0=a:=by rw [List.getD_eq_getElem?_getD,List.getElem?_eq_getElem h,<- ha];rfl
  unfold vlAt;rw [this];rfl
theorem specSetOk_any (v:Value) (l:List Vl) (w:World) (hr:RdV w v l) (hl:l.length<=4000000) (hall:∀ a ∈ l,a.1.size<=maxLen) :
    Calls Tryz.prog 34 #[v] w fun e w'=>e=.returned (.bool (setB l))/\Below w.heap.size w w':=by
  rcases hr with ⟨a,cap,rfl,rfl,-⟩ | ⟨b,off,cap,h0,rfl,h1,h2,h3,h4⟩
  · go_enter Tryz.func34,Tryz.ntmps34
    go_wp2
    refine wp_loop_rounds 1 ?_
    rw [rounds_succ]
    go_wp2_with (go_at_call 90;refine (l1In_any _ _ _ _).mono ?_;rintro e w2 ⟨rfl,rfl⟩)
    go_ret
    exact ⟨rfl,Below.refl _ _⟩
  · have H4 := hide h4
    have Hs:=hide hall
    clear h4 hall
    go_enter Tryz.func34,Tryz.ntmps34
    go_wp2
    go_loopw [3] (fun i wr=>∃ k:Nat,k<=l.length/\i=.int .i64 k/\(∀ j,j < k->vlAt l j=true)/\Below w.heap.size w wr) (fun i _=>l.length - (intOf i).toNat)
    case atStart=>exact ⟨0,Nat.zero_le _,rfl,fun j hj=>by omega,Below.refl _ _⟩
    case round =>
      obtain ⟨k,hk,rfl,hok,hb⟩:=hrel
      have Hall:=hide hok
      clear hok
      by_cases hlt:k < l.length
      · obtain ⟨d0,d1⟩:=H4.out k hlt
        have c0:=(hb.cell (p:=⟨b,off+k * 2,none⟩) h3).trans d0
        have c1:=(hb.cell (p:=⟨b,off+k * 2+1,none⟩) h3).trans d1
        have hsz:=Hs.out l[k] (List.getElem_mem hlt)
        have Hok:=hide (vlAt_eq l k l[k] hlt rfl)
        have Hno:=hide (set_no l k hlt)
        have hli:(k:Int) < (l.length:Int):=by omega
        have Hnx:Hid (vlAt l k=true->∀ j,j < k+1->vlAt l j=true):=hide (fun h j hj=>by
          by_cases e:j=k
          · subst e;exact h
          · exact Hall.out j (by omega))
        have hprev:Hid (k ≥ 1->wr.cell? ⟨b,off+(k - 1) * 2,none⟩=some (.string (l.getD (k - 1) vl0).1)):=hide (fun hk1=>by
          rw [List.getD_eq_getElem?_getD,List.getElem?_eq_getElem (show k - 1 < l.length by omega)]
          exact (hb.cell (p:=⟨b,off+(k - 1) * 2,none⟩) h3).trans (H4.out (k - 1) (by omega)).1)
        clear d0 d1
        generalize l[k]=ak at c0 c1 Hok hsz
        generalize (l.getD (k - 1) vl0).1=pn at hprev Hok
        obtain ⟨nm,wt⟩:=ak
        simp only at c0 c1 Hok hsz
        have HN:=hide (fun (d:Nat) (os:Array Obj)=>sameV_regrown (specNameOk_any nm (grow (redrawn wr d) os) hsz))
        have HI:=hide (fun (d:Nat) (os:Array Obj)=>sameV_regrown (l1In_any wt 1 1000000 (grow (redrawn wr d) os)))
        have g0:=cell_regrown c0
        have g1:=cell_regrown c1
        clear c0 c1 hsz
        cases hn:nmB nm
        · have hf:=hide (Hno.out (by rw [Hok.out,hn];rfl))
          rw [hn] at HN
          clear hn hprev Hnx
          go_wp2
          refine wp_region_quiet_below (by kernel_rfl) (by kernel_rfl) ?_
          repeat (go_big_quiet_step ((first | (go_at_call 89;exact HN.out _ _) | (go_at_call 90;exact HI.out _ _))))
          refine wpQuiet_nil ?_
          intro _ hw'
          obtain ⟨⟨dq,osq⟩,hw''⟩:=hw'
          subst hw''
          go_wp2
          go_ret
          exact ⟨ret_bool hf.out.symm,hb.trans ((below_regrown wr dq osq).mono hb.size)⟩
        · rw [hn] at HN
          cases hi:inB wt 1 1000000
          · have hf:=hide (Hno.out (by rw [Hok.out,hn,hi];rfl))
            rw [hi] at HI
            clear hn hi hprev Hnx
            go_wp2
            refine wp_region_quiet_below (by kernel_rfl) (by kernel_rfl) ?_
            repeat (go_big_quiet_step ((first | (go_at_call 89;exact HN.out _ _) | (go_at_call 90;exact HI.out _ _))))
            refine wpQuiet_nil ?_
            intro _ hw'
            obtain ⟨⟨dq,osq⟩,hw''⟩:=hw'
            subst hw''
            go_wp2
            go_ret
            exact ⟨ret_bool hf.out.symm,hb.trans ((below_regrown wr dq osq).mono hb.size)⟩
          · rw [hi] at HI
            by_cases hk1:k < 1
            · have hd:decide (0 < k)=false:=by simp;omega
              have hd2:decide ((0:Int) < (k:Int))=false:=by simp;omega
              have Hnx:=hide (Hnx.out (by rw [Hok.out,hn,hi,show k=0 from by omega];rfl))
              clear hn hi hprev
              go_wp2
              refine wp_region_quiet_below (by kernel_rfl) (by kernel_rfl) ?_
              repeat (go_big_quiet_step ((first | (go_at_call 89;exact HN.out _ _) | (go_at_call 90;exact HI.out _ _))))
              refine wpQuiet_nil ?_
              intro _ hw'
              obtain ⟨⟨dq,osq⟩,hw''⟩:=hw'
              subst hw''
              go_wp2
              go_roundw
              case rel=>exact ⟨k+1,by omega,by go_num,Hnx.out,hb.trans ((below_regrown wr dq osq).mono hb.size)⟩
              case measure=>simp [intOf];omega
            · have hcp:=cell_regrown (hprev.out (by omega))
              clear hprev
              have hpos:(0:Int) < (k:Int):=by omega
              have hposN:0 < k:=by omega
              have hd1:decide (0 < k)=true:=by simp;omega
              have hix:((k:Int) - 1).toNat=k - 1:=by omega
              have hix1:(0:Int)<=(k:Int) - 1:=by omega
              have hix2:(k:Int) - 1 < (l.length:Int):=by omega
              cases hless:Op.bytesLess pn.toList nm.toList
              · have hf:=hide (Hno.out (by rw [Hok.out,hn,hi,hless];simp;omega))
                clear hn hi Hnx
                go_wp2
                refine wp_region_quiet_below (by kernel_rfl) (by kernel_rfl) ?_
                repeat (go_big_quiet_step ((first | (go_at_call 89;exact HN.out _ _) | (go_at_call 90;exact HI.out _ _))))
                refine wpQuiet_nil ?_
                intro _ hw'
                obtain ⟨⟨dq,osq⟩,hw''⟩:=hw'
                subst hw''
                go_wp2
                go_ret
                exact ⟨ret_bool hf.out.symm,hb.trans ((below_regrown wr dq osq).mono hb.size)⟩
              · have Hnx:=hide (Hnx.out (by rw [Hok.out,hn,hi,hless];simp))
                clear hn hi
                go_wp2
                refine wp_region_quiet_below (by kernel_rfl) (by kernel_rfl) ?_
                repeat (go_big_quiet_step ((first | (go_at_call 89;exact HN.out _ _) | (go_at_call 90;exact HI.out _ _))))
                refine wpQuiet_nil ?_
                intro _ hw'
                obtain ⟨⟨dq,osq⟩,hw''⟩:=hw'
                subst hw''
                go_wp2
                go_roundw
                case rel=>exact ⟨k+1,by omega,by go_num,Hnx.out,hb.trans ((below_regrown wr dq osq).mono hb.size)⟩
                case measure=>simp [intOf];omega
      · have hf:=hide (set_yes l (fun j hj=>Hall.out j (by omega)))
        go_wp2_with (go_at_call 90;refine (l1In_any _ _ _ _).mono ?_;rintro e w2 ⟨rfl,rfl⟩)
        go_ret
        exact ⟨ret_bool hf.out.symm,hb⟩
end Go.Proofs.YtaidhenkijjcfaaGreat
namespace Go.Proofs.YtaidhenkijjcfaaGreat
open Go.RowKit
set_option linter.unusedVariables false
structure Bk where
  id:Int
  ep:Int
  rd:Int
  md:ByteArray
  qr:Int
  qb:Int
  qw:List ByteArray
  tr:Int
  tw:List ByteArray
  th:List Int
  ts:List Tx5
  en:Bool
  nx:List Vl
  rt:ByteArray
structure Bv where
  q:Value
  w:Value
  h:Value
  t:Value
  n:Value
def bkC (b:Bk) (v:Bv):List Value:=[.int .i64 b.id,.int .i64 b.ep,.int .i64 b.rd,.string b.md,.int .i64 b.qr,.int .i64 b.qb,v.q,.int .i64 b.tr,v.w,v.h,v.t,.bool b.en,v.n,.string b.rt]
def bkV (b:Bk) (v:Bv):Value:=.agg #[.int .i64 b.id,.int .i64 b.ep,.int .i64 b.rd,.string b.md,.int .i64 b.qr,.int .i64 b.qb,v.q,.int .i64 b.tr,v.w,v.h,v.t,.bool b.en,v.n,.string b.rt]
structure RdK (w:World) (b:Bk) (v:Bv):Prop where
  q:RdS w v.q b.qw
  p:RdS w v.w b.tw
  h:RdI w v.h b.th
  t:RdT w v.t b.ts
  n:RdV w v.n b.nx
theorem RdK.below {B:Nat} {w w':World} {b:Bk} {v:Bv} (h:RdK w b v) (hb:Below B w w') (hB:w.heap.size<=B):RdK w' b v :=
  ⟨h.q.below hb hB,h.p.below hb hB,h.h.below hb hB,h.t.below hb hB,h.n.below hb hB⟩
structure FewK (b:Bk):Prop where
  q:b.qw.length<=4000000
  w:b.tw.length<=4000000
  h:b.th.length<=4000000
  t:b.ts.length<=4000000
  n:b.nx.length<=4000000
  qs:∀ s ∈ b.qw,s.size<=maxLen
  ws:∀ s ∈ b.tw,s.size<=maxLen
  ts:∀ t ∈ b.ts,t.2.1.size<=maxLen/\t.2.2.1.size<=maxLen
  ns:∀ p ∈ b.nx,p.1.size<=maxLen
  ms:b.md.size<=maxLen
  rs:b.rt.size<=maxLen
def q9B (b:Bk):Bool:=rootB b.qr b.qb b.qw || (inB b.qr 1 (wrap64 (b.rd - 1)) && (inB b.qb 0 (wrap64 (b.id - 1)) && nmsB b.qw))
def t9B (b:Bk):Bool:=noneB b.tr b.tw b.th || (inB b.tr 1 (wrap64 (b.rd - 1)) && (nmsB b.tw && (decide (b.th.length=b.tw.length) && hisB b.tr b.th)))
def e9B (b:Bk):Bool:=if b.en=true then setB b.nx && decide (b.rt.size=32) else decide (b.nx.length=0) && decide (b.rt=⟨#[]⟩)
def blB (b:Bk):Bool:=inB b.id 0 100000 && (inB b.ep 0 900 && (inB b.rd 1 10000 && (nmB b.md && (q9B b && (t9B b && (decide (b.ts.length<=4) && (b.ts.all txB && e9B b)))))))
end Go.Proofs.YtaidhenkijjcfaaGreat
