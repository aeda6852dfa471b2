/- A certificate of leavings by value. -/
import Derived.Test.YtaidhenkijjcfaaGreatZrVsEq
set_option maxRecDepth 20000
set_option maxHeartbeats 1000000
namespace Go.Proofs.YtaidhenkijjcfaaGreat
open Go.RowKit
set_option linter.unusedVariables false
structure OwnC (base hi:Nat) (w:World) (v:Value) (l:List Vl):Prop where
  own:OwnV base w v l
  top:∀ k,v.ownBlock=some k->k < hi
theorem OwnC.rd {base hi:Nat} {w:World} {v:Value} {l:List Vl} (h:OwnC base hi w v l):RdV w v l:=h.own.rd
theorem OwnC.below {B base hi:Nat} {w w':World} {v:Value} {l:List Vl} (h:OwnC base hi w v l) (hb:Below B w w') (hB:w.heap.size<=B):OwnC base hi w' v l:=⟨h.own.below hb hB,h.top⟩
theorem OwnC.btw {lo hi' base hi:Nat} {w w':World} {v:Value} {l:List Vl} (h:OwnC base hi w v l) (hb:Btw lo hi' w w') (hd:hi<=lo\/hi'<=base):OwnC base hi w' v l :=
  ⟨row_btw h.own hb (fun k hk=>by have h1:=h.top k hk;have h2:=h.own.ge k hk;omega),h.top⟩
theorem OwnV.oc {base:Nat} {w:World} {v:Value} {l:List Vl} (h:OwnV base w v l):OwnC base w.heap.size w v l:=⟨h,fun k hk=>h.lt k hk⟩
theorem OwnV.olderQ {base:Nat} {w:World} {v:Value} {l:List Vl} (h:OwnV base w v l) {g:Nat} (hg:g < base) (j:Nat) (u:Value):OwnV base (w.setCell ⟨g,j,none⟩ u) v l :=
  (h.oc.btw (Btw.of_grown (lo:=0) (hi:=base) (grown_set w g j u) (fun k hk=>⟨Nat.zero_le _,by cases hk;exact hg⟩)) (.inr (Nat.le_refl _))).own
open Classical in
theorem eqClient_any (e1 e2:Int) (v1 v2:Value) (l1 l2:List Vl) (w:World) (hr1:RdV w v1 l1) (hr2:RdV w v2 l2) (hl1:l1.length<=4000000) (hl2:l2.length<=4000000) :
    Calls Tryz.prog 12 #[lgV e1 v1,lgV e2 v2] w fun e w'=>e=.returned (.bool (decide (e1=e2) && decide (l1=l2)))/\Below w.heap.size w w':=by
  obtain ⟨a1,cv1,rfl⟩:=hr1.shape
  obtain ⟨a2,cv2,rfl⟩:=hr2.shape
  simp only [lgV] at *
  have hb3:Below w.heap.size w ((w.alloc (.cells #[.int .i64 e1,.slice a1 l1.length cv1] 35)).alloc (.cells #[.int .i64 e2,.slice a2 l2.length cv2] 35)):=((Below.refl _ w).alloc (Nat.le_refl _) _).alloc (by simp) _
  have HE:=hide (eqValS_any _ _ l1 l2 _ (hr1.below hb3 (Nat.le_refl _)) (hr2.below hb3 (Nat.le_refl _)) hl1 hl2)
  have Hb3:=hide hb3
  clear hb3 hr1 hr2
  generalize decide (l1=l2)=D at HE ⊢
  by_cases h1:e1=e2
  · rw [decide_eq_true h1,Bool.true_and]
    subst h1
    go_enter Tryz.func12,Tryz.ntmps12
    go_wp2_with fail
    refine HE.out.mono ?_
    rintro e w3 ⟨rfl,hb3⟩
    have HB:=hide (Hb3.out.trans (hb3.mono Hb3.out.size))
    clear hb3 Hb3 HE
    cases D
    · go_wp2
      go_ret
      exact ⟨rfl,HB.out⟩
    · go_wp2
      go_ret
      exact ⟨rfl,HB.out⟩
  · rw [decide_eq_false h1,Bool.false_and]
    have hq:(e1 != e2)=true:=by rw [bne_iff_ne];exact h1
    clear h1 HE
    go_enter Tryz.func12,Tryz.ntmps12
    go_wp2
    go_ret
    exact ⟨rfl,Hb3.out⟩
theorem markClient_any (e:Int) (v:Value) (l:List Vl) (k base hi:Nat) (w:World) (ho:OwnC base hi w v l) (hl:l.length<=10000000) (hk:k<=100000000) (hk0:0 < k) :
    Calls Tryz.prog 14 #[lgV e v,.int .i64 (k:Int)] w fun en w'=>en=.returned (.int .i64 ((k+2 * l.length:Nat):Int))/\OwnC base hi w' v (mkV k l.length)/\Btw base hi w w':=by
  obtain ⟨a1,cv1,rfl⟩:=ho.rd.shape
  simp only [lgV] at *
  have hb3:Below w.heap.size w (w.alloc (.cells #[.int .i64 e,.slice a1 l.length cv1] 35)):=(Below.refl _ w).alloc (Nat.le_refl _) _
  have HE:=hide (markValS_any _ l k base _ (ho.own.below hb3 (Nat.le_refl _)) hl hk hk0)
  have Hb3:=hide hb3
  have Hg:=hide (fun g (hg:(Value.slice a1 l.length cv1).ownBlock=some g)=>And.intro (ho.own.ge g hg) (ho.top g hg))
  clear hb3 ho
  generalize k+2 * l.length=kn at HE ⊢
  go_enter Tryz.func14,Tryz.ntmps14
  go_wp2_with fail
  refine HE.out.mono ?_
  rintro en w3 ⟨rfl,ho3,hg3⟩
  have Ho:=hide (OwnC.mk ho3 (fun g hg=>(Hg.out g hg).2))
  have HB:=hide ((Btw.of_below (lo:=base) (hi:=hi) Hb3.out).trans (Btw.of_grown hg3 Hg.out))
  clear ho3 hg3 HE Hb3 Hg
  go_wp2
  go_ret
  exact ⟨rfl,Ho.out,HB.out⟩
theorem heldClient_any (e:Int) (v:Value) (n k:Nat) (w:World) (hr:RdV w v (mkV k n)) (hl:n<=10000000) (hk:k<=100000000) (hk0:0 < k) :
    Calls Tryz.prog 16 #[lgV e v,.int .i64 (k:Int)] w fun en w'=>en=.returned (.int .i64 ((k+2 * n:Nat):Int))/\Below w.heap.size w w':=by
  obtain ⟨a1,cv1,hv⟩:=hr.shape
  have hb3:Below w.heap.size w (w.alloc (.cells #[.int .i64 e,v] 35)):=(Below.refl _ w).alloc (Nat.le_refl _) _
  have HE:=hide (heldValS_any _ k n _ (hr.below hb3 (Nat.le_refl _)) hl hk hk0)
  have Hb3:=hide hb3
  subst hv
  simp only [lgV] at *
  clear hb3 hr
  have hnn:¬ ((k+2 * n:Nat):Int) < 0:=by omega
  generalize ((k+2 * n:Nat):Int)=kn at HE hnn ⊢
  go_enter Tryz.func16,Tryz.ntmps16
  go_wp2_with fail
  refine HE.out.mono ?_
  rintro en w3 ⟨rfl,hb3⟩
  have HB:=hide (Hb3.out.trans (hb3.mono Hb3.out.size))
  clear hb3 Hb3 HE
  go_wp2
  go_ret
  exact ⟨rfl,HB.out⟩
def szR (ls:List ByteArray) (m:Nat):Int:=if ls.length+tot ls<=m then (m:Int) - ls.length - tot ls else -1
theorem tot_snoc (ls:List ByteArray) (k:Nat) (h:k < ls.length):tot (ls.take (k+1))=tot (ls.take k)+ls[k].size:=by
  rw [List.take_succ_eq_append_getElem h];simp only [tot,List.map_append,List.map_cons,List.map_nil,List.sum_append,List.sum_cons,List.sum_nil];omega
theorem tot_two (ls:List ByteArray) (k:Nat) (h:k < ls.length):tot (ls.take k)+ls[k].size<=tot ls:=by
  rw [<- tot_snoc ls k h];exact tot_take ls _
theorem szStringS_any (v:Value) (ls:List ByteArray) (m:Nat) (w:World) (hr:RdS w v ls) (hm:m<=100000000) (hl:ls.length<=9223372036854775807) (hs:∀ s ∈ ls,s.size<=9223372036854775807) :
    Calls Tryz.prog 88 #[v,.int .i64 (m:Int)] w fun e w'=>e=.returned (.int .i64 (szR ls m))/\w'=w:=by
  by_cases hn:m < ls.length
  · have hf:Hid (szR ls m=-1):=hide (by unfold szR;rw [if_neg (by omega)])
    obtain ⟨a,cap,rfl⟩:=hr.shape
    clear hr hs
    go_enter Tryz.func88,Tryz.ntmps88
    go_wp2
    go_ret
    exact ⟨ret_int hf.out.symm,rfl⟩
  · rcases hr with ⟨a,cap,rfl,rfl,-⟩ | ⟨b,off,cap,h0,rfl,h1,h2,h3,h4⟩
    · have hf:Hid (szR [] m=m):=hide (by unfold szR;simp [tot])
      go_enter Tryz.func88,Tryz.ntmps88
      go_wp2
      refine wp_loop_rounds 1 ?_
      rw [rounds_succ]
      go_wp2
      go_ret
      exact ⟨ret_int hf.out.symm,rfl⟩
    · have Hs:=hide hs
      have H4:=hide h4
      clear hs h4
      go_enter Tryz.func88,Tryz.ntmps88
      go_wp2
      go_loop [1,5] (fun mv iv=>∃ k r:Nat,k<=ls.length/\iv=.int .i64 (k:Int)/\mv=.int .i64 (r:Int)/\ls.length+tot (ls.take k)+r=m) (fun _ iv=>ls.length - (intOf iv).toNat)
      case atStart=>exact ⟨0,m - ls.length,Nat.zero_le _,rfl,by go_num,by simp [tot];omega⟩
      case round =>
        obtain ⟨k,r,hk,rfl,rfl,hrem⟩:=hrel
        have Hrem:=hide hrem
        have hrm:r<=m:=by omega
        clear hrem
        by_cases hlt:k < ls.length
        · have hc:=H4.out k hlt
          have hsz:=Hs.out ls[k] (List.getElem_mem hlt)
          have Hsn:=hide (tot_snoc ls k hlt)
          have Htw:=hide (tot_two ls k hlt)
          generalize ls[k]=s at hc hsz Hsn Htw
          by_cases hfit:s.size<=r
          · go_wp2
            go_round
            case rel=>exact ⟨k+1,r - s.size,by omega,by go_num,by go_num,by rw [Hsn.out];have:=Hrem.out;omega⟩
            case measure=>simp [intOf];omega
          · have hf:Hid (szR ls m=-1):=hide (by unfold szR;have:=Hrem.out;have:=Htw.out;rw [if_neg (by omega)])
            go_wp2
            go_ret
            exact ⟨ret_int hf.out.symm,rfl⟩
        · have hf:Hid (szR ls m=r):=hide (by
            have h:=Hrem.out
            rw [List.take_of_length_le (by omega)] at h
            unfold szR;rw [if_pos (by omega)];omega)
          go_wp2
          go_ret
          exact ⟨ret_int hf.out.symm,rfl⟩
theorem toStringS_any (v:Value) (l:List ByteArray) (w:World) (hr:RdS w v l) (hl:l.length<=4000000) :
    Calls Tryz.prog 97 #[v] w fun e w'=>∃ v',e=.returned v'/\OwnS w.heap.size w' v' l/\Below w.heap.size w w':=by
  obtain ⟨i0,hi,hz0,hz1,hz2⟩:=info_parts Tryz.infoStr
  rcases hr with ⟨a,cap,rfl,rfl,-⟩ | ⟨b,off,cap,h0,rfl,h1,h2,h3,h4⟩
  · go_enter Tryz.func97,Tryz.ntmps97
    go_wp2_with (refine wpList_make_full _ rfl _ _ 26 rfl w.heap.size 9 i0 (.string ByteArray.empty) 1 Tryz.underlying26 hi hz0 hz1 .i64 .i64 _ _ 0 rfl rfl rfl rfl (by omega) (by unfold maxLen;omega) (Nat.le_refl _) ?_;intro w1 hown hgrow)
    have hb1:Below w.heap.size w w1:=(Below.refl _ _).grown hgrow (Nat.le_refl _) (by intro k hk;cases hk)
    refine wp_loop_rounds 1 ?_
    rw [rounds_succ]
    go_wp2
    go_ret
    have ho':OwnS w.heap.size w1 (.slice (some ⟨w.heap.size,0,none⟩) 0 0) []:=by
      rw [show (madeCells (Value.string ByteArray.empty).cells (0 * 1)).toList=[] from toList_madeCells_one _ _] at hown
      exact hown
    exact ⟨_,rfl,ho',hb1⟩
  · have H4:=hide h4
    clear h4
    go_enter Tryz.func97,Tryz.ntmps97
    go_wp2_with (refine wpList_make_full _ rfl _ _ 26 rfl w.heap.size 9 i0 (.string ByteArray.empty) 1 Tryz.underlying26 hi hz0 hz1 .i64 .i64 _ _ l.length rfl rfl rfl rfl (by rw [hz2];omega) (by unfold maxLen;omega) (Nat.le_refl _) ?_;intro w1 hown hgrow)
    have hb1:Below w.heap.size w w1:=(Below.refl _ _).grown hgrow (Nat.le_refl _) (by intro k hk;cases hk)
    obtain ⟨Z,hZ,hZl⟩:∃ Z:List ByteArray,List.replicate l.length ByteArray.empty=Z/\l.length=Z.length:=⟨_,rfl,by simp⟩
    have HZ:=hide hZ
    have HZl:=hide hZl
    clear hZ hZl
    go_loopw [4] (fun i wr=>∃ k:Nat,k<=l.length/\i=.int .i64 k/\wr.ownsRow w.heap.size 9 1 (.slice (some ⟨w.heap.size,0,none⟩) l.length l.length) l.length ((l.take k ++ Z.drop k).map Value.string)/\Below w.heap.size w wr)
      (fun i _=>l.length - (intOf i).toNat)
    case atStart =>
      refine ⟨0,Nat.zero_le _,rfl,?_,hb1⟩
      have e:(madeCells (Value.string ByteArray.empty).cells (l.length * 1)).toList=List.replicate l.length (Value.string ByteArray.empty):=by
        rw [Nat.mul_one];exact toList_madeCells_one _ _
      rw [e] at hown
      simpa [<- HZ.out] using hown
    case round =>
      obtain ⟨k,hk,rfl,ho,hb⟩:=hrel
      clear hown hgrow hb1
      by_cases hlt:k < l.length
      · have hc:wr.cell? ⟨b,off+k,none⟩=some (.string l[k]):=(hb.cell (p:=⟨b,off+k,none⟩) h3).trans (H4.out k hlt)
        have hf:=ho.frozenAt k
        have hd:=ho.cellAt k (by omega)
        obtain ⟨u,hu⟩:∃ u,((l.take k ++ Z.drop k).map Value.string)[k]?=some u:=⟨_,List.getElem?_eq_getElem (by have:=HZl.out;simp;omega)⟩
        rw [hu] at hd
        have hst:=(ho.stored k (.string l[k])).1
        rw [gen_set l Z Value.string k HZl.out hlt] at hst
        have Hst:=hide hst
        have Hb:=hide hb
        clear hst hb ho hu
        go_wp2
        go_roundw
        case rel=>exact ⟨k+1,by omega,by go_num,Hst.out,Hb.out.setCell (Nat.le_refl _) _⟩
        case measure=>simp [intOf];omega
      · have e:l.take k ++ Z.drop k=l:=by
          rw [List.take_of_length_le (by omega),List.drop_of_length_le (by have:=HZl.out;omega),List.append_nil]
        rw [e] at ho
        have ho':OwnS w.heap.size wr (.slice (some ⟨w.heap.size,0,none⟩) l.length l.length) l:=ho
        clear ho e
        go_wp2
        go_ret
        exact ⟨_,rfl,ho',hb⟩
theorem eqStringS_any (v1 v2:Value) (l1 l2:List ByteArray) (w:World) (hr1:RdS w v1 l1) (hr2:RdS w v2 l2) (hl1:l1.length<=4000000) (hl2:l2.length<=4000000) :
    Calls Tryz.prog 106 #[v1,v2] w fun e w'=>e=.returned (.bool (decide (l1=l2)))/\Sm w w':=by
  by_cases hne:l1.length=l2.length
  · rcases hr1 with ⟨a,cap,rfl,rfl,-⟩ | ⟨b,off,cap,h0,rfl,h1,h2,h3,h4⟩
    · have e2:l2=[]:=List.length_eq_zero_iff.1 (by simpa using hne.symm)
      subst e2
      obtain ⟨a2,cap2,rfl⟩:=hr2.shape
      clear hr2
      go_enter Tryz.func106,Tryz.ntmps106
      go_wp2
      refine wp_loop_rounds 1 ?_
      rw [rounds_succ]
      go_wp2
      go_ret
      exact ⟨rfl,Sm.refl _⟩
    · rcases hr2 with ⟨a2,cap2,rfl,rfl,-⟩ | ⟨b2,off2,cap2,g0,rfl,g1,g2,g3,g4⟩
      · exact absurd (List.length_eq_zero_iff.1 (by simpa using hne)) h0
      · have Hne:=hide hne
        have hlen:((l1.length:Int) != (l2.length:Int))=false:=by rw [hne];simp
        have hle:l1.length<=l2.length:=by omega
        have hge:l2.length<=l1.length:=by omega
        have H4:=hide h4
        have G4:=hide g4
        clear hne h4 g4
        go_enter Tryz.func106,Tryz.ntmps106
        go_wp2
        go_loopw [5] (fun i wr=>∃ k:Nat,k<=l1.length/\i=.int .i64 k/\l1.take k=l2.take k/\Sm w wr) (fun i _=>l1.length - (intOf i).toNat)
        case atStart=>exact ⟨0,Nat.zero_le _,rfl,rfl,Sm.refl _⟩
        case round =>
          obtain ⟨k,hk,rfl,ht,hs⟩:=hrel
          have Ht:=hide ht
          clear ht
          by_cases hlt:k < l1.length
          · have hlt2:k < l2.length:=by omega
            have hc1:wr.cell? ⟨b,off+k,none⟩=some (.string l1[k]):=(hs.cell _).trans (H4.out k hlt)
            have hc2:wr.cell? ⟨b2,off2+k,none⟩=some (.string l2[k]):=(hs.cell _).trans (G4.out k hlt2)
            have hli:(k:Int) < (l1.length:Int):=by omega
            have hli2:(k:Int) < (l2.length:Int):=by omega
            by_cases he:l1[k]=l2[k]
            · have Hnx:=hide (take_eq_snoc hlt hlt2 Ht.out he)
              rw [<- he] at hc2
              clear he
              generalize l1[k]=s1 at hc1 hc2
              go_wp2
              go_quiet (fail)
              go_wp2
              go_roundw
              case rel=>exact ⟨k+1,by omega,by go_num,Hnx.out,hs.drewN _⟩
              case measure=>simp [intOf];omega
            · have hf:Hid (decide (l1=l2)=false):=hide (by rw [decide_eq_false];intro e;subst e;exact he rfl)
              have hq:=bytes_ne he
              clear he
              generalize l1[k]=s1 at hc1 hq
              generalize l2[k]=s2 at hc2 hq
              go_wp2
              go_quiet (fail)
              go_wp2
              go_ret
              exact ⟨ret_bool hf.out.symm,hs.drewN _⟩
          · have hf:Hid (decide (l1=l2)=true):=hide (by
              rw [decide_eq_true]
              have:=Ht.out
              rwa [List.take_of_length_le (by omega),List.take_of_length_le (by omega)] at this)
            go_wp2
            go_ret
            exact ⟨ret_bool hf.out.symm,hs⟩
  · obtain ⟨a,cap,rfl⟩:=hr1.shape
    obtain ⟨a2,cap2,rfl⟩:=hr2.shape
    clear hr1 hr2
    have hlen:((l1.length:Int) != (l2.length:Int))=true:=by rw [bne_iff_ne];omega
    have hf:Hid (decide (l1=l2)=false):=hide (by rw [decide_eq_false];intro e;subst e;exact hne rfl)
    clear hne
    go_enter Tryz.func106,Tryz.ntmps106
    go_wp2
    go_ret
    exact ⟨ret_bool hf.out.symm,Sm.refl _⟩
theorem int_ne {a b:Int} (h:a ≠ b):(a != b)=true:=by rw [bne_iff_ne];exact h
def RdI (w:World) (v:Value) (l:List Int):Prop :=
  (∃ a cap,v=.slice a 0 cap/\l=[]/\(a=none->cap=0)) \/
  ∃ b off cap,l ≠ []/\v=.slice (some ⟨b,off,none⟩) l.length cap/\l.length<=cap/\cap<=maxLen/\b < w.heap.size/\∀ i (h:i < l.length),w.cell? ⟨b,off+i,none⟩=some (.int .i64 l[i])
theorem RdI.shape {w:World} {v:Value} {l:List Int} (h:RdI w v l):∃ a cap,v=.slice a l.length cap:=by
  rcases h with ⟨a,cap,rfl,rfl,-⟩ | ⟨b,off,cap,h0,rfl,_⟩
  · exact ⟨a,cap,rfl⟩
  · exact ⟨_,cap,rfl⟩
theorem RdI.below {B:Nat} {w w':World} {v:Value} {l:List Int} (h:RdI w v l) (hb:Below B w w') (hB:w.heap.size<=B):RdI w' v l:=by
  rcases h with h | ⟨b,off,cap,h0,hv,h1,h2,h3,h4⟩
  · exact .inl h
  · exact .inr ⟨b,off,cap,h0,hv,h1,h2,by have:=hb.size;omega,fun i hi=>(hb.cell (p:=⟨b,off+i,none⟩) (by show b < B;omega)).trans (h4 i hi)⟩
def OwnI (base:Nat) (w:World) (v:Value) (l:List Int):Prop:=w.ownsRow base 3 1 v l.length (l.map (Value.int .i64))
theorem OwnI.rd {base:Nat} {w:World} {v:Value} {l:List Int} (h:OwnI base w v l):RdI w v l:=by
  rcases h.2 with ⟨hv,hn⟩ | ⟨g,cap,cur,hv,hb,hg,hnc,hcm,hcs,ht⟩
  · exact .inl ⟨none,0,hv,List.length_eq_zero_iff.1 hn,fun _=>rfl⟩
  · by_cases hl:l=[]
    · subst hl;exact .inl ⟨_,_,hv,rfl,fun h=>by cases h⟩
    · refine .inr ⟨g,0,cap,hl,hv,hnc,hcm,?_,?_⟩
      · exact (Array.getElem?_eq_some_iff.1 hg).1
      · intro i hi
        have h':w.ownsRow base 3 1 (.slice (some ⟨g,0,none⟩) l.length cap) l.length (l.map (Value.int .i64)):=hv ▸ h
        rw [show 0+i=i from by omega,h'.cellAt i (by omega)]
        simp [hi]
theorem OwnI.below {B base:Nat} {w w':World} {v:Value} {l:List Int} (h:OwnI base w v l) (hb:Below B w w') (hB:w.heap.size<=B):OwnI base w' v l:=by
  refine ⟨h.1,?_⟩
  rcases h.2 with h' | ⟨g,cap,cur,hv,hbb,hg,r⟩
  · exact .inl h'
  · refine .inr ⟨g,cap,cur,hv,hbb,?_,r⟩
    have hlt:g < w.heap.size:=(Array.getElem?_eq_some_iff.1 hg).1
    rw [hb.block g (by omega)];exact hg
theorem OwnI.mono {base base':Nat} {w:World} {v:Value} {l:List Int} (h:OwnI base w v l) (hB:base'<=base):OwnI base' w v l:=by
  refine ⟨h.1,?_⟩
  rcases h.2 with h' | ⟨g,cap,cur,hv,hbb,r⟩
  · exact .inl h'
  · exact .inr ⟨g,cap,cur,hv,by omega,r⟩
theorem OwnI.ge {base:Nat} {w:World} {v:Value} {l:List Int} (h:OwnI base w v l):∀ k,v.ownBlock=some k->base<=k:=fun k hk=>(World.ownsRow.lt h k hk).1
theorem Tryz.infoI:(Tryz.prog.info? 3).map (fun i=>(i.zero,i.size,i.bytes))=some (some (.int .i64 0),1,8):=by kernel_rfl
theorem toIntS_any (v:Value) (l:List Int) (w:World) (hr:RdI w v l) (hl:l.length<=4000000) :
    Calls Tryz.prog 61 #[v] w fun e w'=>∃ v',e=.returned v'/\OwnI w.heap.size w' v' l/\Below w.heap.size w w':=by
  obtain ⟨i0,hi,hz0,hz1,hz2⟩:=info_parts Tryz.infoI
  rcases hr with ⟨a,cap,rfl,rfl,-⟩ | ⟨b,off,cap,h0,rfl,h1,h2,h3,h4⟩
  · go_enter Tryz.func61,Tryz.ntmps61
    go_wp2_with (refine wpList_make_full _ rfl _ _ 52 rfl w.heap.size 3 i0 (.int .i64 0) 1 Tryz.underlying52 hi hz0 hz1 .i64 .i64 _ _ 0 rfl rfl rfl rfl (by omega) (by unfold maxLen;omega) (Nat.le_refl _) ?_;intro w1 hown hgrow)
    have hb1:Below w.heap.size w w1:=(Below.refl _ _).grown hgrow (Nat.le_refl _) (by intro k hk;cases hk)
    refine wp_loop_rounds 1 ?_
    rw [rounds_succ]
    go_wp2
    go_ret
    have ho':OwnI w.heap.size w1 (.slice (some ⟨w.heap.size,0,none⟩) 0 0) []:=by
      rw [show (madeCells (Value.int .i64 0).cells (0 * 1)).toList=[] from toList_madeCells_one _ _] at hown
      exact hown
    exact ⟨_,rfl,ho',hb1⟩
  · have H4:=hide h4
    clear h4
    go_enter Tryz.func61,Tryz.ntmps61
    go_wp2_with (refine wpList_make_full _ rfl _ _ 52 rfl w.heap.size 3 i0 (.int .i64 0) 1 Tryz.underlying52 hi hz0 hz1 .i64 .i64 _ _ l.length rfl rfl rfl rfl (by rw [hz2];omega) (by unfold maxLen;omega) (Nat.le_refl _) ?_;intro w1 hown hgrow)
    have hb1:Below w.heap.size w w1:=(Below.refl _ _).grown hgrow (Nat.le_refl _) (by intro k hk;cases hk)
    obtain ⟨Z,hZ,hZl⟩:∃ Z:List Int,List.replicate l.length (0:Int)=Z/\l.length=Z.length:=⟨_,rfl,by simp⟩
    have HZ:=hide hZ
    have HZl:=hide hZl
    clear hZ hZl
    go_loopw [4] (fun i wr=>∃ k:Nat,k<=l.length/\i=.int .i64 k/\wr.ownsRow w.heap.size 3 1 (.slice (some ⟨w.heap.size,0,none⟩) l.length l.length) l.length ((l.take k ++ Z.drop k).map (Value.int .i64))/\Below w.heap.size w wr)
      (fun i _=>l.length - (intOf i).toNat)
    case atStart =>
      refine ⟨0,Nat.zero_le _,rfl,?_,hb1⟩
      have e:(madeCells (Value.int .i64 0).cells (l.length * 1)).toList=List.replicate l.length (Value.int .i64 0):=by
        rw [Nat.mul_one];exact toList_madeCells_one _ _
      rw [e] at hown
      simpa [<- HZ.out] using hown
    case round =>
      obtain ⟨k,hk,rfl,ho,hb⟩:=hrel
      clear hown hgrow hb1
      by_cases hlt:k < l.length
      · have hc:wr.cell? ⟨b,off+k,none⟩=some (.int .i64 l[k]):=(hb.cell (p:=⟨b,off+k,none⟩) h3).trans (H4.out k hlt)
        have hf:=ho.frozenAt k
        have hd:=ho.cellAt k (by omega)
        obtain ⟨u,hu⟩:∃ u,((l.take k ++ Z.drop k).map (Value.int .i64))[k]?=some u:=⟨_,List.getElem?_eq_getElem (by have:=HZl.out;simp;omega)⟩
        rw [hu] at hd
        have hst:=(ho.stored k (.int .i64 l[k])).1
        rw [gen_set l Z (Value.int .i64) k HZl.out hlt] at hst
        have Hst:=hide hst
        have Hb:=hide hb
        clear hst hb ho hu
        go_wp2
        go_roundw
        case rel=>exact ⟨k+1,by omega,by go_num,Hst.out,Hb.out.setCell (Nat.le_refl _) _⟩
        case measure=>simp [intOf];omega
      · have e:l.take k ++ Z.drop k=l:=by
          rw [List.take_of_length_le (by omega),List.drop_of_length_le (by have:=HZl.out;omega),List.append_nil]
        rw [e] at ho
        have ho':OwnI w.heap.size wr (.slice (some ⟨w.heap.size,0,none⟩) l.length l.length) l:=ho
        clear ho e
        go_wp2
        go_ret
        exact ⟨_,rfl,ho',hb⟩
theorem eqIntS_any (v1 v2:Value) (l1 l2:List Int) (w:World) (hr1:RdI w v1 l1) (hr2:RdI w v2 l2) (hl1:l1.length<=4000000) (hl2:l2.length<=4000000) :
    Calls Tryz.prog 69 #[v1,v2] w fun e w'=>e=.returned (.bool (decide (l1=l2)))/\Sm w w':=by
  by_cases hne:l1.length=l2.length
  · rcases hr1 with ⟨a,cap,rfl,rfl,-⟩ | ⟨b,off,cap,h0,rfl,h1,h2,h3,h4⟩
    · have e2:l2=[]:=List.length_eq_zero_iff.1 (by simpa using hne.symm)
      subst e2
      obtain ⟨a2,cap2,rfl⟩:=hr2.shape
      clear hr2
      go_enter Tryz.func69,Tryz.ntmps69
      go_wp2
      refine wp_loop_rounds 1 ?_
      rw [rounds_succ]
      go_wp2
      go_ret
      exact ⟨rfl,Sm.refl _⟩
    · rcases hr2 with ⟨a2,cap2,rfl,rfl,-⟩ | ⟨b2,off2,cap2,g0,rfl,g1,g2,g3,g4⟩
      · exact absurd (List.length_eq_zero_iff.1 (by simpa using hne)) h0
      · have Hne:=hide hne
        have hlen:((l1.length:Int) != (l2.length:Int))=false:=by rw [hne];simp
        have hle:l1.length<=l2.length:=by omega
        have hge:l2.length<=l1.length:=by omega
        have H4:=hide h4
        have G4:=hide g4
        clear hne h4 g4
        go_enter Tryz.func69,Tryz.ntmps69
        go_wp2
        go_loopw [5] (fun i wr=>∃ k:Nat,k<=l1.length/\i=.int .i64 k/\l1.take k=l2.take k/\Sm w wr) (fun i _=>l1.length - (intOf i).toNat)
        case atStart=>exact ⟨0,Nat.zero_le _,rfl,rfl,Sm.refl _⟩
        case round =>
          obtain ⟨k,hk,rfl,ht,hs⟩:=hrel
          have Ht:=hide ht
          clear ht
          by_cases hlt:k < l1.length
          · have hlt2:k < l2.length:=by omega
            have hc1:wr.cell? ⟨b,off+k,none⟩=some (.int .i64 l1[k]):=(hs.cell _).trans (H4.out k hlt)
            have hc2:wr.cell? ⟨b2,off2+k,none⟩=some (.int .i64 l2[k]):=(hs.cell _).trans (G4.out k hlt2)
            have hli:(k:Int) < (l1.length:Int):=by omega
            have hli2:(k:Int) < (l2.length:Int):=by omega
            by_cases he:l1[k]=l2[k]
            · have Hnx:=hide (take_eq_snoc hlt hlt2 Ht.out he)
              rw [<- he] at hc2
              clear he
              generalize l1[k]=s1 at hc1 hc2
              go_wp2
              go_quiet (fail)
              go_wp2
              go_roundw
              case rel=>exact ⟨k+1,by omega,by go_num,Hnx.out,hs.drewN _⟩
              case measure=>simp [intOf];omega
            · have hf:Hid (decide (l1=l2)=false):=hide (by rw [decide_eq_false];intro e;subst e;exact he rfl)
              have hq:=int_ne he
              clear he
              generalize l1[k]=s1 at hc1 hq
              generalize l2[k]=s2 at hc2 hq
              go_wp2
              go_quiet (fail)
              go_wp2
              go_ret
              exact ⟨ret_bool hf.out.symm,hs.drewN _⟩
          · have hf:Hid (decide (l1=l2)=true):=hide (by
              rw [decide_eq_true]
              have:=Ht.out
              rwa [List.take_of_length_le (by omega),List.take_of_length_le (by omega)] at this)
            go_wp2
            go_ret
            exact ⟨ret_bool hf.out.symm,hs⟩
  · obtain ⟨a,cap,rfl⟩:=hr1.shape
    obtain ⟨a2,cap2,rfl⟩:=hr2.shape
    clear hr1 hr2
    have hlen:((l1.length:Int) != (l2.length:Int))=true:=by rw [bne_iff_ne];omega
    have hf:Hid (decide (l1=l2)=false):=hide (by rw [decide_eq_false];intro e;subst e;exact hne rfl)
    clear hne
    go_enter Tryz.func69,Tryz.ntmps69
    go_wp2
    go_ret
    exact ⟨ret_bool hf.out.symm,Sm.refl _⟩
def tcV (r:Int) (vw vh:Value):Value:=.agg #[.int .i64 r,vw,vh]
theorem OwnS.olderC {base:Nat} {w:World} {v:Value} {l:List ByteArray} (h:OwnS base w v l) {g:Nat} (hg:g < base) (j:Nat) (u:Value):OwnS base (w.setCell ⟨g,j,none⟩ u) v l :=
  row_set h g j u (fun k hk=>by have:=h.ge k hk;omega)
theorem OwnI.olderC {base:Nat} {w:World} {v:Value} {l:List Int} (h:OwnI base w v l) {g:Nat} (hg:g < base) (j:Nat) (u:Value):OwnI base (w.setCell ⟨g,j,none⟩ u) v l :=
  row_set h g j u (fun k hk=>by have:=h.ge k hk;omega)
theorem Blk.setC {W:World} {B:Nat} {t:TypeId} {cs:List Value} (h:Blk W B t cs) (j:Nat) (u:Value):Blk (W.setCell ⟨B,j,none⟩ u) B t (cs.set j u):=by
  have e:=heap_setCell_same W B j cs.toArray t u h
  simpa [Blk] using e
theorem Blk.otherC {W:World} {B:Nat} {t:TypeId} {cs:List Value} (h:Blk W B t cs) (g j:Nat) (u:Value) (hne:B ≠ g):Blk (W.setCell ⟨g,j,none⟩ u) B t cs:=(heap_setCell_other W ⟨g,j,none⟩ B u hne).trans h
theorem toTc_any (r:Int) (vw vh:Value) (ws:List ByteArray) (hs:List Int) (w:World) (hrw:RdS w vw ws) (hrh:RdI w vh hs) (hlw:ws.length<=4000000) (hlh:hs.length<=4000000) :
    Calls Tryz.prog 58 #[tcV r vw vh] w fun en w'=>∃ vw' vh',en=.returned (tcV r vw' vh')/\OwnS w.heap.size w' vw' ws/\OwnI w.heap.size w' vh' hs/\Below w.heap.size w w':=by
  obtain ⟨aw,cw,rfl⟩:=hrw.shape
  obtain ⟨ah,ch,rfl⟩:=hrh.shape
  have Hrw:=hide hrw
  have Hrh:=hide hrh
  clear hrw hrh
  simp only [tcV] at *
  go_enter Tryz.func58,Tryz.ntmps58
  go_wp2_with fail
  obtain ⟨w3,hw3⟩:∃ w3,((w.alloc (.cells #[.int .i64 r,.slice aw ws.length cw,.slice ah hs.length ch] 54)).alloc (.cells #[.int .i64 0,.slice none 0 0,.slice none 0 0] 67)).alloc (.cells #[.int .i64 r,.slice none 0 0,.slice none 0 0] 67)=w3:=⟨_,rfl⟩
  rw [hw3]
  have hb3:Below w.heap.size w w3:=by rw [<- hw3];exact (((Below.refl _ w).alloc (Nat.le_refl _) _).alloc (by simp) _).alloc (by simp;omega) _
  have hs3:w3.heap.size=w.heap.size+3:=by rw [<- hw3];simp
  have kP:Blk w3 w.heap.size 54 [.int .i64 r,.slice aw ws.length cw,.slice ah hs.length ch]:=by
    rw [<- hw3]
    exact (Blk.new w 54 [.int .i64 r,.slice aw ws.length cw,.slice ah hs.length ch]).below (((Below.refl (w.heap.size+1) _).alloc (by simp) _).alloc (by simp) _) (by omega)
  have kO:Blk w3 (w.heap.size+1+1) 67 [.int .i64 r,.slice none 0 0,.slice none 0 0]:=by
    rw [<- hw3]
    have h:=Blk.new ((w.alloc (.cells #[.int .i64 r,.slice aw ws.length cw,.slice ah hs.length ch] 54)).alloc (.cells #[.int .i64 0,.slice none 0 0,.slice none 0 0] 67)) 67 [.int .i64 r,.slice none 0 0,.slice none 0 0]
    simp only [World.size_alloc] at h
    exact h
  have kR:Blk w3 (w.heap.size+1) 67 [.int .i64 0,.slice none 0 0,.slice none 0 0]:=by
    rw [<- hw3]
    have h:=Blk.new (w.alloc (.cells #[.int .i64 r,.slice aw ws.length cw,.slice ah hs.length ch] 54)) 67 [.int .i64 0,.slice none 0 0,.slice none 0 0]
    simp only [World.size_alloc] at h
    exact h.below ((Below.refl (w.heap.size+2) _).alloc (by simp) _) (by omega)
  refine (toStringS_any _ ws _ (Hrw.out.below hb3 (Nat.le_refl _)) hlw).mono ?_
  rintro en w4 ⟨v4,rfl,o4,hb4⟩
  obtain ⟨a4,c4,rfl⟩:=o4.rd.shape
  have kP4:=kP.below hb4 (by omega)
  have kO4:=kO.below hb4 (by omega)
  have kR4:=kR.below hb4 (by omega)
  have hs4:=hb4.size
  have c0:=kO4.cell 0
  have c1:=kO4.cell 1
  have c2:=kO4.cell 2
  have g1:=kO4.frozen 1
  have p2:=kP4.cell 2
  simp only [List.getElem?_cons_zero,List.getElem?_cons_succ] at c0 c1 c2 p2
  obtain ⟨w5,hw5⟩:∃ x,w4.setCell ⟨w.heap.size+1+1,1,none⟩ (.slice a4 ws.length c4)=x:=⟨_,rfl⟩
  have kO5:Blk w5 (w.heap.size+1+1) 67 [.int .i64 r,.slice a4 ws.length c4,.slice none 0 0]:=by rw [<- hw5];exact kO4.setC 1 _
  have kR5:Blk w5 (w.heap.size+1) 67 [.int .i64 0,.slice none 0 0,.slice none 0 0]:=by rw [<- hw5];exact kR4.otherC _ 1 _ (by omega)
  have kP5:Blk w5 w.heap.size 54 [.int .i64 r,.slice aw ws.length cw,.slice ah hs.length ch]:=by rw [<- hw5];exact kP4.otherC _ 1 _ (by omega)
  have o5:OwnS w3.heap.size w5 (.slice a4 ws.length c4) ws:=by rw [<- hw5];exact o4.olderC (by omega) _ _
  have hb5:Below w.heap.size w w5:=by rw [<- hw5];exact (hb3.trans (hb4.mono hb3.size)).setCell (p:=⟨w.heap.size+1+1,1,none⟩) (show w.heap.size<=w.heap.size+1+1 by omega) _
  have hs5:w5.heap.size=w4.heap.size:=by rw [<- hw5];simp
  have HI:=hide (toIntS_any _ hs w5 (Hrh.out.below hb5 (Nat.le_refl _)) hlh)
  have q2:=kP5.cell 2
  simp only [List.getElem?_cons_zero,List.getElem?_cons_succ] at q2
  have O5:=hide o5
  have KO:=hide kO5
  have KR:=hide kR5
  have HB:=hide hb5
  have HS:=hide hs5
  clear o4 hb4 kO kR kP kO4 kR4 kP4 hw3 hb3 o5 kO5 kR5 kP5 hb5 hs5
  go_wp2_with fail
  refine HI.out.mono ?_
  rintro en w6 ⟨v6,rfl,o6,hb6⟩
  obtain ⟨a6,c6,rfl⟩:=o6.rd.shape
  have hs5:=HS.out
  have k6:=KO.out.below hb6 KO.out.lt
  have r6:=KR.out.below hb6 KR.out.lt
  have d0:=k6.cell 0
  have d1:=k6.cell 1
  have d2:=k6.cell 2
  have f2:=k6.frozen 2
  have e0:=r6.cell 0
  have e1:=r6.cell 1
  have e2:=r6.cell 2
  have f3:=r6.frozen 0
  have f4:=r6.frozen 1
  have f5:=r6.frozen 2
  simp only [List.getElem?_cons_zero,List.getElem?_cons_succ] at d0 d1 d2 e0 e1 e2
  have HoW:=hide (((((O5.out.below hb6 (Nat.le_refl _)).olderC (g:=w.heap.size+1+1) (by omega) 2 (.slice a6 hs.length c6)).olderC (g:=w.heap.size+1) (by omega) 0 (.int .i64 r)).olderC (g:=w.heap.size+1) (by omega) 1 (.slice a4 ws.length c4)).olderC (g:=w.heap.size+1) (by omega) 2 (.slice a6 hs.length c6))
  have HoH:=hide ((((o6.olderC (g:=w.heap.size+1+1) (by omega) 2 (.slice a6 hs.length c6)).olderC (g:=w.heap.size+1) (by omega) 0 (.int .i64 r)).olderC (g:=w.heap.size+1) (by omega) 1 (.slice a4 ws.length c4)).olderC (g:=w.heap.size+1) (by omega) 2 (.slice a6 hs.length c6))
  have HB6:=hide (((((HB.out.trans (hb6.mono HB.out.size)).setCell (p:=⟨w.heap.size+1+1,2,none⟩) (show w.heap.size<=w.heap.size+1+1 by omega) (.slice a6 hs.length c6)).setCell (p:=⟨w.heap.size+1,0,none⟩) (show w.heap.size<=w.heap.size+1 by omega) (.int .i64 r)).setCell (p:=⟨w.heap.size+1,1,none⟩) (show w.heap.size<=w.heap.size+1 by omega) (.slice a4 ws.length c4)).setCell (p:=⟨w.heap.size+1,2,none⟩) (show w.heap.size<=w.heap.size+1 by omega) (.slice a6 hs.length c6))
  have hb3:w.heap.size<=w3.heap.size:=by omega
  have hb4:w.heap.size<=w5.heap.size:=by omega
  clear o6 hb6 k6 r6 hs5 O5 HI
  go_wp2
  refine bodyPost_ret (v:=.agg #[.int .i64 r,.slice a4 ws.length c4,.slice a6 hs.length c6]) (by simp [results,Tryz.f58,go_sem,e0,e1,e2]) rfl ?_
  exact ⟨_,_,rfl,HoW.out.mono hb3,HoH.out.mono hb4,HB6.out⟩
theorem eqTc_any (r:Int) (vw1 vh1 vw2 vh2:Value) (ws:List ByteArray) (hs:List Int) (w:World) (h1:RdS w vw1 ws) (h2:RdI w vh1 hs) (h3:RdS w vw2 ws) (h4:RdI w vh2 hs) (hlw:ws.length<=4000000) (hlh:hs.length<=4000000) :
    Calls Tryz.prog 66 #[tcV r vw1 vh1,tcV r vw2 vh2] w fun en w'=>en=.returned (.bool true)/\Below w.heap.size w w':=by
  obtain ⟨a1,c1,rfl⟩:=h1.shape
  obtain ⟨a2,c2,rfl⟩:=h2.shape
  obtain ⟨a3,c3,rfl⟩:=h3.shape
  obtain ⟨a4,c4,rfl⟩:=h4.shape
  simp only [tcV] at *
  obtain ⟨w2,hw2⟩:∃ w2,(w.alloc (.cells #[.int .i64 r,.slice a1 ws.length c1,.slice a2 hs.length c2] 67)).alloc (.cells #[.int .i64 r,.slice a3 ws.length c3,.slice a4 hs.length c4] 67)=w2:=⟨_,rfl⟩
  have hb2:Below w.heap.size w w2:=by rw [<- hw2];exact ((Below.refl _ w).alloc (Nat.le_refl _) _).alloc (by simp) _
  have kA:Blk w2 w.heap.size 67 [.int .i64 r,.slice a1 ws.length c1,.slice a2 hs.length c2]:=by
    rw [<- hw2]
    exact (Blk.new w 67 [.int .i64 r,.slice a1 ws.length c1,.slice a2 hs.length c2]).below ((Below.refl (w.heap.size+1) _).alloc (by simp) _) (by omega)
  have kB:Blk w2 (w.heap.size+1) 67 [.int .i64 r,.slice a3 ws.length c3,.slice a4 hs.length c4]:=by
    rw [<- hw2]
    have h:=Blk.new (w.alloc (.cells #[.int .i64 r,.slice a1 ws.length c1,.slice a2 hs.length c2] 67)) 67 [.int .i64 r,.slice a3 ws.length c3,.slice a4 hs.length c4]
    simp only [World.size_alloc] at h
    exact h
  have HE:=hide (eqStringS_any _ _ ws ws w2 (h1.below hb2 (Nat.le_refl _)) (h3.below hb2 (Nat.le_refl _)) hlw hlw)
  rw [decide_eq_true rfl] at HE
  have HF:=hide (fun V (hb:Below w.heap.size w V)=>eqIntS_any (.slice a2 hs.length c2) (.slice a4 hs.length c4) hs hs V (h2.below hb (Nat.le_refl _)) (h4.below hb (Nat.le_refl _)) hlh hlh)
  rw [decide_eq_true rfl] at HF
  have x0:=kA.cell 0
  have x1:=kA.cell 1
  have x2:=kA.cell 2
  have y0:=kB.cell 0
  have y1:=kB.cell 1
  have y2:=kB.cell 2
  simp only [List.getElem?_cons_zero,List.getElem?_cons_succ] at x0 x1 x2 y0 y1 y2
  clear h1 h2 h3 h4
  go_enter Tryz.func66,Tryz.ntmps66
  go_wp2_with fail
  refine HE.out.mono ?_
  rintro en w3 ⟨rfl,hb3⟩
  have kA3:=kA.below (hb3 w2.heap.size) kA.lt
  have kB3:=kB.below (hb3 w2.heap.size) kB.lt
  have hB3:=hb2.trans (hb3 w.heap.size)
  have u2:=kA3.cell 2
  have z2:=kB3.cell 2
  simp only [List.getElem?_cons_zero,List.getElem?_cons_succ] at u2 z2
  clear x0 x1 x2 y0 y1 y2 kA kB kA3 kB3 hb3
  go_wp2_with fail
  refine (HF.out _ hB3).mono ?_
  rintro en w4 ⟨rfl,hb4⟩
  have hB4:=hB3.trans (hb4 w.heap.size)
  go_wp2
  go_ret
  exact ⟨rfl,hB4⟩
def highI (hs:List Int):Int:=hs.foldl (fun n x=>if n < x then x else n) 0
end Go.Proofs.YtaidhenkijjcfaaGreat
