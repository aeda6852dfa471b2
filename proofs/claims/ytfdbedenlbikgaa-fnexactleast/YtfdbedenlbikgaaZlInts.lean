/- Slices of numbers. -/
import Derived.Test.YtfdbedenlbikgaaZlStrs
set_option maxRecDepth 20000
set_option maxHeartbeats 400000
namespace Go.Proofs.Ytfdbedenlbikgaa
open Go.RowKit
set_option linter.unusedVariables false
def szR (ls:List ByteArray) (m:Nat):Int:=if ls.length+tot ls<=m then (m:Int) - ls.length - tot ls else -1
theorem tot_snoc (ls:List ByteArray) (k:Nat) (h:k < ls.length):tot (ls.take (k+1))=tot (ls.take k)+ls[k].size:=by
  rw [List.take_succ_eq_append_getElem h];simp only [tot,List.map_append,List.map_cons,List.map_nil,List.sum_append,List.sum_cons,List.sum_nil];omega
theorem tot_two (ls:List ByteArray) (k:Nat) (h:k < ls.length):tot (ls.take k)+ls[k].size<=tot ls:=by
  rw [<- tot_snoc ls k h];exact tot_take ls _
theorem szStringS_any (v:Value) (ls:List ByteArray) (m:Nat) (w:World) (hr:RdS w v ls) (hm:m<=100000000) (hl:ls.length<=9223372036854775807) (hs:∀ s ∈ ls,s.size<=9223372036854775807) :
    Calls Try.prog 13 #[v,.int .i64 (m:Int)] w fun e w'=>e=.returned (.int .i64 (szR ls m))/\w'=w:=by
  by_cases hn:m < ls.length
  · have hf:Hid (szR ls m=-1):=hide (by unfold szR;rw [if_neg (by omega)])
    obtain ⟨a,cap,rfl⟩:=hr.shape
    clear hr hs
    go_enter Try.func13,Try.ntmps13
    go_wp2
    go_ret
    exact ⟨ret_int hf.out.symm,rfl⟩
  · rcases hr with ⟨a,cap,rfl,rfl,-⟩ | ⟨b,off,cap,h0,rfl,h1,h2,h3,h4⟩
    · have hf:Hid (szR [] m=m):=hide (by unfold szR;simp [tot])
      go_enter Try.func13,Try.ntmps13
      go_wp2
      refine wp_loop_rounds 1 ?_
      rw [rounds_succ]
      go_wp2
      go_ret
      exact ⟨ret_int hf.out.symm,rfl⟩
    · have Hs:=hide hs
      have H4:=hide h4
      clear hs h4
      go_enter Try.func13,Try.ntmps13
      go_wp2
      go_loop [1,5] (fun mv iv=>∃ k r:Nat,k<=ls.length/\iv=.int .i64 (k:Int)/\mv=.int .i64 (r:Int)/\ls.length+tot (ls.take k)+r=m) (fun _ iv=>ls.length - (intOf iv).toNat)
      case atStart=>exact ⟨0,m - ls.length,Nat.zero_le _,rfl,by go_num,by simp [tot];omega⟩
      case round =>
        obtain ⟨k,r,hk,rfl,rfl,hrem⟩:=hrel
        have Hrem:=hide hrem
        have hrm:r<=m:=by omega
        clear hrem
        by_cases hlt:k < ls.length
        · have hc:=H4.out k hlt
          have hsz:=Hs.out ls[k] (List.getElem_mem hlt)
          have Hsn:=hide (tot_snoc ls k hlt)
          have Htw:=hide (tot_two ls k hlt)
          generalize ls[k]=s at hc hsz Hsn Htw
          by_cases hfit:s.size<=r
          · go_wp2
            go_round
            case rel=>exact ⟨k+1,r - s.size,by omega,by go_num,by go_num,by rw [Hsn.out];have:=Hrem.out;omega⟩
            case measure=>simp [intOf];omega
          · have hf:Hid (szR ls m=-1):=hide (by unfold szR;have:=Hrem.out;have:=Htw.out;rw [if_neg (by omega)])
            go_wp2
            go_ret
            exact ⟨ret_int hf.out.symm,rfl⟩
        · have hf:Hid (szR ls m=r):=hide (by
            have h:=Hrem.out
            rw [List.take_of_length_le (by omega)] at h
            unfold szR;rw [if_pos (by omega)];omega)
          go_wp2
          go_ret
          exact ⟨ret_int hf.out.symm,rfl⟩
theorem toStringS_any (v:Value) (l:List ByteArray) (w:World) (hr:RdS w v l) (hl:l.length<=4000000) :
    Calls Try.prog 19 #[v] w fun e w'=>∃ v',e=.returned v'/\OwnS w.heap.size w' v' l/\Below w.heap.size w w':=by
  obtain ⟨i0,hi,hz0,hz1,hz2⟩:=info_parts Try.infoStr
  rcases hr with ⟨a,cap,rfl,rfl,-⟩ | ⟨b,off,cap,h0,rfl,h1,h2,h3,h4⟩
  · go_enter Try.func19,Try.ntmps19
    go_wp2_with (refine wpList_make_full _ rfl _ _ 25 rfl w.heap.size 9 i0 (.string ByteArray.empty) 1 Try.underlying25 hi hz0 hz1 .i64 .i64 _ _ 0 rfl rfl rfl rfl (by omega) (by unfold maxLen;omega) (Nat.le_refl _) ?_;intro w1 hown hgrow)
    have hb1:Below w.heap.size w w1:=(Below.refl _ _).grown hgrow (Nat.le_refl _) (by intro k hk;cases hk)
    refine wp_loop_rounds 1 ?_
    rw [rounds_succ]
    go_wp2
    go_ret
    have ho':OwnS w.heap.size w1 (.slice (some ⟨w.heap.size,0,none⟩) 0 0) []:=by
      rw [show (madeCells (Value.string ByteArray.empty).cells (0 * 1)).toList=[] from toList_madeCells_one _ _] at hown
      exact hown
    exact ⟨_,rfl,ho',hb1⟩
  · have H4:=hide h4
    clear h4
    go_enter Try.func19,Try.ntmps19
    go_wp2_with (refine wpList_make_full _ rfl _ _ 25 rfl w.heap.size 9 i0 (.string ByteArray.empty) 1 Try.underlying25 hi hz0 hz1 .i64 .i64 _ _ l.length rfl rfl rfl rfl (by rw [hz2];omega) (by unfold maxLen;omega) (Nat.le_refl _) ?_;intro w1 hown hgrow)
    have hb1:Below w.heap.size w w1:=(Below.refl _ _).grown hgrow (Nat.le_refl _) (by intro k hk;cases hk)
    obtain ⟨Z,hZ,hZl⟩:∃ Z:List ByteArray,List.replicate l.length ByteArray.empty=Z/\l.length=Z.length:=⟨_,rfl,by simp⟩
    have HZ:=hide hZ
    have HZl:=hide hZl
    clear hZ hZl
    go_loopw [4] (fun i wr=>∃ k:Nat,k<=l.length/\i=.int .i64 k/\wr.ownsRow w.heap.size 9 1 (.slice (some ⟨w.heap.size,0,none⟩) l.length l.length) l.length ((l.take k ++ Z.drop k).map Value.string)/\Below w.heap.size w wr)
      (fun i _=>l.length - (intOf i).toNat)
    case atStart =>
      refine ⟨0,Nat.zero_le _,rfl,?_,hb1⟩
      have e:(madeCells (Value.string ByteArray.empty).cells (l.length * 1)).toList=List.replicate l.length (Value.string ByteArray.empty):=by
        rw [Nat.mul_one];exact toList_madeCells_one _ _
      rw [e] at hown
      simpa [<- HZ.out] using hown
    case round =>
      obtain ⟨k,hk,rfl,ho,hb⟩:=hrel
      clear hown hgrow hb1
      by_cases hlt:k < l.length
      · have hc:wr.cell? ⟨b,off+k,none⟩=some (.string l[k]):=(hb.cell (p:=⟨b,off+k,none⟩) h3).trans (H4.out k hlt)
        have hf:=ho.frozenAt k
        have hd:=ho.cellAt k (by omega)
        obtain ⟨u,hu⟩:∃ u,((l.take k ++ Z.drop k).map Value.string)[k]?=some u:=⟨_,List.getElem?_eq_getElem (by have:=HZl.out;simp;omega)⟩
        rw [hu] at hd
        have hst:=(ho.stored k (.string l[k])).1
        rw [gen_set l Z Value.string k HZl.out hlt] at hst
        have Hst:=hide hst
        have Hb:=hide hb
        clear hst hb ho hu
        go_wp2
        go_roundw
        case rel=>exact ⟨k+1,by omega,by go_num,Hst.out,Hb.out.setCell (Nat.le_refl _) _⟩
        case measure=>simp [intOf];omega
      · have e:l.take k ++ Z.drop k=l:=by
          rw [List.take_of_length_le (by omega),List.drop_of_length_le (by have:=HZl.out;omega),List.append_nil]
        rw [e] at ho
        have ho':OwnS w.heap.size wr (.slice (some ⟨w.heap.size,0,none⟩) l.length l.length) l:=ho
        clear ho e
        go_wp2
        go_ret
        exact ⟨_,rfl,ho',hb⟩
theorem eqStringS_any (v1 v2:Value) (l1 l2:List ByteArray) (w:World) (hr1:RdS w v1 l1) (hr2:RdS w v2 l2) (hl1:l1.length<=4000000) (hl2:l2.length<=4000000) :
    Calls Try.prog 27 #[v1,v2] w fun e w'=>e=.returned (.bool (decide (l1=l2)))/\Sm w w':=by
  by_cases hne:l1.length=l2.length
  · rcases hr1 with ⟨a,cap,rfl,rfl,-⟩ | ⟨b,off,cap,h0,rfl,h1,h2,h3,h4⟩
    · have e2:l2=[]:=List.length_eq_zero_iff.1 (by simpa using hne.symm)
      subst e2
      obtain ⟨a2,cap2,rfl⟩:=hr2.shape
      clear hr2
      go_enter Try.func27,Try.ntmps27
      go_wp2
      refine wp_loop_rounds 1 ?_
      rw [rounds_succ]
      go_wp2
      go_ret
      exact ⟨rfl,Sm.refl _⟩
    · rcases hr2 with ⟨a2,cap2,rfl,rfl,-⟩ | ⟨b2,off2,cap2,g0,rfl,g1,g2,g3,g4⟩
      · exact absurd (List.length_eq_zero_iff.1 (by simpa using hne)) h0
      · have Hne:=hide hne
        have hlen:((l1.length:Int) != (l2.length:Int))=false:=by rw [hne];simp
        have hle:l1.length<=l2.length:=by omega
        have hge:l2.length<=l1.length:=by omega
        have H4:=hide h4
        have G4:=hide g4
        clear hne h4 g4
        go_enter Try.func27,Try.ntmps27
        go_wp2
        go_loopw [5] (fun i wr=>∃ k:Nat,k<=l1.length/\i=.int .i64 k/\l1.take k=l2.take k/\Sm w wr) (fun i _=>l1.length - (intOf i).toNat)
        case atStart=>exact ⟨0,Nat.zero_le _,rfl,rfl,Sm.refl _⟩
        case round =>
          obtain ⟨k,hk,rfl,ht,hs⟩:=hrel
          have Ht:=hide ht
          clear ht
          by_cases hlt:k < l1.length
          · have hlt2:k < l2.length:=by omega
            have hc1:wr.cell? ⟨b,off+k,none⟩=some (.string l1[k]):=(hs.cell _).trans (H4.out k hlt)
            have hc2:wr.cell? ⟨b2,off2+k,none⟩=some (.string l2[k]):=(hs.cell _).trans (G4.out k hlt2)
            have hli:(k:Int) < (l1.length:Int):=by omega
            have hli2:(k:Int) < (l2.length:Int):=by omega
            by_cases he:l1[k]=l2[k]
            · have Hnx:=hide (take_eq_snoc hlt hlt2 Ht.out he)
              rw [<- he] at hc2
              clear he
              generalize l1[k]=s1 at hc1 hc2
              go_wp2
              go_quiet (fail)
              go_wp2
              go_roundw
              case rel=>exact ⟨k+1,by omega,by go_num,Hnx.out,hs.drewN _⟩
              case measure=>simp [intOf];omega
            · have hf:Hid (decide (l1=l2)=false):=hide (by rw [decide_eq_false];intro e;subst e;exact he rfl)
              have hq:=bytes_ne he
              clear he
              generalize l1[k]=s1 at hc1 hq
              generalize l2[k]=s2 at hc2 hq
              go_wp2
              go_quiet (fail)
              go_wp2
              go_ret
              exact ⟨ret_bool hf.out.symm,hs.drewN _⟩
          · have hf:Hid (decide (l1=l2)=true):=hide (by
              rw [decide_eq_true]
              have:=Ht.out
              rwa [List.take_of_length_le (by omega),List.take_of_length_le (by omega)] at this)
            go_wp2
            go_ret
            exact ⟨ret_bool hf.out.symm,hs⟩
  · obtain ⟨a,cap,rfl⟩:=hr1.shape
    obtain ⟨a2,cap2,rfl⟩:=hr2.shape
    clear hr1 hr2
    have hlen:((l1.length:Int) != (l2.length:Int))=true:=by rw [bne_iff_ne];omega
    have hf:Hid (decide (l1=l2)=false):=hide (by rw [decide_eq_false];intro e;subst e;exact hne rfl)
    clear hne
    go_enter Try.func27,Try.ntmps27
    go_wp2
    go_ret
    exact ⟨ret_bool hf.out.symm,Sm.refl _⟩
theorem int_ne {a b:Int} (h:a ≠ b):(a != b)=true:=by rw [bne_iff_ne];exact h
def RdI (w:World) (v:Value) (l:List Int):Prop :=
  (∃ a cap,v=.slice a 0 cap/\l=[]/\(a=none->cap=0)) \/
  ∃ b off cap,l ≠ []/\v=.slice (some ⟨b,off,none⟩) l.length cap/\l.length<=cap/\cap<=maxLen/\b < w.heap.size/\∀ i (h:i < l.length),w.cell? ⟨b,off+i,none⟩=some (.int .i64 l[i])
theorem RdI.shape {w:World} {v:Value} {l:List Int} (h:RdI w v l):∃ a cap,v=.slice a l.length cap:=by
  rcases h with ⟨a,cap,rfl,rfl,-⟩ | ⟨b,off,cap,h0,rfl,_⟩
  · exact ⟨a,cap,rfl⟩
  · exact ⟨_,cap,rfl⟩
theorem RdI.below {B:Nat} {w w':World} {v:Value} {l:List Int} (h:RdI w v l) (hb:Below B w w') (hB:w.heap.size<=B):RdI w' v l:=by
  rcases h with h | ⟨b,off,cap,h0,hv,h1,h2,h3,h4⟩
  · exact .inl h
  · exact .inr ⟨b,off,cap,h0,hv,h1,h2,by have:=hb.size;omega,fun i hi=>(hb.cell (p:=⟨b,off+i,none⟩) (by show b < B;omega)).trans (h4 i hi)⟩
def OwnI (base:Nat) (w:World) (v:Value) (l:List Int):Prop:=w.ownsRow base 3 1 v l.length (l.map (Value.int .i64))
theorem OwnI.rd {base:Nat} {w:World} {v:Value} {l:List Int} (h:OwnI base w v l):RdI w v l:=by
  rcases h.2 with ⟨hv,hn⟩ | ⟨g,cap,cur,hv,hb,hg,hnc,hcm,hcs,ht⟩
  · exact .inl ⟨none,0,hv,List.length_eq_zero_iff.1 hn,fun _=>rfl⟩
  · by_cases hl:l=[]
    · subst hl;exact .inl ⟨_,_,hv,rfl,fun h=>by cases h⟩
    · refine .inr ⟨g,0,cap,hl,hv,hnc,hcm,?_,?_⟩
      · exact (Array.getElem?_eq_some_iff.1 hg).1
      · intro i hi
        have h':w.ownsRow base 3 1 (.slice (some ⟨g,0,none⟩) l.length cap) l.length (l.map (Value.int .i64)):=hv ▸ h
        rw [show 0+i=i from by omega,h'.cellAt i (by omega)]
        simp [hi]
theorem OwnI.below {B base:Nat} {w w':World} {v:Value} {l:List Int} (h:OwnI base w v l) (hb:Below B w w') (hB:w.heap.size<=B):OwnI base w' v l:=by
  refine ⟨h.1,?_⟩
  rcases h.2 with h' | ⟨g,cap,cur,hv,hbb,hg,r⟩
  · exact .inl h'
  · refine .inr ⟨g,cap,cur,hv,hbb,?_,r⟩
    have hlt:g < w.heap.size:=(Array.getElem?_eq_some_iff.1 hg).1
    rw [hb.block g (by omega)];exact hg
theorem OwnI.mono {base base':Nat} {w:World} {v:Value} {l:List Int} (h:OwnI base w v l) (hB:base'<=base):OwnI base' w v l:=by
  refine ⟨h.1,?_⟩
  rcases h.2 with h' | ⟨g,cap,cur,hv,hbb,r⟩
  · exact .inl h'
  · exact .inr ⟨g,cap,cur,hv,by omega,r⟩
theorem OwnI.ge {base:Nat} {w:World} {v:Value} {l:List Int} (h:OwnI base w v l):∀ k,v.ownBlock=some k->base<=k:=fun k hk=>(World.ownsRow.lt h k hk).1
theorem Try.infoI:(Try.prog.info? 3).map (fun i=>(i.zero,i.size,i.bytes))=some (some (.int .i64 0),1,8):=by kernel_rfl
theorem toIntS_any (v:Value) (l:List Int) (w:World) (hr:RdI w v l) (hl:l.length<=4000000) :
    Calls Try.prog 65 #[v] w fun e w'=>∃ v',e=.returned v'/\OwnI w.heap.size w' v' l/\Below w.heap.size w w':=by
  obtain ⟨i0,hi,hz0,hz1,hz2⟩:=info_parts Try.infoI
  rcases hr with ⟨a,cap,rfl,rfl,-⟩ | ⟨b,off,cap,h0,rfl,h1,h2,h3,h4⟩
  · go_enter Try.func65,Try.ntmps65
    go_wp2_with (refine wpList_make_full _ rfl _ _ 55 rfl w.heap.size 3 i0 (.int .i64 0) 1 Try.underlying55 hi hz0 hz1 .i64 .i64 _ _ 0 rfl rfl rfl rfl (by omega) (by unfold maxLen;omega) (Nat.le_refl _) ?_;intro w1 hown hgrow)
    have hb1:Below w.heap.size w w1:=(Below.refl _ _).grown hgrow (Nat.le_refl _) (by intro k hk;cases hk)
    refine wp_loop_rounds 1 ?_
    rw [rounds_succ]
    go_wp2
    go_ret
    have ho':OwnI w.heap.size w1 (.slice (some ⟨w.heap.size,0,none⟩) 0 0) []:=by
      rw [show (madeCells (Value.int .i64 0).cells (0 * 1)).toList=[] from toList_madeCells_one _ _] at hown
      exact hown
    exact ⟨_,rfl,ho',hb1⟩
  · have H4:=hide h4
    clear h4
    go_enter Try.func65,Try.ntmps65
    go_wp2_with (refine wpList_make_full _ rfl _ _ 55 rfl w.heap.size 3 i0 (.int .i64 0) 1 Try.underlying55 hi hz0 hz1 .i64 .i64 _ _ l.length rfl rfl rfl rfl (by rw [hz2];omega) (by unfold maxLen;omega) (Nat.le_refl _) ?_;intro w1 hown hgrow)
    have hb1:Below w.heap.size w w1:=(Below.refl _ _).grown hgrow (Nat.le_refl _) (by intro k hk;cases hk)
    obtain ⟨Z,hZ,hZl⟩:∃ Z:List Int,List.replicate l.length (0:Int)=Z/\l.length=Z.length:=⟨_,rfl,by simp⟩
    have HZ:=hide hZ
    have HZl:=hide hZl
    clear hZ hZl
    go_loopw [4] (fun i wr=>∃ k:Nat,k<=l.length/\i=.int .i64 k/\wr.ownsRow w.heap.size 3 1 (.slice (some ⟨w.heap.size,0,none⟩) l.length l.length) l.length ((l.take k ++ Z.drop k).map (Value.int .i64))/\Below w.heap.size w wr)
      (fun i _=>l.length - (intOf i).toNat)
    case atStart =>
      refine ⟨0,Nat.zero_le _,rfl,?_,hb1⟩
      have e:(madeCells (Value.int .i64 0).cells (l.length * 1)).toList=List.replicate l.length (Value.int .i64 0):=by
        rw [Nat.mul_one];exact toList_madeCells_one _ _
      rw [e] at hown
      simpa [<- HZ.out] using hown
    case round =>
      obtain ⟨k,hk,rfl,ho,hb⟩:=hrel
      clear hown hgrow hb1
      by_cases hlt:k < l.length
      · have hc:wr.cell? ⟨b,off+k,none⟩=some (.int .i64 l[k]):=(hb.cell (p:=⟨b,off+k,none⟩) h3).trans (H4.out k hlt)
        have hf:=ho.frozenAt k
        have hd:=ho.cellAt k (by omega)
        obtain ⟨u,hu⟩:∃ u,((l.take k ++ Z.drop k).map (Value.int .i64))[k]?=some u:=⟨_,List.getElem?_eq_getElem (by have:=HZl.out;simp;omega)⟩
        rw [hu] at hd
        have hst:=(ho.stored k (.int .i64 l[k])).1
        rw [gen_set l Z (Value.int .i64) k HZl.out hlt] at hst
        have Hst:=hide hst
        have Hb:=hide hb
        clear hst hb ho hu
        go_wp2
        go_roundw
        case rel=>exact ⟨k+1,by omega,by go_num,Hst.out,Hb.out.setCell (Nat.le_refl _) _⟩
        case measure=>simp [intOf];omega
      · have e:l.take k ++ Z.drop k=l:=by
          rw [List.take_of_length_le (by omega),List.drop_of_length_le (by have:=HZl.out;omega),List.append_nil]
        rw [e] at ho
        have ho':OwnI w.heap.size wr (.slice (some ⟨w.heap.size,0,none⟩) l.length l.length) l:=ho
        clear ho e
        go_wp2
        go_ret
        exact ⟨_,rfl,ho',hb⟩
theorem eqIntS_any (v1 v2:Value) (l1 l2:List Int) (w:World) (hr1:RdI w v1 l1) (hr2:RdI w v2 l2) (hl1:l1.length<=4000000) (hl2:l2.length<=4000000) :
    Calls Try.prog 76 #[v1,v2] w fun e w'=>e=.returned (.bool (decide (l1=l2)))/\Sm w w':=by
  by_cases hne:l1.length=l2.length
  · rcases hr1 with ⟨a,cap,rfl,rfl,-⟩ | ⟨b,off,cap,h0,rfl,h1,h2,h3,h4⟩
    · have e2:l2=[]:=List.length_eq_zero_iff.1 (by simpa using hne.symm)
      subst e2
      obtain ⟨a2,cap2,rfl⟩:=hr2.shape
      clear hr2
      go_enter Try.func76,Try.ntmps76
      go_wp2
      refine wp_loop_rounds 1 ?_
      rw [rounds_succ]
      go_wp2
      go_ret
      exact ⟨rfl,Sm.refl _⟩
    · rcases hr2 with ⟨a2,cap2,rfl,rfl,-⟩ | ⟨b2,off2,cap2,g0,rfl,g1,g2,g3,g4⟩
      · exact absurd (List.length_eq_zero_iff.1 (by simpa using hne)) h0
      · have Hne:=hide hne
        have hlen:((l1.length:Int) != (l2.length:Int))=false:=by rw [hne];simp
        have hle:l1.length<=l2.length:=by omega
        have hge:l2.length<=l1.length:=by omega
        have H4:=hide h4
        have G4:=hide g4
        clear hne h4 g4
        go_enter Try.func76,Try.ntmps76
        go_wp2
        go_loopw [5] (fun i wr=>∃ k:Nat,k<=l1.length/\i=.int .i64 k/\l1.take k=l2.take k/\Sm w wr) (fun i _=>l1.length - (intOf i).toNat)
        case atStart=>exact ⟨0,Nat.zero_le _,rfl,rfl,Sm.refl _⟩
        case round =>
          obtain ⟨k,hk,rfl,ht,hs⟩:=hrel
          have Ht:=hide ht
          clear ht
          by_cases hlt:k < l1.length
          · have hlt2:k < l2.length:=by omega
            have hc1:wr.cell? ⟨b,off+k,none⟩=some (.int .i64 l1[k]):=(hs.cell _).trans (H4.out k hlt)
            have hc2:wr.cell? ⟨b2,off2+k,none⟩=some (.int .i64 l2[k]):=(hs.cell _).trans (G4.out k hlt2)
            have hli:(k:Int) < (l1.length:Int):=by omega
            have hli2:(k:Int) < (l2.length:Int):=by omega
            by_cases he:l1[k]=l2[k]
            · have Hnx:=hide (take_eq_snoc hlt hlt2 Ht.out he)
              rw [<- he] at hc2
              clear he
              generalize l1[k]=s1 at hc1 hc2
              go_wp2
              go_quiet (fail)
              go_wp2
              go_roundw
              case rel=>exact ⟨k+1,by omega,by go_num,Hnx.out,hs.drewN _⟩
              case measure=>simp [intOf];omega
            · have hf:Hid (decide (l1=l2)=false):=hide (by rw [decide_eq_false];intro e;subst e;exact he rfl)
              have hq:=int_ne he
              clear he
              generalize l1[k]=s1 at hc1 hq
              generalize l2[k]=s2 at hc2 hq
              go_wp2
              go_quiet (fail)
              go_wp2
              go_ret
              exact ⟨ret_bool hf.out.symm,hs.drewN _⟩
          · have hf:Hid (decide (l1=l2)=true):=hide (by
              rw [decide_eq_true]
              have:=Ht.out
              rwa [List.take_of_length_le (by omega),List.take_of_length_le (by omega)] at this)
            go_wp2
            go_ret
            exact ⟨ret_bool hf.out.symm,hs⟩
  · obtain ⟨a,cap,rfl⟩:=hr1.shape
    obtain ⟨a2,cap2,rfl⟩:=hr2.shape
    clear hr1 hr2
    have hlen:((l1.length:Int) != (l2.length:Int))=true:=by rw [bne_iff_ne];omega
    have hf:Hid (decide (l1=l2)=false):=hide (by rw [decide_eq_false];intro e;subst e;exact hne rfl)
    clear hne
    go_enter Try.func76,Try.ntmps76
    go_wp2
    go_ret
    exact ⟨ret_bool hf.out.symm,Sm.refl _⟩
end Go.Proofs.Ytfdbedenlbikgaa
