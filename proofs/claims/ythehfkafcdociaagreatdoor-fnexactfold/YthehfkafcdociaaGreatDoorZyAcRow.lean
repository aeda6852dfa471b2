/- Accounts in memory. -/
import Derived.Test.YthehfkafcdociaaGreatDoorZyCtMem
set_option maxRecDepth 20000
set_option maxHeartbeats 2000000
namespace Go.Proofs.YthehfkafcdociaaGreatDoor
open Go.RowKit
set_option linter.unusedVariables false
def RdL (w:World) (v:Value) (l:List (Int × Int)):Prop :=
  (∃ a cap,v=.slice a 0 cap/\l=[]/\(a=none->cap=0)) \/
  ∃ b off cap,l ≠ []/\v=.slice (some ⟨b,off,none⟩) l.length cap/\l.length<=cap/\cap<=maxLen/\b < w.heap.size /\
    ∀ i (h:i < l.length),w.cell? ⟨b,off+i * 2,none⟩=some (.int .i64 l[i].1)/\w.cell? ⟨b,off+i * 2+1,none⟩=some (.int .i64 l[i].2)
theorem RdL.shape {w:World} {v:Value} {l:List (Int × Int)} (h:RdL w v l):∃ a cap,v=.slice a l.length cap:=by
  rcases h with ⟨a,cap,rfl,rfl,-⟩ | ⟨b,off,cap,h0,rfl,_⟩
  · exact ⟨a,cap,rfl⟩
  · exact ⟨_,cap,rfl⟩
theorem RdL.below {B:Nat} {w w':World} {v:Value} {l:List (Int × Int)} (h:RdL w v l) (hb:Below B w w') (hB:w.heap.size<=B):RdL w' v l:=by
  rcases h with h | ⟨b,off,cap,h0,hv,h1,h2,h3,h4⟩
  · exact .inl h
  · exact .inr ⟨b,off,cap,h0,hv,h1,h2,by have:=hb.size;omega,fun i hi=>⟨(hb.cell (p:=⟨b,off+i * 2,none⟩) (by show b < B;omega)).trans (h4 i hi).1,(hb.cell (p:=⟨b,off+i * 2+1,none⟩) (by show b < B;omega)).trans (h4 i hi).2⟩⟩
def lvC (p:Int × Int):List Value:=[.int .i64 p.1,.int .i64 p.2]
def OwnL (base:Nat) (w:World) (v:Value) (l:List (Int × Int)):Prop:=w.ownsRow base 124 2 v l.length (l.map lvC).flatten
theorem Tryz.infoLv:(Tryz.prog.info? 124).map (fun i=>(i.zero,i.size,i.bytes))=some (some (.agg #[.int .i64 0,.int .i64 0]),2,16):=by kernel_rfl
theorem lvC_sz (p:Int × Int):(lvC p).length=2:=rfl
theorem lvP_sz (l:List (Int × Int)) (k:Nat):∀ x ∈ part lvC [Value.int .i64 0,Value.int .i64 0] l k,x.length=2:=part_sz 2 _ _ _ _ lvC_sz rfl
theorem lvM_sz (l:List (Int × Int)):∀ x ∈ l.map lvC,x.length=2:=fun x hx=>by obtain ⟨p,_,rfl⟩:=List.mem_map.1 hx;rfl
theorem OwnL.rd {base:Nat} {w:World} {v:Value} {l:List (Int × Int)} (h:OwnL base w v l):RdL w v l:=by
  rcases h.2 with ⟨hv,hn⟩ | ⟨g,cap,cur,hv,hb,hg,hnc,hcm,hcs,ht⟩
  · exact .inl ⟨none,0,hv,List.length_eq_zero_iff.1 hn,fun _=>rfl⟩
  · by_cases hl:l=[]
    · subst hl;exact .inl ⟨_,_,hv,rfl,fun h=>by cases h⟩
    · refine .inr ⟨g,0,cap,hl,hv,hnc,hcm,(Array.getElem?_eq_some_iff.1 hg).1,?_⟩
      intro i hi
      have h':w.ownsRow base 124 2 (.slice (some ⟨g,0,none⟩) l.length cap) l.length (l.map lvC).flatten:=hv ▸ h
      have e0:=flat_get 2 (l.map lvC) i 0 (by simpa using hi) (lvM_sz l) (by omega)
      have e1:=flat_get 2 (l.map lvC) i 1 (by simpa using hi) (lvM_sz l) (by omega)
      rw [Nat.zero_add,h'.cellAt (i * 2) (by omega),h'.cellAt (i * 2+1) (by omega)]
      rw [Nat.add_zero] at e0
      rw [e0,e1]
      simp [lvC]
theorem OwnL.mono {base base':Nat} {w:World} {v:Value} {l:List (Int × Int)} (h:OwnL base w v l) (hB:base'<=base):OwnL base' w v l:=by
  refine ⟨h.1,?_⟩
  rcases h.2 with h' | ⟨g,cap,cur,hv,hbb,r⟩
  · exact .inl h'
  · exact .inr ⟨g,cap,cur,hv,by omega,r⟩
theorem OwnL.ge {base:Nat} {w:World} {v:Value} {l:List (Int × Int)} (h:OwnL base w v l):∀ k,v.ownBlock=some k->base<=k:=fun k hk=>(World.ownsRow.lt h k hk).1
theorem OwnL.lt {base:Nat} {w:World} {v:Value} {l:List (Int × Int)} (h:OwnL base w v l):∀ k,v.ownBlock=some k->k < w.heap.size:=fun k hk=>(World.ownsRow.lt h k hk).2
theorem OwnL.below {B base:Nat} {w w':World} {v:Value} {l:List (Int × Int)} (h:OwnL base w v l) (hb:Below B w w') (hB:w.heap.size<=B):OwnL base w' v l:=row_below h hb hB
theorem OwnL.kept {base:Nat} {w w':World} {v:Value} {l:List (Int × Int)} {row:Option Nat} (h:OwnL base w v l) (hg:w.grownBy w' row) (hne:v.ownBlock=none\/v.ownBlock ≠ row):OwnL base w' v l:=World.ownsRow.kept h hg hne
theorem toLeave_any (x y:Int) (w:World):Calls Tryz.prog 139 #[.agg #[.int .i64 x,.int .i64 y]] w fun e w'=>e=.returned (.agg #[.int .i64 x,.int .i64 y])/\Below w.heap.size w w':=by
  go_enter Tryz.func139,Tryz.ntmps139
  go_wp2
  refine bodyPost_ret (v:=.agg #[.int .i64 x,.int .i64 y]) (by simp [results,Tryz.f139,go_sem]) rfl ?_
  exact ⟨rfl,((((Below.refl _ w).alloc (Nat.le_refl _) _).alloc (by simp) _).alloc (by simp;omega) _)⟩
theorem toLeaveS_any (v:Value) (l:List (Int × Int)) (w:World) (hr:RdL w v l) (hl:l.length<=4000000) :
    Calls Tryz.prog 126 #[v] w fun e w'=>∃ v',e=.returned v'/\OwnL w.heap.size w' v' l/\Below w.heap.size w w':=by
  obtain ⟨i0,hi,hz0,hz1,hz2⟩:=info_parts Tryz.infoLv
  rcases hr with ⟨a,cap,rfl,rfl,-⟩ | ⟨b,off,cap,h0,rfl,h1,h2,h3,h4⟩
  · go_enter Tryz.func126,Tryz.ntmps126
    go_wp2_with (refine wpList_make_full _ rfl _ _ 120 rfl w.heap.size 124 i0 (.agg #[.int .i64 0,.int .i64 0]) 2 Tryz.underlying120 hi hz0 hz1 .i64 .i64 _ _ 0 rfl rfl rfl rfl (by omega) (by unfold maxLen;omega) (Nat.le_refl _) ?_;intro w1 hown hgrow)
    have hb1:Below w.heap.size w w1:=(Below.refl _ _).grown hgrow (Nat.le_refl _) (by intro k hk;cases hk)
    refine wp_loop_rounds 1 ?_
    rw [rounds_succ]
    go_wp2
    go_ret
    have ho':OwnL w.heap.size w1 (.slice (some ⟨w.heap.size,0,none⟩) 0 0) []:=by
      have e:=made_flat (Value.agg #[.int .i64 0,.int .i64 0]).cells 2 0 rfl (by omega)
      rw [e] at hown
      exact hown
    exact ⟨_,rfl,ho',hb1⟩
  · go_enter Tryz.func126,Tryz.ntmps126
    go_wp2_with (refine wpList_make_full _ rfl _ _ 120 rfl w.heap.size 124 i0 (.agg #[.int .i64 0,.int .i64 0]) 2 Tryz.underlying120 hi hz0 hz1 .i64 .i64 _ _ l.length rfl rfl rfl rfl (by rw [hz2];omega) (by unfold maxLen;omega) (Nat.le_refl _) ?_;intro w1 hown hgrow)
    have hb1:Below w.heap.size w w1:=(Below.refl _ _).grown hgrow (Nat.le_refl _) (by intro k hk;cases hk)
    go_loopw [4] (fun i wr=>∃ k:Nat,k<=l.length/\i=.int .i64 k/\wr.ownsRow w.heap.size 124 2 (.slice (some ⟨w.heap.size,0,none⟩) l.length l.length) l.length (part lvC [Value.int .i64 0,Value.int .i64 0] l k).flatten/\Below w.heap.size w wr)
      (fun i _=>l.length - (intOf i).toNat)
    case atStart =>
      refine ⟨0,Nat.zero_le _,rfl,?_,hb1⟩
      rw [part_zero]
      have e:=made_flat (Value.agg #[.int .i64 0,.int .i64 0]).cells 2 l.length rfl (by omega)
      rw [e] at hown
      exact hown
    case round =>
      obtain ⟨k,hk,rfl,ho,hb⟩:=hrel
      clear hown hgrow hb1
      by_cases hlt:k < l.length
      · obtain ⟨d1,d2⟩:=h4 k hlt
        have hc1:wr.cell? ⟨b,off+k * 2,none⟩=some (.int .i64 l[k].1):=(hb.cell (p:=⟨b,off+k * 2,none⟩) h3).trans d1
        have hc2:wr.cell? ⟨b,off+k * 2+1,none⟩=some (.int .i64 l[k].2):=(hb.cell (p:=⟨b,off+k * 2+1,none⟩) h3).trans d2
        have hli:(k:Int) < (l.length:Int):=by omega
        have Hput:=hide (flat_put2 (part lvC [Value.int .i64 0,Value.int .i64 0] l k) k (.int .i64 l[k].1) (.int .i64 l[k].2) (by rw [part_len _ _ _ _ hk];exact hlt) (lvP_sz l k))
        have Hnext:=hide (part_next lvC [Value.int .i64 0,Value.int .i64 0] l k hlt)
        have Hz0:=hide (flat_get 2 (part lvC [Value.int .i64 0,Value.int .i64 0] l k) k 0 (by rw [part_len _ _ _ _ hk];exact hlt) (lvP_sz l k) (by omega))
        have Hz1:=hide (flat_get 2 (part lvC [Value.int .i64 0,Value.int .i64 0] l k) k 1 (by rw [part_len _ _ _ _ hk];exact hlt) (lvP_sz l k) (by omega))
        rw [part_at _ _ _ _ hlt] at Hz0 Hz1
        have Hlv:Hid (lvC l[k]=[.int .i64 l[k].1,.int .i64 l[k].2]):=hide rfl
        have hlb:w.heap.size < wr.heap.size:=((World.ownsRow.lt ho w.heap.size rfl)).2
        clear d1 d2 h4
        generalize l[k].1=x at hc1 Hput Hlv
        generalize l[k].2=y at hc2 Hput Hlv
        go_wp2_with (go_at_call 139;refine (toLeave_any _ _ _).mono ?_;rintro e w2 ⟨rfl,hb2⟩;have ho2:=row_below ho hb2 (Nat.le_refl _);have q0:=ho2.cellAt (k * 2) (by omega);have q1:=ho2.cellAt (k * 2+1) (by omega);have f0:=ho2.frozenAt (k * 2);have f1:=ho2.frozenAt (k * 2+1);rw [<- Nat.add_zero (k * 2),Hz0.out] at q0;rw [Hz1.out] at q1;rw [Nat.add_zero] at q0;simp only [List.getElem?_cons_zero,List.getElem?_cons_succ] at q0 q1)
        go_roundw
        case rel =>
          refine ⟨k+1,by omega,by go_num,?_,((hb.trans (hb2.mono hb.size)).setCell (p:=⟨w.heap.size,k * 2,none⟩) (Nat.le_refl _) _).setCell (p:=⟨w.heap.size,k * 2+1,none⟩) (Nat.le_refl _) _⟩
          have s1:=(ho2.stored (k * 2) (.int .i64 x)).1
          have s2:=(s1.stored (k * 2+1) (.int .i64 y)).1
          rw [Hput.out,<- Hlv.out,Hnext.out] at s2
          exact s2
        case measure=>simp [intOf];omega
      · have e:k=l.length:=by omega
        subst e
        rw [part_all] at ho
        go_wp2
        go_ret
        exact ⟨_,rfl,ho,hb⟩
theorem eqLeave_any (p q:Int × Int) (w:World):Calls Tryz.prog 134 #[.agg #[.int .i64 p.1,.int .i64 p.2],.agg #[.int .i64 q.1,.int .i64 q.2]] w fun e w'=>e=.returned (.bool (decide (p=q)))/\Below w.heap.size w w':=by
  obtain ⟨a,b⟩:=p
  obtain ⟨c,d⟩:=q
  have hB:=hide (((Below.refl _ w).alloc (Nat.le_refl _) (.cells #[.int .i64 a,.int .i64 b] 124)).alloc (by simp) (.cells #[.int .i64 c,.int .i64 d] 124))
  by_cases h1:a=c
  · subst h1
    by_cases h2:b=d
    · subst h2
      go_enter Tryz.func134,Tryz.ntmps134
      go_wp2
      go_ret
      exact ⟨by simp,hB.out⟩
    · have Hd:Hid (decide ((a,b)=(a,d))=false):=hide (by rw [decide_eq_false];intro e;injection e with _ e;exact h2 e)
      have hq:(b != d)=true:=by rw [bne_iff_ne];exact h2
      clear h2
      go_enter Tryz.func134,Tryz.ntmps134
      go_wp2
      go_ret
      exact ⟨ret_bool Hd.out.symm,hB.out⟩
  · have Hd:Hid (decide ((a,b)=(c,d))=false):=hide (by rw [decide_eq_false];intro e;injection e with e _;exact h1 e)
    have hq:(a != c)=true:=by rw [bne_iff_ne];exact h1
    clear h1
    go_enter Tryz.func134,Tryz.ntmps134
    go_wp2
    go_ret
    exact ⟨ret_bool Hd.out.symm,hB.out⟩
theorem eqLeaveS_any (v1 v2:Value) (l1 l2:List (Int × Int)) (w:World) (hr1:RdL w v1 l1) (hr2:RdL w v2 l2) (hl1:l1.length<=4000000) (hl2:l2.length<=4000000) :
    Calls Tryz.prog 107 #[v1,v2] w fun e w'=>e=.returned (.bool (decide (l1=l2)))/\Below w.heap.size w w':=by
  by_cases hne:l1.length=l2.length
  · rcases hr1 with ⟨a,cap,rfl,rfl,-⟩ | ⟨b,off,cap,h0,rfl,h1,h2,h3,h4⟩
    · have e2:l2=[]:=List.length_eq_zero_iff.1 (by simpa using hne.symm)
      subst e2
      obtain ⟨a2,cap2,rfl⟩:=hr2.shape
      clear hr2
      go_enter Tryz.func107,Tryz.ntmps107
      go_wp2
      refine wp_loop_rounds 1 ?_
      rw [rounds_succ]
      go_wp2
      go_ret
      exact ⟨rfl,Below.refl _ _⟩
    · rcases hr2 with ⟨a2,cap2,rfl,rfl,-⟩ | ⟨b2,off2,cap2,g0,rfl,g1,g2,g3,g4⟩
      · exact absurd (List.length_eq_zero_iff.1 (by simpa using hne)) h0
      · have Hne:=hide hne
        have hlen:((l1.length:Int) != (l2.length:Int))=false:=by rw [hne];simp
        have hle:l1.length<=l2.length:=by omega
        have hge:l2.length<=l1.length:=by omega
        have H4:=hide h4
        have G4:=hide g4
        clear hne h4 g4
        go_enter Tryz.func107,Tryz.ntmps107
        go_wp2
        go_loopw [5] (fun i wr=>∃ k:Nat,k<=l1.length/\i=.int .i64 k/\l1.take k=l2.take k/\Below w.heap.size w wr) (fun i _=>l1.length - (intOf i).toNat)
        case atStart=>exact ⟨0,Nat.zero_le _,rfl,rfl,Below.refl _ _⟩
        case round =>
          obtain ⟨k,hk,rfl,ht,hs⟩:=hrel
          have Ht:=hide ht
          clear ht
          by_cases hlt:k < l1.length
          · have hlt2:k < l2.length:=by omega
            obtain ⟨d1,d2⟩:=H4.out k hlt
            obtain ⟨e1,e2⟩:=G4.out k hlt2
            have hc1:wr.drew.cell? ⟨b,off+k * 2,none⟩=some (.int .i64 l1[k].1):=(hs.cell (p:=⟨b,off+k * 2,none⟩) h3).trans d1
            have hc2:wr.drew.cell? ⟨b,off+k * 2+1,none⟩=some (.int .i64 l1[k].2):=(hs.cell (p:=⟨b,off+k * 2+1,none⟩) h3).trans d2
            have hd1:wr.drew.cell? ⟨b2,off2+k * 2,none⟩=some (.int .i64 l2[k].1):=(hs.cell (p:=⟨b2,off2+k * 2,none⟩) g3).trans e1
            have hd2:wr.drew.cell? ⟨b2,off2+k * 2+1,none⟩=some (.int .i64 l2[k].2):=(hs.cell (p:=⟨b2,off2+k * 2+1,none⟩) g3).trans e2
            have hli:(k:Int) < (l1.length:Int):=by omega
            have hli2:(k:Int) < (l2.length:Int):=by omega
            have HE:=hide (eqLeave_any l1[k] l2[k] wr.drew)
            have Hnx:Hid (l1[k]=l2[k]->l1.take (k+1)=l2.take (k+1)):=hide (fun he=>take_eq_snoc hlt hlt2 Ht.out he)
            have Hno:Hid (l1[k] ≠ l2[k]->decide (l1=l2)=false):=hide (fun he=>by rw [decide_eq_false];intro e;subst e;exact he rfl)
            clear d1 d2 e1 e2
            generalize hp:l1[k]=p at hc1 hc2 HE Hnx Hno
            generalize hq:l2[k]=q at hd1 hd2 HE Hnx Hno
            clear hp hq
            by_cases he:p=q
            · rw [decide_eq_true he] at HE
              have Hnx:=hide (Hnx.out he)
              clear he Hno
              go_wp2
              go_region_held_law (fun w'=>w'.cell? ⟨b,off+k * 2,none⟩=some (.int .i64 p.1)/\w'.cell? ⟨b,off+k * 2+1,none⟩=some (.int .i64 p.2)/\w'.cell? ⟨b2,off2+k * 2,none⟩=some (.int .i64 q.1)/\w'.cell? ⟨b2,off2+k * 2+1,none⟩=some (.int .i64 q.2)) (first | exact ⟨hc1,hc2,hd1,hd2⟩ | exact hS2) ((go_at_call 134;refine HE.out.mono ?_;rintro e w2 ⟨rfl,hb2⟩;have hz:=hs.size;have hS2:w2.cell? ⟨b,off+k * 2,none⟩=some (.int .i64 p.1)/\w2.cell? ⟨b,off+k * 2+1,none⟩=some (.int .i64 p.2)/\w2.cell? ⟨b2,off2+k * 2,none⟩=some (.int .i64 q.1)/\w2.cell? ⟨b2,off2+k * 2+1,none⟩=some (.int .i64 q.2):=⟨(hb2.cell (p:=⟨b,off+k * 2,none⟩) (Nat.lt_of_lt_of_le h3 hz)).trans hc1,(hb2.cell (p:=⟨b,off+k * 2+1,none⟩) (Nat.lt_of_lt_of_le h3 hz)).trans hc2,(hb2.cell (p:=⟨b2,off2+k * 2,none⟩) (Nat.lt_of_lt_of_le g3 hz)).trans hd1,(hb2.cell (p:=⟨b2,off2+k * 2+1,none⟩) (Nat.lt_of_lt_of_le g3 hz)).trans hd2⟩))
              go_wp2
              go_roundw
              case rel=>exact ⟨k+1,by omega,by go_num,Hnx.out,hs.drew.trans (hb2.mono hs.size)⟩
              case measure=>simp [intOf];omega
            · rw [decide_eq_false he] at HE
              have Hno:=hide (Hno.out he)
              clear he Hnx
              go_wp2
              go_region_held_law (fun w'=>w'.cell? ⟨b,off+k * 2,none⟩=some (.int .i64 p.1)/\w'.cell? ⟨b,off+k * 2+1,none⟩=some (.int .i64 p.2)/\w'.cell? ⟨b2,off2+k * 2,none⟩=some (.int .i64 q.1)/\w'.cell? ⟨b2,off2+k * 2+1,none⟩=some (.int .i64 q.2)) (first | exact ⟨hc1,hc2,hd1,hd2⟩ | exact hS2) ((go_at_call 134;refine HE.out.mono ?_;rintro e w2 ⟨rfl,hb2⟩;have hz:=hs.size;have hS2:w2.cell? ⟨b,off+k * 2,none⟩=some (.int .i64 p.1)/\w2.cell? ⟨b,off+k * 2+1,none⟩=some (.int .i64 p.2)/\w2.cell? ⟨b2,off2+k * 2,none⟩=some (.int .i64 q.1)/\w2.cell? ⟨b2,off2+k * 2+1,none⟩=some (.int .i64 q.2):=⟨(hb2.cell (p:=⟨b,off+k * 2,none⟩) (Nat.lt_of_lt_of_le h3 hz)).trans hc1,(hb2.cell (p:=⟨b,off+k * 2+1,none⟩) (Nat.lt_of_lt_of_le h3 hz)).trans hc2,(hb2.cell (p:=⟨b2,off2+k * 2,none⟩) (Nat.lt_of_lt_of_le g3 hz)).trans hd1,(hb2.cell (p:=⟨b2,off2+k * 2+1,none⟩) (Nat.lt_of_lt_of_le g3 hz)).trans hd2⟩))
              go_wp2
              go_ret
              exact ⟨ret_bool Hno.out.symm,hs.drew.trans (hb2.mono hs.size)⟩
          · have hf:Hid (decide (l1=l2)=true):=hide (by
              rw [decide_eq_true]
              have:=Ht.out
              rwa [List.take_of_length_le (by omega),List.take_of_length_le (by omega)] at this)
            go_wp2
            go_ret
            exact ⟨ret_bool hf.out.symm,hs⟩
  · obtain ⟨a,cap,rfl⟩:=hr1.shape
    obtain ⟨a2,cap2,rfl⟩:=hr2.shape
    clear hr1 hr2
    have hlen:((l1.length:Int) != (l2.length:Int))=true:=by rw [bne_iff_ne];omega
    have hf:Hid (decide (l1=l2)=false):=hide (by rw [decide_eq_false];intro e;subst e;exact hne rfl)
    clear hne
    go_enter Tryz.func107,Tryz.ntmps107
    go_wp2
    go_ret
    exact ⟨ret_bool hf.out.symm,Below.refl _ _⟩
abbrev Ac:=ByteArray × Int × Int × Int × List (Int × Int)
def acV (a:Ac) (lv:Value):Value:=.agg #[.string a.1,.int .i64 a.2.1,.int .i64 a.2.2.1,.int .i64 a.2.2.2.1,lv]
theorem toAcct_any (a:Ac) (lv:Value) (w:World) (hr:RdL w lv a.2.2.2.2) (hl:a.2.2.2.2.length<=4000000) :
    Calls Tryz.prog 92 #[acV a lv] w fun e w'=>∃ lv',e=.returned (acV a lv')/\OwnL w.heap.size w' lv' a.2.2.2.2/\Below w.heap.size w w':=by
  obtain ⟨nm,fr,no,st,ls⟩:=a
  obtain ⟨av,cv,rfl⟩:=hr.shape
  have Hr:=hide hr
  clear hr
  simp only [acV] at *
  go_enter Tryz.func92,Tryz.ntmps92
  have HB0:=hide ((((Below.refl _ w).alloc (Nat.le_refl _) (.cells #[.string nm,.int .i64 fr,.int .i64 no,.int .i64 st,.slice av ls.length cv] 156)).alloc (by simp) (.cells #[.string { data:=#[] },.int .i64 0,.int .i64 0,.int .i64 0,.slice none 0 0] 122)).alloc (by simp;omega) (.cells #[.string nm,.int .i64 fr,.int .i64 no,.int .i64 st,.slice none 0 0] 122))
  go_wp2_with fail
  refine (toLeaveS_any _ ls _ (Hr.out.below HB0.out (Nat.le_refl _)) hl).mono ?_
  rintro e w4 ⟨lv',rfl,ho4,hb4⟩
  have hk:=(Blk.new ((w.alloc (.cells #[.string nm,.int .i64 fr,.int .i64 no,.int .i64 st,.slice av ls.length cv] 156)).alloc (.cells #[.string { data:=#[] },.int .i64 0,.int .i64 0,.int .i64 0,.slice none 0 0] 122)) 122 [.string nm,.int .i64 fr,.int .i64 no,.int .i64 st,.slice none 0 0]).below hb4 (by simp)
  simp only [World.size_alloc] at hk
  have c0:=hk.cell 0
  have c1:=hk.cell 1
  have c2:=hk.cell 2
  have c3:=hk.cell 3
  have c4:=hk.cell 4
  have f4:=hk.frozen 4
  simp only [List.getElem?_cons_zero,List.getElem?_cons_succ] at c0 c1 c2 c3 c4
  have hk1:=(Blk.below (Blk.new (w.alloc (.cells #[.string nm,.int .i64 fr,.int .i64 no,.int .i64 st,.slice av ls.length cv] 156)) 122 [.string { data:=#[] },.int .i64 0,.int .i64 0,.int .i64 0,.slice none 0 0]) ((Below.refl _ _).alloc (Nat.le_refl _) (.cells #[.string nm,.int .i64 fr,.int .i64 no,.int .i64 st,.slice none 0 0] 122)) (by simp)).below hb4 (by simp)
  simp only [World.size_alloc] at hk1
  have d0:=hk1.cell 0
  have d1:=hk1.cell 1
  have d2:=hk1.cell 2
  have d3:=hk1.cell 3
  have d4:=hk1.cell 4
  have g0:=hk1.frozen 0
  have g1:=hk1.frozen 1
  have g2:=hk1.frozen 2
  have g3:=hk1.frozen 3
  have g4:=hk1.frozen 4
  simp only [List.getElem?_cons_zero,List.getElem?_cons_succ] at d0 d1 d2 d3 d4
  have ho4':OwnL w.heap.size w4 lv' ls:=ho4.mono (by simp;omega)
  have ge4:=ho4.ge
  obtain ⟨av',cv',rfl⟩:=ho4.rd.shape
  have Ho:=hide ho4'
  have Hb4:=hide (HB0.out.trans (hb4.mono (by simp;omega)))
  clear ho4 ho4' hb4 hk hk1 HB0
  go_wp2
  refine bodyPost_ret (v:=.agg #[.string nm,.int .i64 fr,.int .i64 no,.int .i64 st,.slice av' ls.length cv']) (by simp [results,Tryz.f92,go_sem,d0,d1,d2,d3,d4]) rfl ?_
  have n1:∀ k,(Value.slice av' ls.length cv').ownBlock=some k->k ≠ w.heap.size+1:=fun k hk=>by have:=ge4 k hk;simp at this;omega
  have n2:∀ k,(Value.slice av' ls.length cv').ownBlock=some k->k ≠ w.heap.size+1+1:=fun k hk=>by have:=ge4 k hk;simp at this;omega
  refine ⟨_,rfl,row_set (row_set (row_set (row_set (row_set (row_set Ho.out _ _ _ n2) _ _ _ n1) _ _ _ n1) _ _ _ n1) _ _ _ n1) _ _ _ n1,?_⟩
  exact (((((Hb4.out.setCell (p:=⟨w.heap.size+1+1,4,none⟩) (by show w.heap.size<=w.heap.size+1+1;omega) _).setCell (p:=⟨w.heap.size+1,0,none⟩) (by show w.heap.size<=w.heap.size+1;omega) _).setCell (p:=⟨w.heap.size+1,1,none⟩) (by show w.heap.size<=w.heap.size+1;omega) _).setCell (p:=⟨w.heap.size+1,2,none⟩) (by show w.heap.size<=w.heap.size+1;omega) _).setCell (p:=⟨w.heap.size+1,3,none⟩) (by show w.heap.size<=w.heap.size+1;omega) _).setCell (p:=⟨w.heap.size+1,4,none⟩) (by show w.heap.size<=w.heap.size+1;omega) _
theorem eqAcct_any (a b:Ac) (la lb:Value) (w:World) (hra:RdL w la a.2.2.2.2) (hrb:RdL w lb b.2.2.2.2) (hl1:a.2.2.2.2.length<=4000000) (hl2:b.2.2.2.2.length<=4000000) :
    Calls Tryz.prog 64 #[acV a la,acV b lb] w fun e w'=>e=.returned (.bool (decide (a=b)))/\Below w.heap.size w w':=by
  obtain ⟨n1,f1,o1,s1,l1⟩:=a
  obtain ⟨n2,f2,o2,s2,l2⟩:=b
  obtain ⟨av,ac,rfl⟩:=hra.shape
  obtain ⟨bv,bc,rfl⟩:=hrb.shape
  have HB:=hide (((Below.refl _ w).alloc (Nat.le_refl _) (.cells #[.string n1,.int .i64 f1,.int .i64 o1,.int .i64 s1,.slice av l1.length ac] 122)).alloc (by simp) (.cells #[.string n2,.int .i64 f2,.int .i64 o2,.int .i64 s2,.slice bv l2.length bc] 122))
  have Ha:=hide (hra.below HB.out (Nat.le_refl _))
  have Hb:=hide (hrb.below HB.out (Nat.le_refl _))
  clear hra hrb
  simp only [acV] at *
  by_cases h1:n1=n2
  · by_cases h2:f1=f2
    · by_cases h3:o1=o2
      · by_cases h4:s1=s2
        · subst h1 h2 h3 h4
          have Hd:Hid (decide (((n1,f1,o1,s1,l1):Ac)=(n1,f1,o1,s1,l2))=decide (l1=l2)):=hide (by simp)
          have HE:=hide (eqLeaveS_any _ _ l1 l2 _ Ha.out Hb.out hl1 hl2)
          by_cases hq:l1=l2
          · rw [decide_eq_true hq] at HE Hd
            clear hq
            go_enter Tryz.func64,Tryz.ntmps64
            go_wp2_with fail
            refine HE.out.mono ?_
            rintro e w3 ⟨rfl,hb3⟩
            have hB3:=HB.out.trans (hb3.mono HB.out.size)
            go_wp2
            go_ret
            exact ⟨ret_bool Hd.out.symm,hB3⟩
          · rw [decide_eq_false hq] at HE Hd
            clear hq
            go_enter Tryz.func64,Tryz.ntmps64
            go_wp2_with fail
            refine HE.out.mono ?_
            rintro e w3 ⟨rfl,hb3⟩
            have hB3:=HB.out.trans (hb3.mono HB.out.size)
            go_wp2
            go_ret
            exact ⟨ret_bool Hd.out.symm,hB3⟩
        · subst h1 h2 h3
          have Hd:Hid (decide (((n1,f1,o1,s1,l1):Ac)=(n1,f1,o1,s2,l2))=false):=hide (by rw [decide_eq_false];intro e;simp only [Prod.mk.injEq] at e;exact h4 e.2.2.2.1)
          have hq:(s1 != s2)=true:=by rw [bne_iff_ne];exact h4
          clear h4
          go_enter Tryz.func64,Tryz.ntmps64
          go_wp2
          go_ret
          exact ⟨ret_bool Hd.out.symm,HB.out⟩
      · subst h1 h2
        have Hd:Hid (decide (((n1,f1,o1,s1,l1):Ac)=(n1,f1,o2,s2,l2))=false):=hide (by rw [decide_eq_false];intro e;simp only [Prod.mk.injEq] at e;exact h3 e.2.2.1)
        have hq:(o1 != o2)=true:=by rw [bne_iff_ne];exact h3
        clear h3
        go_enter Tryz.func64,Tryz.ntmps64
        go_wp2
        go_ret
        exact ⟨ret_bool Hd.out.symm,HB.out⟩
    · subst h1
      have Hd:Hid (decide (((n1,f1,o1,s1,l1):Ac)=(n1,f2,o2,s2,l2))=false):=hide (by rw [decide_eq_false];intro e;simp only [Prod.mk.injEq] at e;exact h2 e.2.1)
      have hq:(f1 != f2)=true:=by rw [bne_iff_ne];exact h2
      clear h2
      go_enter Tryz.func64,Tryz.ntmps64
      go_wp2
      go_ret
      exact ⟨ret_bool Hd.out.symm,HB.out⟩
  · have Hd:Hid (decide (((n1,f1,o1,s1,l1):Ac)=(n2,f2,o2,s2,l2))=false):=hide (by rw [decide_eq_false];intro e;simp only [Prod.mk.injEq] at e;exact h1 e.1)
    have hq:=bytes_ne h1
    clear h1
    go_enter Tryz.func64,Tryz.ntmps64
    go_wp2
    go_ret
    exact ⟨ret_bool Hd.out.symm,HB.out⟩
def szAc (a:Ac) (m:Int):Int:=if m - a.1.size < 0 then -1 else if m - a.1.size - a.2.2.2.2.length < 0 then -1 else m - a.1.size - a.2.2.2.2.length
theorem szAcct_any (a:Ac) (la:Value) (m:Int) (w:World) (hr:RdL w la a.2.2.2.2) (hm0:0<=m) (hm:m<=100000000) (hn:a.1.size<=9223372036854775807) (hl:a.2.2.2.2.length<=9223372036854775807) :
    Calls Tryz.prog 77 #[acV a la,.int .i64 m] w fun e w'=>e=.returned (.int .i64 (szAc a m))/\Below w.heap.size w w':=by
  obtain ⟨n1,f1,o1,s1,l1⟩:=a
  obtain ⟨av,ac,rfl⟩:=hr.shape
  have HB:=hide ((Below.refl _ w).alloc (Nat.le_refl _) (.cells #[.string n1,.int .i64 f1,.int .i64 o1,.int .i64 s1,.slice av l1.length ac] 156))
  clear hr
  simp only [acV] at *
  have w1:IntKind.i64.wrap (m - (n1.size:Int))=m - n1.size:=by rw [IntKind.wrap_i64];omega
  by_cases h1:m - (n1.size:Int) < 0
  · have Hs:Hid (szAc (n1,f1,o1,s1,l1) m=-1):=hide (by unfold szAc;rw [if_pos h1])
    go_enter Tryz.func77,Tryz.ntmps77
    go_wp2
    go_ret
    exact ⟨ret_int Hs.out.symm,HB.out⟩
  · have w2:IntKind.i64.wrap (m - (n1.size:Int) - (l1.length:Int))=m - n1.size - l1.length:=by rw [IntKind.wrap_i64];omega
    by_cases h2:m - (n1.size:Int) - (l1.length:Int) < 0
    · have Hs:Hid (szAc (n1,f1,o1,s1,l1) m=-1):=hide (by unfold szAc;rw [if_neg h1,if_pos h2])
      go_enter Tryz.func77,Tryz.ntmps77
      go_wp2
      go_ret
      exact ⟨ret_int Hs.out.symm,HB.out⟩
    · have Hs:Hid (szAc (n1,f1,o1,s1,l1) m=m - n1.size - l1.length):=hide (by unfold szAc;rw [if_neg h1,if_neg h2])
      go_enter Tryz.func77,Tryz.ntmps77
      go_wp2
      go_ret
      exact ⟨ret_int Hs.out.symm,HB.out⟩
structure AcAt (w:World) (b o:Nat) (a:Ac) (lv:Value):Prop where
  c0:w.cell? ⟨b,o,none⟩=some (.string a.1)
  c1:w.cell? ⟨b,o+1,none⟩=some (.int .i64 a.2.1)
  c2:w.cell? ⟨b,o+2,none⟩=some (.int .i64 a.2.2.1)
  c3:w.cell? ⟨b,o+3,none⟩=some (.int .i64 a.2.2.2.1)
  c4:w.cell? ⟨b,o+4,none⟩=some lv
theorem AcAt.below {w w':World} {B b o:Nat} {a:Ac} {lv:Value} (h:AcAt w b o a lv) (hb:Below B w w') (hB:b < B):AcAt w' b o a lv :=
  ⟨(hb.cell (p:=⟨b,o,none⟩) hB).trans h.c0,(hb.cell (p:=⟨b,o+1,none⟩) hB).trans h.c1,(hb.cell (p:=⟨b,o+2,none⟩) hB).trans h.c2,(hb.cell (p:=⟨b,o+3,none⟩) hB).trans h.c3,(hb.cell (p:=⟨b,o+4,none⟩) hB).trans h.c4⟩
def RdA (w:World) (v:Value) (l:List Ac):Prop :=
  (∃ a cap,v=.slice a 0 cap/\l=[]/\(a=none->cap=0)) \/
  ∃ b off cap,l ≠ []/\v=.slice (some ⟨b,off,none⟩) l.length cap/\l.length<=cap/\cap<=maxLen/\b < w.heap.size /\
    ∀ i (h:i < l.length),∃ lv,AcAt w b (off+i * 5) l[i] lv/\RdL w lv l[i].2.2.2.2
theorem RdA.shape {w:World} {v:Value} {l:List Ac} (h:RdA w v l):∃ a cap,v=.slice a l.length cap:=by
  rcases h with ⟨a,cap,rfl,rfl,-⟩ | ⟨b,off,cap,h0,rfl,_⟩
  · exact ⟨a,cap,rfl⟩
  · exact ⟨_,cap,rfl⟩
theorem RdA.below {B:Nat} {w w':World} {v:Value} {l:List Ac} (h:RdA w v l) (hb:Below B w w') (hB:w.heap.size<=B):RdA w' v l:=by
  rcases h with h | ⟨b,off,cap,h0,hv,h1,h2,h3,h4⟩
  · exact .inl h
  · refine .inr ⟨b,off,cap,h0,hv,h1,h2,by have:=hb.size;omega,fun i hi=>?_⟩
    obtain ⟨lv,k1,k2⟩:=h4 i hi
    exact ⟨lv,k1.below hb (by omega),k2.below hb hB⟩
def acC (q:Ac × Value):List Value:=[.string q.1.1,.int .i64 q.1.2.1,.int .i64 q.1.2.2.1,.int .i64 q.1.2.2.2.1,q.2]
def acZ:List Value:=[.string { data:=#[] },.int .i64 0,.int .i64 0,.int .i64 0,.slice none 0 0]
theorem acM_sz (l:List (Ac × Value)):∀ x ∈ l.map acC,x.length=5:=fun x hx=>by obtain ⟨p,_,rfl⟩:=List.mem_map.1 hx;rfl
structure Lvs (base:Nat) (w:World) (g:Nat) (Z:List (Ac × Value)):Prop where
  own:∀ i (h:i < Z.length),OwnL base w Z[i].2 Z[i].1.2.2.2.2
  far:∀ i (h:i < Z.length) k,Z[i].2.ownBlock=some k->k ≠ g
  apart:∀ i j (hi:i < Z.length) (hj:j < Z.length),i ≠ j->∀ k,Z[i].2.ownBlock=some k->Z[j].2.ownBlock ≠ some k
def OwnA (base:Nat) (w:World) (v:Value) (l:List Ac):Prop :=
  ∃ (g cap:Nat) (Z:List (Ac × Value)),Z.map (·.1)=l/\v=.slice (some ⟨g,0,none⟩) l.length cap/\w.ownsRow base 122 5 v l.length (Z.map acC).flatten/\Lvs base w g Z
theorem OwnA.rd {base:Nat} {w:World} {v:Value} {l:List Ac} (h:OwnA base w v l):RdA w v l:=by
  obtain ⟨g,cap,Z,hZ,rfl,ho,hl⟩:=h
  have hlen:Z.length=l.length:=by rw [<- hZ];simp
  by_cases hn:l=[]
  · subst hn;exact .inl ⟨_,_,rfl,rfl,fun h=>by cases h⟩
  · rcases ho.2 with ⟨hv,_⟩ | ⟨g',cap',cur,hv,hb,hg,hnc,hcm,hcs,ht⟩
    · cases hv
    · simp only [Value.slice.injEq,Option.some.injEq,Addr.mk.injEq,and_true,true_and] at hv
      obtain ⟨rfl,rfl⟩:=hv
      refine .inr ⟨g,0,cap,hn,rfl,hnc,hcm,(Array.getElem?_eq_some_iff.1 hg).1,fun i hi=>?_⟩
      have hi':i < Z.length:=by omega
      have e:l[i]=Z[i].1:=by subst hZ;simp
      refine ⟨Z[i].2,?_,by rw [e];exact (hl.own i hi').rd⟩
      have cell:∀ j,j < 5->w.cell? ⟨g,0+i * 5+j,none⟩=(acC Z[i])[j]?:=fun j hj=>by
        rw [Nat.zero_add,ho.cellAt (i * 5+j) (by omega),flat_get 5 (Z.map acC) i j (by simpa using hi') (acM_sz Z) hj]
        simp
      rw [e]
      exact ⟨by have:=cell 0 (by omega);simpa [acC] using this,by have:=cell 1 (by omega);simpa [acC] using this,by have:=cell 2 (by omega);simpa [acC] using this,by have:=cell 3 (by omega);simpa [acC] using this,by have:=cell 4 (by omega);simpa [acC] using this⟩
theorem Lvs.below {B base:Nat} {w w':World} {g:Nat} {Z:List (Ac × Value)} (h:Lvs base w g Z) (hb:Below B w w') (hB:w.heap.size<=B):Lvs base w' g Z :=
  ⟨fun i hi=>(h.own i hi).below hb hB,h.far,h.apart⟩
theorem Lvs.set {base:Nat} {w:World} {g:Nat} {Z:List (Ac × Value)} (h:Lvs base w g Z) (j:Nat) (u:Value):Lvs base (w.setCell ⟨g,j,none⟩ u) g Z :=
  ⟨fun i hi=>row_set (h.own i hi) g j u (h.far i hi),h.far,h.apart⟩
theorem Lvs.snoc {base:Nat} {w:World} {g:Nat} {Z:List (Ac × Value)} (h:Lvs base w g Z) (q:Ac × Value) (ho:OwnL base w q.2 q.1.2.2.2.2) (hf:∀ k,q.2.ownBlock=some k->k ≠ g)
    (hn:∀ i (hi:i < Z.length) k,Z[i].2.ownBlock=some k->q.2.ownBlock ≠ some k):Lvs base w g (Z ++ [q]):=by
  have at1:∀ i (hi:i < (Z ++ [q]).length),(∃ h':i < Z.length,(Z ++ [q])[i]=Z[i])\/(i=Z.length/\(Z ++ [q])[i]=q):=fun i hi=>by
    by_cases h':i < Z.length
    · exact .inl ⟨h',List.getElem_append_left h'⟩
    · have e:i=Z.length:=by simp at hi;omega
      subst e
      exact .inr ⟨rfl,by simp⟩
  refine ⟨fun i hi=>?_,fun i hi k hk=>?_,fun i j hi hj hij k hk=>?_⟩
  · rcases at1 i hi with ⟨h',e⟩ | ⟨_,e⟩
    · rw [e];exact h.own i h'
    · rw [e];exact ho
  · rcases at1 i hi with ⟨h',e⟩ | ⟨_,e⟩
    · rw [e] at hk;exact h.far i h' k hk
    · rw [e] at hk;exact hf k hk
  · rcases at1 i hi with ⟨h',e⟩ | ⟨ei,e⟩ <;> rcases at1 j hj with ⟨h2,e2⟩ | ⟨ej,e2⟩
    · rw [e] at hk;rw [e2];exact h.apart i j h' h2 hij k hk
    · rw [e] at hk;rw [e2];exact hn i h' k hk
    · rw [e] at hk;rw [e2];exact fun e3=>hn j h2 k e3 hk
    · omega
theorem OwnA.below {B base:Nat} {w w':World} {v:Value} {l:List Ac} (h:OwnA base w v l) (hb:Below B w w') (hB:w.heap.size<=B):OwnA base w' v l:=by
  obtain ⟨g,cap,Z,hZ,hv,ho,hl⟩:=h
  exact ⟨g,cap,Z,hZ,hv,row_below ho hb hB,hl.below hb hB⟩
theorem Tryz.infoAc:(Tryz.prog.info? 122).map (fun i=>(i.zero,i.size,i.bytes))=some (some (.agg #[.string { data:=#[] },.int .i64 0,.int .i64 0,.int .i64 0,.slice none 0 0]),5,64):=by kernel_rfl
theorem toAcctS_any (v:Value) (l:List Ac) (w:World) (hr:RdA w v l) (hl:l.length<=4000000) (hall:∀ a ∈ l,a.2.2.2.2.length<=4000000) :
    Calls Tryz.prog 55 #[v] w fun e w'=>∃ v',e=.returned v'/\OwnA w.heap.size w' v' l/\Below w.heap.size w w':=by
  obtain ⟨i0,hi,hz0,hz1,hz2⟩:=info_parts Tryz.infoAc
  rcases hr with ⟨a,cap,rfl,rfl,-⟩ | ⟨b,off,cap,h0,rfl,h1,h2,h3,h4⟩
  · go_enter Tryz.func55,Tryz.ntmps55
    go_wp2_with (refine wpList_make_full _ rfl _ _ 34 rfl w.heap.size 122 i0 (.agg #[.string { data:=#[] },.int .i64 0,.int .i64 0,.int .i64 0,.slice none 0 0]) 5 Tryz.underlying34 hi hz0 hz1 .i64 .i64 _ _ 0 rfl rfl rfl rfl (by omega) (by unfold maxLen;omega) (Nat.le_refl _) ?_;intro w1 hown hgrow)
    have hb1:Below w.heap.size w w1:=(Below.refl _ _).grown hgrow (Nat.le_refl _) (by intro k hk;cases hk)
    refine wp_loop_rounds 1 ?_
    rw [rounds_succ]
    go_wp2
    go_ret
    have ho':OwnA w.heap.size w1 (.slice (some ⟨w.heap.size,0,none⟩) 0 0) []:=by
      have e:=made_flat (Value.agg #[.string { data:=#[] },.int .i64 0,.int .i64 0,.int .i64 0,.slice none 0 0]).cells 5 0 rfl (by omega)
      rw [e] at hown
      exact ⟨_,_,[],rfl,rfl,hown,⟨fun i h=>by simp at h,fun i h=>by simp at h,fun i j h=>by simp at h⟩⟩
    exact ⟨_,rfl,ho',hb1⟩
  · go_enter Tryz.func55,Tryz.ntmps55
    go_wp2_with (refine wpList_make_full _ rfl _ _ 34 rfl w.heap.size 122 i0 (.agg #[.string { data:=#[] },.int .i64 0,.int .i64 0,.int .i64 0,.slice none 0 0]) 5 Tryz.underlying34 hi hz0 hz1 .i64 .i64 _ _ l.length rfl rfl rfl rfl (by rw [hz2];omega) (by unfold maxLen;omega) (Nat.le_refl _) ?_;intro w1 hown hgrow)
    have hb1:Below w.heap.size w w1:=(Below.refl _ _).grown hgrow (Nat.le_refl _) (by intro k hk;cases hk)
    go_loopw [4] (fun i wr=>∃ (k:Nat) (Z:List (Ac × Value)),k<=l.length/\i=.int .i64 k/\Z.map (·.1)=l.take k/\wr.ownsRow w.heap.size 122 5 (.slice (some ⟨w.heap.size,0,none⟩) l.length l.length) l.length (prt (Z.map acC) acZ l.length).flatten/\Lvs w.heap.size wr w.heap.size Z/\Below w.heap.size w wr)
      (fun i _=>l.length - (intOf i).toNat)
    case atStart =>
      refine ⟨0,[],Nat.zero_le _,rfl,rfl,?_,⟨fun i h=>by simp at h,fun i h=>by simp at h,fun i j h=>by simp at h⟩,hb1⟩
      rw [List.map_nil,prt_zero]
      have e:=made_flat (Value.agg #[.string { data:=#[] },.int .i64 0,.int .i64 0,.int .i64 0,.slice none 0 0]).cells 5 l.length rfl (by omega)
      rw [e] at hown
      exact hown
    case round =>
      obtain ⟨k,Z,hk,rfl,hZ,ho,hlv,hb⟩:=hrel
      clear hown hgrow hb1
      have hZl:(Z.map acC).length=k:=by have:=congrArg List.length hZ;simp at this;simp;omega
      by_cases hlt:k < l.length
      · obtain ⟨lv,hat,hrl⟩:=h4 k hlt
        have hshape:=hrl.shape
        have hat:=hat.below hb h3
        obtain ⟨c0,c1,c2,c3,c4⟩:=hat
        have hli:(k:Int) < (l.length:Int):=by omega
        have psz:=prt_sz 5 (Z.map acC) acZ l.length (acM_sz Z) rfl
        have plen:=prt_len (Z.map acC) acZ l.length (by omega)
        have Hg:Hid (∀ j,j < 5->(prt (Z.map acC) acZ l.length).flatten[k * 5+j]?=acZ[j]?):=hide (fun j hj=>by
          rw [flat_get 5 _ k j (by rw [plen];exact hlt) psz hj,prt_at _ _ _ k hZl.symm hlt])
        have HT:=hide (toAcct_any l[k] lv wr (hrl.below hb (Nat.le_refl _)) (hall l[k] (List.getElem_mem _)))
        have Hput:Hid (∀ lv':Value,((((((prt (Z.map acC) acZ l.length).flatten.set (k * 5) (.string l[k].1)).set (k * 5+1) (.int .i64 l[k].2.1)).set (k * 5+2) (.int .i64 l[k].2.2.1)).set (k * 5+3) (.int .i64 l[k].2.2.2.1)).set (k * 5+4) lv')=(prt ((Z ++ [(l[k],lv')]).map acC) acZ l.length).flatten):=hide (fun lv'=>by
          rw [flat_put5 _ k _ _ _ _ _ (by rw [plen];exact hlt) psz,prt_next _ _ _ _ k hZl.symm hlt,List.map_append]
          rfl)
        have HZ2:Hid (∀ lv':Value,(Z ++ [(l[k],lv')]).map (·.1)=l.take (k+1)):=hide (fun lv'=>by rw [List.map_append,hZ,List.take_succ_eq_append_getElem hlt];rfl)
        have Hlv:=hide hlv
        have hgl:w.heap.size < wr.heap.size:=(World.ownsRow.lt ho w.heap.size rfl).2
        have hZlen:Z.length=k:=by simpa using hZl
        clear h4 hlv hrl psz plen hZl hZ hall
        generalize l[k]=ak at c0 c1 c2 c3 HT Hput HZ2 hshape
        obtain ⟨nm,fr,no,st,ls⟩:=ak
        simp only [acV] at c0 c1 c2 c3 HT Hput HZ2
        obtain ⟨av,cv,rfl⟩:=hshape
        go_wp2_with (go_at_call 92;refine HT.out.mono ?_;rintro e w2 ⟨lv',rfl,ho',hb2⟩;obtain ⟨av',cv',rfl⟩:=ho'.rd.shape;have ho2:=row_below ho hb2 (Nat.le_refl _);have q0:=ho2.cellAt (k * 5) (by omega);have q1:=ho2.cellAt (k * 5+1) (by omega);have q2:=ho2.cellAt (k * 5+2) (by omega);have q3:=ho2.cellAt (k * 5+3) (by omega);have q4:=ho2.cellAt (k * 5+4) (by omega);have f0:=ho2.frozenAt (k * 5);have f1:=ho2.frozenAt (k * 5+1);have f2:=ho2.frozenAt (k * 5+2);have f3:=ho2.frozenAt (k * 5+3);have f4:=ho2.frozenAt (k * 5+4);rw [<- Nat.add_zero (k * 5),Hg.out 0 (by omega)] at q0;rw [Hg.out 1 (by omega)] at q1;rw [Hg.out 2 (by omega)] at q2;rw [Hg.out 3 (by omega)] at q3;rw [Hg.out 4 (by omega)] at q4;rw [Nat.add_zero] at q0;simp only [acZ,List.getElem?_cons_zero,List.getElem?_cons_succ] at q0 q1 q2 q3 q4)
        have n1:∀ k,(Value.slice av' ls.length cv').ownBlock=some k->k ≠ w.heap.size:=fun k hk=>by have:=ho'.ge k hk;omega
        have HL:Lvs w.heap.size w2 w.heap.size (Z ++ [((nm,fr,no,st,ls),.slice av' ls.length cv')]):=(Hlv.out.below hb2 (Nat.le_refl _)).snoc _ (ho'.mono hb.size) n1 (fun i hi k hk e=>by have:=(Hlv.out.own i hi).lt k hk;have:=ho'.ge k e;omega)
        go_roundw
        case rel =>
          refine ⟨k+1,Z ++ [((nm,fr,no,st,ls),.slice av' ls.length cv')],by omega,by go_num,HZ2.out _,?_,((((HL.set _ _).set _ _).set _ _).set _ _).set _ _,?_⟩
          · have s1:=(ho2.stored (k * 5) (.string nm)).1
            have s2:=(s1.stored (k * 5+1) (.int .i64 fr)).1
            have s3:=(s2.stored (k * 5+2) (.int .i64 no)).1
            have s4:=(s3.stored (k * 5+3) (.int .i64 st)).1
            have s5:=(s4.stored (k * 5+4) (.slice av' ls.length cv')).1
            rw [Hput.out] at s5
            exact s5
          · exact (((((hb.trans (hb2.mono hb.size)).setCell (p:=⟨w.heap.size,k * 5,none⟩) (Nat.le_refl _) _).setCell (p:=⟨w.heap.size,k * 5+1,none⟩) (Nat.le_refl _) _).setCell (p:=⟨w.heap.size,k * 5+2,none⟩) (Nat.le_refl _) _).setCell (p:=⟨w.heap.size,k * 5+3,none⟩) (Nat.le_refl _) _).setCell (p:=⟨w.heap.size,k * 5+4,none⟩) (Nat.le_refl _) _
        case measure=>simp [intOf];omega
      · have e:k=l.length:=by omega
        subst e
        rw [prt_all _ _ _ hZl] at ho
        rw [List.take_length] at hZ
        go_wp2
        go_ret
        exact ⟨_,rfl,⟨_,_,Z,hZ,rfl,ho,hlv⟩,hb⟩
end Go.Proofs.YthehfkafcdociaaGreatDoor
