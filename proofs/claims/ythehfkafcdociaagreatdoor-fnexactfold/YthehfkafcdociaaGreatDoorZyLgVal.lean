/- A ledger by value. -/
import Derived.Test.YthehfkafcdociaaGreatDoorZyBkVal
import Derived.Deep.RegionWith
set_option maxRecDepth 20000
set_option maxHeartbeats 2000000
namespace Go.Proofs.YthehfkafcdociaaGreatDoor
open Go.RowKit
set_option linter.unusedVariables false
open Classical in
theorem eqAcctS_any (v1 v2:Value) (l1 l2:List Ac) (w:World) (hr1:RdA w v1 l1) (hr2:RdA w v2 l2) (hl1:l1.length<=4000000) (hl2:l2.length<=4000000) (ha1:∀ a ∈ l1,a.2.2.2.2.length<=4000000) (ha2:∀ a ∈ l2,a.2.2.2.2.length<=4000000) :
    Calls Tryz.prog 34 #[v1,v2] w fun e w'=>e=.returned (.bool (decide (l1=l2)))/\Below w.heap.size w w':=by
  by_cases hne:l1.length=l2.length
  · rcases hr1 with ⟨a,cap,rfl,rfl,-⟩ | ⟨b,off,cap,h0,rfl,h1,h2,h3,h4⟩
    · have e2:l2=[]:=List.length_eq_zero_iff.1 (by simpa using hne.symm)
      subst e2
      obtain ⟨a2,cap2,rfl⟩:=hr2.shape
      clear hr2
      go_enter Tryz.func34,Tryz.ntmps34
      go_wp2
      refine wp_loop_rounds 1 ?_
      rw [rounds_succ]
      go_wp2
      go_ret
      exact ⟨rfl,Below.refl _ _⟩
    · rcases hr2 with ⟨a2,cap2,rfl,rfl,-⟩ | ⟨b2,off2,cap2,g0,rfl,g1,g2,g3,g4⟩
      · exact absurd (List.length_eq_zero_iff.1 (by simpa using hne)) h0
      · have Hne:=hide hne
        have hlen:((l1.length:Int) != (l2.length:Int))=false:=by rw [hne];simp
        have hle:l1.length<=l2.length:=by omega
        have hge:l2.length<=l1.length:=by omega
        have H4:=hide h4
        have G4:=hide g4
        have A1:=hide ha1
        have A2:=hide ha2
        clear hne h4 g4 ha1 ha2
        go_enter Tryz.func34,Tryz.ntmps34
        go_wp2
        go_loopw [5] (fun i wr=>∃ k:Nat,k<=l1.length/\i=.int .i64 k/\l1.take k=l2.take k/\Below w.heap.size w wr) (fun i _=>l1.length - (intOf i).toNat)
        case atStart=>exact ⟨0,Nat.zero_le _,rfl,rfl,Below.refl _ _⟩
        case round =>
          obtain ⟨k,hk,rfl,ht,hs⟩:=hrel
          have Ht:=hide ht
          clear ht
          by_cases hlt:k < l1.length
          · have hlt2:k < l2.length:=by omega
            obtain ⟨la,ca,ra⟩:=H4.out k hlt
            obtain ⟨lb,cb',rb⟩:=G4.out k hlt2
            obtain ⟨c0,c1,c2,c3,c4⟩:=ca.below hs.drew h3
            obtain ⟨d0,d1,d2,d3,d4⟩:=cb'.below hs.drew g3
            have hli:(k:Int) < (l1.length:Int):=by omega
            have hli2:(k:Int) < (l2.length:Int):=by omega
            have HE:=hide (eqAcct_any l1[k] l2[k] la lb wr.drew (ra.below hs.drew (Nat.le_refl _)) (rb.below hs.drew (Nat.le_refl _)) (A1.out _ (List.getElem_mem _)) (A2.out _ (List.getElem_mem _)))
            have Hnx:Hid (l1[k]=l2[k]->l1.take (k+1)=l2.take (k+1)):=hide (fun he=>take_eq_snoc hlt hlt2 Ht.out he)
            have Hno:Hid (l1[k] ≠ l2[k]->decide (l1=l2)=false):=hide (fun he=>by rw [decide_eq_false];intro e;subst e;exact he rfl)
            have sa:=ra.shape
            have sb:=rb.shape
            clear ra rb ca cb'
            generalize hp:l1[k]=p at c0 c1 c2 c3 HE Hnx Hno sa
            generalize hq:l2[k]=q at d0 d1 d2 d3 HE Hnx Hno sb
            clear hp hq
            have hS1:wr.drew.cell? ⟨b,off+k * 5,none⟩=some (.string p.1)/\wr.drew.cell? ⟨b,off+k * 5+1,none⟩=some (.int .i64 p.2.1)/\wr.drew.cell? ⟨b,off+k * 5+2,none⟩=some (.int .i64 p.2.2.1)/\wr.drew.cell? ⟨b,off+k * 5+3,none⟩=some (.int .i64 p.2.2.2.1)/\wr.drew.cell? ⟨b,off+k * 5+4,none⟩=some la/\wr.drew.cell? ⟨b2,off2+k * 5,none⟩=some (.string q.1)/\wr.drew.cell? ⟨b2,off2+k * 5+1,none⟩=some (.int .i64 q.2.1)/\wr.drew.cell? ⟨b2,off2+k * 5+2,none⟩=some (.int .i64 q.2.2.1)/\wr.drew.cell? ⟨b2,off2+k * 5+3,none⟩=some (.int .i64 q.2.2.2.1)/\wr.drew.cell? ⟨b2,off2+k * 5+4,none⟩=some lb:=⟨c0,c1,c2,c3,c4,d0,d1,d2,d3,d4⟩
            obtain ⟨xa,ya,rfl⟩:=sa
            obtain ⟨xb,yb,rfl⟩:=sb
            unfold acV at HE
            clear c0 c1 c2 c3 c4 d0 d1 d2 d3 d4
            by_cases he:p=q
            · rw [decide_eq_true he] at HE
              have Hnx:=hide (Hnx.out he)
              clear he Hno
              go_wp2
              go_region_held_law (fun w'=>w'.cell? ⟨b,off+k * 5,none⟩=some (.string p.1)/\w'.cell? ⟨b,off+k * 5+1,none⟩=some (.int .i64 p.2.1)/\w'.cell? ⟨b,off+k * 5+2,none⟩=some (.int .i64 p.2.2.1)/\w'.cell? ⟨b,off+k * 5+3,none⟩=some (.int .i64 p.2.2.2.1)/\w'.cell? ⟨b,off+k * 5+4,none⟩=some (.slice xa p.2.2.2.2.length ya)/\w'.cell? ⟨b2,off2+k * 5,none⟩=some (.string q.1)/\w'.cell? ⟨b2,off2+k * 5+1,none⟩=some (.int .i64 q.2.1)/\w'.cell? ⟨b2,off2+k * 5+2,none⟩=some (.int .i64 q.2.2.1)/\w'.cell? ⟨b2,off2+k * 5+3,none⟩=some (.int .i64 q.2.2.2.1)/\w'.cell? ⟨b2,off2+k * 5+4,none⟩=some (.slice xb q.2.2.2.2.length yb)) (first | exact hS1 | exact hS2) ((go_at_call 64;refine HE.out.mono ?_;rintro e w2 ⟨rfl,hb2⟩;have hz:=hs.size;have hS2:w2.cell? ⟨b,off+k * 5,none⟩=some (.string p.1)/\w2.cell? ⟨b,off+k * 5+1,none⟩=some (.int .i64 p.2.1)/\w2.cell? ⟨b,off+k * 5+2,none⟩=some (.int .i64 p.2.2.1)/\w2.cell? ⟨b,off+k * 5+3,none⟩=some (.int .i64 p.2.2.2.1)/\w2.cell? ⟨b,off+k * 5+4,none⟩=some (.slice xa p.2.2.2.2.length ya)/\w2.cell? ⟨b2,off2+k * 5,none⟩=some (.string q.1)/\w2.cell? ⟨b2,off2+k * 5+1,none⟩=some (.int .i64 q.2.1)/\w2.cell? ⟨b2,off2+k * 5+2,none⟩=some (.int .i64 q.2.2.1)/\w2.cell? ⟨b2,off2+k * 5+3,none⟩=some (.int .i64 q.2.2.2.1)/\w2.cell? ⟨b2,off2+k * 5+4,none⟩=some (.slice xb q.2.2.2.2.length yb):=⟨(hb2.cell (p:=⟨b,off+k * 5,none⟩) (Nat.lt_of_lt_of_le h3 hz)).trans hS1.1,(hb2.cell (p:=⟨b,off+k * 5+1,none⟩) (Nat.lt_of_lt_of_le h3 hz)).trans hS1.2.1,(hb2.cell (p:=⟨b,off+k * 5+2,none⟩) (Nat.lt_of_lt_of_le h3 hz)).trans hS1.2.2.1,(hb2.cell (p:=⟨b,off+k * 5+3,none⟩) (Nat.lt_of_lt_of_le h3 hz)).trans hS1.2.2.2.1,(hb2.cell (p:=⟨b,off+k * 5+4,none⟩) (Nat.lt_of_lt_of_le h3 hz)).trans hS1.2.2.2.2.1,(hb2.cell (p:=⟨b2,off2+k * 5,none⟩) (Nat.lt_of_lt_of_le g3 hz)).trans hS1.2.2.2.2.2.1,(hb2.cell (p:=⟨b2,off2+k * 5+1,none⟩) (Nat.lt_of_lt_of_le g3 hz)).trans hS1.2.2.2.2.2.2.1,(hb2.cell (p:=⟨b2,off2+k * 5+2,none⟩) (Nat.lt_of_lt_of_le g3 hz)).trans hS1.2.2.2.2.2.2.2.1,(hb2.cell (p:=⟨b2,off2+k * 5+3,none⟩) (Nat.lt_of_lt_of_le g3 hz)).trans hS1.2.2.2.2.2.2.2.2.1,(hb2.cell (p:=⟨b2,off2+k * 5+4,none⟩) (Nat.lt_of_lt_of_le g3 hz)).trans hS1.2.2.2.2.2.2.2.2.2⟩))
              go_wp2
              go_roundw
              case rel=>exact ⟨k+1,by omega,by go_num,Hnx.out,hs.drew.trans (hb2.mono hs.size)⟩
              case measure=>simp [intOf];omega
            · rw [decide_eq_false he] at HE
              have Hno:=hide (Hno.out he)
              clear he Hnx
              go_wp2
              go_region_held_law (fun w'=>w'.cell? ⟨b,off+k * 5,none⟩=some (.string p.1)/\w'.cell? ⟨b,off+k * 5+1,none⟩=some (.int .i64 p.2.1)/\w'.cell? ⟨b,off+k * 5+2,none⟩=some (.int .i64 p.2.2.1)/\w'.cell? ⟨b,off+k * 5+3,none⟩=some (.int .i64 p.2.2.2.1)/\w'.cell? ⟨b,off+k * 5+4,none⟩=some (.slice xa p.2.2.2.2.length ya)/\w'.cell? ⟨b2,off2+k * 5,none⟩=some (.string q.1)/\w'.cell? ⟨b2,off2+k * 5+1,none⟩=some (.int .i64 q.2.1)/\w'.cell? ⟨b2,off2+k * 5+2,none⟩=some (.int .i64 q.2.2.1)/\w'.cell? ⟨b2,off2+k * 5+3,none⟩=some (.int .i64 q.2.2.2.1)/\w'.cell? ⟨b2,off2+k * 5+4,none⟩=some (.slice xb q.2.2.2.2.length yb)) (first | exact hS1 | exact hS2) ((go_at_call 64;refine HE.out.mono ?_;rintro e w2 ⟨rfl,hb2⟩;have hz:=hs.size;have hS2:w2.cell? ⟨b,off+k * 5,none⟩=some (.string p.1)/\w2.cell? ⟨b,off+k * 5+1,none⟩=some (.int .i64 p.2.1)/\w2.cell? ⟨b,off+k * 5+2,none⟩=some (.int .i64 p.2.2.1)/\w2.cell? ⟨b,off+k * 5+3,none⟩=some (.int .i64 p.2.2.2.1)/\w2.cell? ⟨b,off+k * 5+4,none⟩=some (.slice xa p.2.2.2.2.length ya)/\w2.cell? ⟨b2,off2+k * 5,none⟩=some (.string q.1)/\w2.cell? ⟨b2,off2+k * 5+1,none⟩=some (.int .i64 q.2.1)/\w2.cell? ⟨b2,off2+k * 5+2,none⟩=some (.int .i64 q.2.2.1)/\w2.cell? ⟨b2,off2+k * 5+3,none⟩=some (.int .i64 q.2.2.2.1)/\w2.cell? ⟨b2,off2+k * 5+4,none⟩=some (.slice xb q.2.2.2.2.length yb):=⟨(hb2.cell (p:=⟨b,off+k * 5,none⟩) (Nat.lt_of_lt_of_le h3 hz)).trans hS1.1,(hb2.cell (p:=⟨b,off+k * 5+1,none⟩) (Nat.lt_of_lt_of_le h3 hz)).trans hS1.2.1,(hb2.cell (p:=⟨b,off+k * 5+2,none⟩) (Nat.lt_of_lt_of_le h3 hz)).trans hS1.2.2.1,(hb2.cell (p:=⟨b,off+k * 5+3,none⟩) (Nat.lt_of_lt_of_le h3 hz)).trans hS1.2.2.2.1,(hb2.cell (p:=⟨b,off+k * 5+4,none⟩) (Nat.lt_of_lt_of_le h3 hz)).trans hS1.2.2.2.2.1,(hb2.cell (p:=⟨b2,off2+k * 5,none⟩) (Nat.lt_of_lt_of_le g3 hz)).trans hS1.2.2.2.2.2.1,(hb2.cell (p:=⟨b2,off2+k * 5+1,none⟩) (Nat.lt_of_lt_of_le g3 hz)).trans hS1.2.2.2.2.2.2.1,(hb2.cell (p:=⟨b2,off2+k * 5+2,none⟩) (Nat.lt_of_lt_of_le g3 hz)).trans hS1.2.2.2.2.2.2.2.1,(hb2.cell (p:=⟨b2,off2+k * 5+3,none⟩) (Nat.lt_of_lt_of_le g3 hz)).trans hS1.2.2.2.2.2.2.2.2.1,(hb2.cell (p:=⟨b2,off2+k * 5+4,none⟩) (Nat.lt_of_lt_of_le g3 hz)).trans hS1.2.2.2.2.2.2.2.2.2⟩))
              go_wp2
              go_ret
              exact ⟨ret_bool Hno.out.symm,hs.drew.trans (hb2.mono hs.size)⟩
          · have hf:Hid (decide (l1=l2)=true):=hide (by
              rw [decide_eq_true]
              have:=Ht.out
              rwa [List.take_of_length_le (by omega),List.take_of_length_le (by omega)] at this)
            go_wp2
            go_ret
            exact ⟨ret_bool hf.out.symm,hs⟩
  · obtain ⟨a,cap,rfl⟩:=hr1.shape
    obtain ⟨a2,cap2,rfl⟩:=hr2.shape
    clear hr1 hr2
    have hlen:((l1.length:Int) != (l2.length:Int))=true:=by rw [bne_iff_ne];omega
    have hf:Hid (decide (l1=l2)=false):=hide (by rw [decide_eq_false];intro e;subst e;exact hne rfl)
    clear hne
    go_enter Tryz.func34,Tryz.ntmps34
    go_wp2
    go_ret
    exact ⟨ret_bool hf.out.symm,Below.refl _ _⟩
def wgA (a:Ac):Nat:=a.1.size+a.2.2.2.2.length
def totA (l:List Ac):Nat:=(l.map wgA).sum
theorem totA_snoc (l:List Ac) (k:Nat) (h:k < l.length):totA (l.take (k+1))=totA (l.take k)+wgA l[k]:=by
  unfold totA
  rw [List.take_succ_eq_append_getElem h,List.map_append,List.sum_append]
  simp only [List.map_cons,List.map_nil,List.sum_cons,List.sum_nil,Nat.add_zero]
theorem totA_at:∀ (l:List Ac) (a:Ac),a ∈ l->wgA a<=totA l
  | [],a,h=>by simp at h
  | b :: l,a,h=>by
    have e:totA (b :: l)=wgA b+totA l:=by simp [totA]
    rw [e]
    rcases List.mem_cons.1 h with rfl | h
    · omega
    · have:=totA_at l a h;omega
theorem szAc_fit (a:Ac) (r:Nat) (h:wgA a<=r):szAc a (r:Int)=((r - wgA a:Nat):Int):=by
  unfold wgA at h
  unfold szAc wgA
  rw [if_neg (by omega),if_neg (by omega)]
  omega
theorem szAc_not (a:Ac) (r:Nat) (h:¬ wgA a<=r):szAc a (r:Int)=-1:=by
  unfold wgA at h
  unfold szAc
  by_cases h1:(r:Int) - a.1.size < 0
  · rw [if_pos h1]
  · rw [if_neg h1,if_pos (by omega)]
theorem flat_put4 {α:Type} (L:List (List α)) (i:Nat) (a b c d a0 b0 c0 d0 e:α) (hi:i < L.length) (h:∀ x ∈ L,x.length=5) (hx:L[i]=[a0,b0,c0,d0,e]):(((L.flatten.set (i * 5) a).set (i * 5+1) b).set (i * 5+2) c).set (i * 5+3) d=(L.set i [a,b,c,d,e]).flatten:=by
  have h5:=flat_put5 L i a b c d e hi h
  rw [<- h5]
  have hself:∀ (X:List α) (m:Nat) (u:α),X[m]?=some u->X.set m u=X:=fun X m u hu=>by
    obtain ⟨h1,rfl⟩:=List.getElem?_eq_some_iff.1 hu
    simp
  symm
  apply hself
  rw [List.getElem?_set_ne (by omega),List.getElem?_set_ne (by omega),List.getElem?_set_ne (by omega),List.getElem?_set_ne (by omega),flat_get 5 L i 4 hi h (by omega),hx]
  rfl
theorem Lvs.mark {base:Nat} {w w':World} {g:Nat} {P:List (Ac × Value)} (h:Lvs base w g P) {j:Nat} (hj:j < P.length) (q:Ac × Value) (hq:q.2=P[j].2) (ho:OwnL base w' P[j].2 q.1.2.2.2.2) (hg:w.grownBy w' P[j].2.ownBlock):Lvs base w' g (P.set j q):=by
  have hat:∀ i (hi:i < (P.set j q).length),(P.set j q)[i].2=(P[i]'(by simpa using hi)).2:=fun i hi=>by
    rw [List.getElem_set]
    split
    · rename_i e;subst e;exact hq
    · rfl
  refine ⟨fun i hi=>?_,fun i hi=>?_,fun i i' hi hi' hne=>?_⟩
  · by_cases e:i=j
    · subst e
      have e2:(P.set i q)[i]=q:=by simp
      rw [e2,hq];exact ho
    · have e2:(P.set j q)[i]=P[i]'(by simpa using hi):=by rw [List.getElem_set_ne (by omega)]
      rw [e2]
      refine (h.own i (by simpa using hi)).kept hg ?_
      cases hb:(P[i]'(by simpa using hi)).2.ownBlock with
      | none=>exact .inl rfl
      | some k=>exact .inr (fun e'=>h.apart i j (by simpa using hi) hj e k hb e'.symm)
  · rw [hat i hi];exact h.far i (by simpa using hi)
  · rw [hat i hi,hat i' hi'];exact h.apart i i' (by simpa using hi) (by simpa using hi') hne
theorem Btw.set {lo hi:Nat} {w w':World} (h:Btw lo hi w w') {g:Nat} (h1:lo<=g) (h2:g < hi) (j:Nat) (u:Value):Btw lo hi w (w'.setCell ⟨g,j,none⟩ u) :=
  h.trans (Btw.of_grown (grown_set w' g j u) (fun k e=>by cases e;exact ⟨h1,h2⟩))
theorem markAcctS_any (v:Value) (l:List Ac) (k base hi:Nat) (w:World) (ho:OwnX base hi w v l) (hl:l.length<=10000000) (hlv:∀ a ∈ l,a.2.2.2.2.length<=10000000) (hk:nxs k l<=90000000) (hk0:0 < k) :
    Calls Tryz.prog 45 #[v,.int .i64 (k:Int)] w fun e w'=>e=.returned (.int .i64 ((nxs k l:Nat):Int))/\OwnX base hi w' v (mkAs k l)/\Btw base hi w w':=by
  obtain ⟨g,cap,Z,hZ,rfl,hrow,hLv,hghi,hZhi⟩:=ho
  have hZl:Z.length=l.length:=by rw [<- hZ];simp
  have hgb:base<=g:=(World.ownsRow.lt hrow g rfl).1
  have Hrow:=hide hrow
  have HLv:=hide hLv
  have HZ:=hide hZ
  have HZhi:=hide hZhi
  have Hlv:=hide hlv
  clear hrow hLv hZ hZhi hlv
  go_enter Tryz.func45,Tryz.ntmps45
  go_wp2
  go_loopw [1,5] (fun kv iv wr=>∃ j:Nat,j<=l.length/\iv=.int .i64 (j:Int)/\kv=.int .i64 ((nxs k (l.take j):Nat):Int)/\wr.ownsRow base 122 5 (.slice (some ⟨g,0,none⟩) l.length cap) l.length ((mkP k Z j).map acC).flatten/\Lvs base wr g (mkP k Z j)/\Btw base hi w wr)
    (fun _ iv _=>l.length - (intOf iv).toNat)
  case atStart=>exact ⟨0,Nat.zero_le _,rfl,rfl,by rw [mkP_zero];exact Hrow.out,by rw [mkP_zero];exact HLv.out,Btw.refl _ _ _⟩
  case round =>
    obtain ⟨j,hj,rfl,rfl,hown,hLv,hbt⟩:=hrel
    clear Hrow HLv
    by_cases hlt:j < l.length
    · have hjZ:j < Z.length:=by omega
      have hli:(j:Int) < (l.length:Int):=by omega
      have hZj:Z[j].1=l[j]:=fst_at HZ.out hlt
      have hPl:=mkP_len k Z j (by omega)
      have hPat:=mkP_at k Z j hjZ
      have Hnx:=hide (nxs_next k l j hlt)
      have hKb:=nxs_take k l (j+1)
      have Hpn:=hide (mkP_next k Z j hjZ)
      rw [HZ.out] at Hpn
      have hKg:=nxs_ge k (l.take j)
      have hlj:=Hlv.out l[j] (List.getElem_mem _)
      have hLj:=hLv.own j (by omega)
      have hgeJ:=hLj.ge
      have hfarJ:=hLv.far j (by omega)
      rw [hPat] at hLj hgeJ hfarJ
      rw [hZj] at hLj Hpn
      have hhiJ:=HZhi.out Z[j] (List.getElem_mem _)
      have Hq:Hid (∀ w',OwnL base w' Z[j].2 (mkL (nxs k (l.take j)+4) l[j].2.2.2.2.length)->∀ w,Lvs base w g (mkP k Z j)->w.grownBy w' Z[j].2.ownBlock->Lvs base w' g (mkP k Z (j+1))):=hide (fun w' h1 w0 h2 h3=>by
        rw [<- Hpn.out]
        exact h2.mark (by omega) _ (by rw [hPat]) (by rw [hPat];exact h1) (by rw [hPat];exact h3))
      have Hc:Hid (∀ i,i < 5->((mkP k Z j).map acC).flatten[j * 5+i]?=(acC Z[j])[i]?):=hide (fun i hi=>by
        rw [flat_get 5 _ j i (by simp;omega) (acM_sz _) hi]
        simp [hPat])
      have hacz:acC Z[j]=[.string l[j].1,.int .i64 l[j].2.1,.int .i64 l[j].2.2.1,.int .i64 l[j].2.2.2.1,Z[j].2]:=by unfold acC;rw [hZj]
      have Hput:Hid (∀ K:Nat,K=nxs k (l.take j)->((((((mkP k Z j).map acC).flatten.set (j * 5) (.string (mtx K))).set (j * 5+1) (.int .i64 ((K+1:Nat):Int))).set (j * 5+2) (.int .i64 ((K+2:Nat):Int))).set (j * 5+3) (.int .i64 ((K+3:Nat):Int)))=((mkP k Z (j+1)).map acC).flatten):=hide (fun K hK=>by
        rw [flat_put4 _ j _ _ _ _ (.string l[j].1) (.int .i64 l[j].2.1) (.int .i64 l[j].2.2.1) (.int .i64 l[j].2.2.2.1) Z[j].2 (by simp;omega) (acM_sz _) (by simp [hPat,hacz]),<- Hpn.out,List.map_set,hK]
        rfl)
      rw [hacz] at Hc
      obtain ⟨a',c',hsh⟩:=hLj.rd.shape
      have Hown:=hide hown
      have HLv:=hide hLv
      have HLj:=hide hLj
      have HgeJ:=hide hgeJ
      have HfarJ:=hide hfarJ
      have HhiJ:=hide hhiJ
      have Hbt:=hide hbt
      clear hown hLv hLj hgeJ hfarJ hhiJ hbt hPat hPl hacz hZj Hpn
      generalize Z[j].2=lw at *
      subst hsh
      have hnxe:nxs k (l.take (j+1))=nxs k (l.take j)+4+2 * l[j].2.2.2.2.length:=Hnx.out
      have Hnx2:=hide hnxe
      obtain ⟨K,hK⟩:∃ K,nxs k (l.take j)=K:=⟨_,rfl⟩
      rw [hK] at Hq Hnx2 hnxe hKg ⊢
      have Hput:=hide (Hput.out K hK.symm)
      have hK0:0 < K:=by omega
      have hK2:K<=90000000:=by omega
      have hKn:K+4<=100000000:=by omega
      have Hm:=hide (fun w=>markText_any K w hK0 (by omega))
      clear hnxe hKb Hnx hK
      generalize l[j]=ak at *
      obtain ⟨nm,fr,no,st,ls⟩:=ak
      simp only at Hc HLj Hq Hnx2 hlj
      go_wp2_with fail
      refine (Hm.out _).mono ?_
      rintro e w1 ⟨rfl,hb1⟩
      have ho1:=row_below Hown.out hb1 (Nat.le_refl _)
      have q0:=ho1.cellAt (j * 5) (by omega)
      have q1:=ho1.cellAt (j * 5+1) (by omega)
      have q2:=ho1.cellAt (j * 5+2) (by omega)
      have q3:=ho1.cellAt (j * 5+3) (by omega)
      have q4:=ho1.cellAt (j * 5+4) (by omega)
      have f0:=ho1.frozenAt (j * 5)
      have f1:=ho1.frozenAt (j * 5+1)
      have f2:=ho1.frozenAt (j * 5+2)
      have f3:=ho1.frozenAt (j * 5+3)
      rw [<- Nat.add_zero (j * 5),Hc.out 0 (by omega)] at q0
      rw [Nat.add_zero] at q0
      rw [Hc.out 1 (by omega)] at q1
      rw [Hc.out 2 (by omega)] at q2
      rw [Hc.out 3 (by omega)] at q3
      rw [Hc.out 4 (by omega)] at q4
      simp only [List.getElem?_cons_zero,List.getElem?_cons_succ] at q0 q1 q2 q3 q4
      have s1:=(ho1.stored (j * 5) (.string (mtx K))).1
      have s2:=(s1.stored (j * 5+1) (.int .i64 ((K+1:Nat):Int))).1
      have s3:=(s2.stored (j * 5+2) (.int .i64 ((K+2:Nat):Int))).1
      have s4:=(s3.stored (j * 5+3) (.int .i64 ((K+3:Nat):Int))).1
      rw [Hput.out] at s4
      have HS4:=hide s4
      have HLv1:=hide ((((HLv.out.below hb1 (Nat.le_refl _)).set (j * 5) (.string (mtx K))).set (j * 5+1) (.int .i64 ((K+1:Nat):Int))).set (j * 5+2) (.int .i64 ((K+2:Nat):Int)) |>.set (j * 5+3) (.int .i64 ((K+3:Nat):Int)))
      have HLj1:=hide (row_set (row_set (row_set (row_set (HLj.out.below hb1 (Nat.le_refl _)) g (j * 5) (.string (mtx K)) HfarJ.out) g (j * 5+1) (.int .i64 ((K+1:Nat):Int)) HfarJ.out) g (j * 5+2) (.int .i64 ((K+2:Nat):Int)) HfarJ.out) g (j * 5+3) (.int .i64 ((K+3:Nat):Int)) HfarJ.out)
      have Hbt1:=hide (((((Hbt.out.trans (Btw.of_below hb1)).set hgb hghi (j * 5) (.string (mtx K))).set hgb hghi (j * 5+1) (.int .i64 ((K+1:Nat):Int))).set hgb hghi (j * 5+2) (.int .i64 ((K+2:Nat):Int))).set hgb hghi (j * 5+3) (.int .i64 ((K+3:Nat):Int)))
      clear s1 s2 s3 s4 ho1 hb1 Hc
      go_wp2_with (go_at_call 75;refine (markLeaveS_any _ ls (K+4) base _ HLj1.out hlj hKn).mono ?_;rintro e w2 ⟨rfl,ho2,hg2⟩)
      go_roundw
      case rel =>
        refine ⟨j+1,by omega,by go_num,by rw [Hnx2.out];go_num,World.ownsRow.kept HS4.out hg2 ?_,Hq.out _ ho2 _ HLv1.out hg2,Hbt1.out.trans (Btw.of_grown hg2 (fun k hk=>⟨HgeJ.out k hk,HhiJ.out k hk⟩))⟩
        refine .inr (fun e=>HfarJ.out g e.symm rfl)
      case measure=>simp [intOf];omega
    · have e:j=l.length:=by omega
      subst e
      rw [List.take_length]
      have e2:mkP k Z l.length=mkZ k Z:=by rw [<- hZl];exact mkP_all k Z
      rw [e2] at hown hLv
      have hm:(mkZ k Z).map (·.1)=mkAs k l:=by rw [mkZ_fst,HZ.out]
      have hml:=mkAs_len k l
      have Hend:Hid (OwnX base hi wr (.slice (some ⟨g,0,none⟩) l.length cap) (mkAs k l)):=hide ⟨g,cap,mkZ k Z,hm,by rw [hml],by rw [hml];exact hown,hLv,hghi,fun q hq n hn=>by
        have:q.2 ∈ (mkZ k Z).map (·.2):=List.mem_map_of_mem hq
        rw [mkZ_snd] at this
        obtain ⟨q',hq',e'⟩:=List.mem_map.1 this
        exact HZhi.out q' hq' n (by rw [e'];exact hn)⟩
      have Hbt:=hide hbt
      clear hown hLv hbt
      go_wp2
      go_ret
      exact ⟨rfl,Hend.out,Hbt.out⟩
theorem heldLeaveS_any (v:Value) (k n:Nat) (w:World) (hr:RdL w v (mkL k n)) (hl:n<=10000000) (hk:k<=100000000) :
    Calls Tryz.prog 76 #[v,.int .i64 (k:Int)] w fun e w'=>e=.returned (.int .i64 ((k+2 * n:Nat):Int))/\Below w.heap.size w w':=by
  have hML:=mkL_len k n
  have hMA:=mkL_at k n
  generalize hMd:mkL k n=M at hML hMA hr
  clear hMd
  rcases hr with ⟨a,cap,rfl,rfl,-⟩ | ⟨b,off,cap,h0,rfl,h1,h2,h3,h4⟩
  · simp at hML
    subst hML
    clear hMA
    go_enter Tryz.func76,Tryz.ntmps76
    go_wp2
    refine wp_loop_rounds 1 ?_
    rw [rounds_succ]
    go_wp2
    go_ret
    exact ⟨rfl,Below.refl _ _⟩
  · have HMA:=hide hMA
    have hMl:n<=M.length:=by omega
    have hMg:M.length<=n:=by omega
    have H4:=hide h4
    clear hML hMA h4
    go_enter Tryz.func76,Tryz.ntmps76
    go_wp2
    go_loopw [1,5] (fun kv iv wr=>∃ j:Nat,j<=n/\iv=.int .i64 (j:Int)/\kv=.int .i64 ((k+2 * j:Nat):Int)/\Below w.heap.size w wr) (fun _ iv _=>n - (intOf iv).toNat)
    case atStart=>exact ⟨0,Nat.zero_le _,rfl,rfl,Below.refl _ _⟩
    case round =>
      obtain ⟨j,hj,rfl,rfl,hb⟩:=hrel
      by_cases hlt:j < n
      · have hjM:j < M.length:=by omega
        have hc0:wr.cell? ⟨b,off+j * 2,none⟩=some (.int .i64 M[j].1):=(hb.cell (p:=⟨b,off+j * 2,none⟩) h3).trans (H4.out j hjM).1
        have hc1:wr.cell? ⟨b,off+j * 2+1,none⟩=some (.int .i64 M[j].2):=(hb.cell (p:=⟨b,off+j * 2+1,none⟩) h3).trans (H4.out j hjM).2
        obtain ⟨K,hK⟩:∃ K:Nat,k+2 * j=K:=⟨_,rfl⟩
        have hK2:K<=200000000:=by omega
        rw [HMA.out j hjM,hK] at hc0 hc1
        simp only at hc0 hc1
        rw [hK]
        have HK:=hide hK
        have hli:(j:Int) < (M.length:Int):=by omega
        have Hb:=hide hb
        clear hK hb
        go_wp2
        go_roundw
        case rel=>exact ⟨j+1,by omega,by go_num,by rw [show k+2 * (j+1)=K+2 from by have:=HK.out;omega];go_num,Hb.out⟩
        case measure=>simp [intOf];omega
      · have e:j=n:=by omega
        have He:=hide e
        clear e
        go_wp2
        go_ret
        exact ⟨ret_int (by rw [<- He.out]),hb⟩
theorem heldAcctS_any (v:Value) (l:List Ac) (k:Nat) (w:World) (hr:RdA w v (mkAs k l)) (hl:l.length<=10000000) (hlv:∀ a ∈ l,a.2.2.2.2.length<=10000000) (hk:nxs k l<=90000000) (hk0:0 < k) :
    Calls Tryz.prog 46 #[v,.int .i64 (k:Int)] w fun e w'=>e=.returned (.int .i64 ((nxs k l:Nat):Int))/\Below w.heap.size w w':=by
  have hML:=mkAs_len k l
  have hMA:∀ j (h:j < l.length) (h':j < (mkAs k l).length),(mkAs k l)[j]=mkA (nxs k (l.take j)) l[j]:=fun j h _=>mkAs_at k l j h
  generalize hMd:mkAs k l=M at hML hMA hr
  clear hMd
  rcases hr with ⟨a,cap,rfl,rfl,-⟩ | ⟨b,off,cap,h0,rfl,h1,h2,h3,h4⟩
  · have e:l=[]:=List.length_eq_zero_iff.1 (by simpa using hML.symm)
    subst e
    clear hMA
    go_enter Tryz.func46,Tryz.ntmps46
    go_wp2
    refine wp_loop_rounds 1 ?_
    rw [rounds_succ]
    go_wp2
    go_ret
    exact ⟨rfl,Below.refl _ _⟩
  · have HMA:=hide hMA
    have hMl:l.length<=M.length:=by omega
    have hMg:M.length<=l.length:=by omega
    have H4:=hide h4
    have Hlv:=hide hlv
    clear hML hMA h4 hlv
    go_enter Tryz.func46,Tryz.ntmps46
    go_wp2
    go_loopw [1,5] (fun kv iv wr=>∃ j:Nat,j<=l.length/\iv=.int .i64 (j:Int)/\kv=.int .i64 ((nxs k (l.take j):Nat):Int)/\Below w.heap.size w wr) (fun _ iv _=>l.length - (intOf iv).toNat)
    case atStart=>exact ⟨0,Nat.zero_le _,rfl,rfl,Below.refl _ _⟩
    case round =>
      obtain ⟨j,hj,rfl,rfl,hb⟩:=hrel
      by_cases hlt:j < l.length
      · have hjM:j < M.length:=by omega
        obtain ⟨lw,hat,hrl⟩:=H4.out j hjM
        have hat:=hat.below hb h3
        have hM:=HMA.out j hlt hjM
        rw [hM] at hat hrl
        have hlj:=Hlv.out l[j] (List.getElem_mem _)
        have hKb:=nxs_take k l (j+1)
        have hnxe:nxs k (l.take (j+1))=nxs k (l.take j)+4+2 * l[j].2.2.2.2.length:=nxs_next k l j hlt
        have hKg:=nxs_ge k (l.take j)
        obtain ⟨K,hK⟩:∃ K,nxs k (l.take j)=K:=⟨_,rfl⟩
        rw [hK] at hat hrl hnxe hKg ⊢
        have Hnx:=hide hnxe
        obtain ⟨c0,c1,c2,c3,c4⟩:=hat
        have hrl2:RdL wr lw (mkL (K+4) l[j].2.2.2.2.length):=RdL.below hrl hb (Nat.le_refl _)
        have hK0:0 < K:=by omega
        have hK2:K<=90000000:=by omega
        have Hm:=hide (fun w=>markText_any K w hK0 (by omega))
        have hshape:=hrl2.shape
        rw [mkL_len] at hshape
        have Hrl:=hide hrl2
        have hsz:=hb.size
        have hbw:b < wr.heap.size:=by omega
        have hli:(j:Int) < (M.length:Int):=by omega
        have Hb:=hide hb
        clear hM hrl hrl2 hb hK hKb hnxe
        generalize l[j].2.2.2.2.length=nl at *
        have HL:=hide (fun (W:World) (h:RdL W lw (mkL (K+4) nl))=>heldLeaveS_any lw (K+4) nl W h hlj (by omega))
        obtain ⟨a',c',rfl⟩:=hshape
        simp only [mkA] at c0 c1 c2 c3
        go_wp2_with fail
        go_region_with (go_at_call 69;refine (Hm.out _).mono ?_;rintro e w2 ⟨rfl,hb2⟩;have d0:=(hb2.cell (p:=⟨b,off+j * 5,none⟩) (by exact hbw)).trans (by exact c0);have d1:=(hb2.cell (p:=⟨b,off+j * 5+1,none⟩) (by exact hbw)).trans (by exact c1);have d2:=(hb2.cell (p:=⟨b,off+j * 5+2,none⟩) (by exact hbw)).trans (by exact c2);have d3:=(hb2.cell (p:=⟨b,off+j * 5+3,none⟩) (by exact hbw)).trans (by exact c3);have d4:=(hb2.cell (p:=⟨b,off+j * 5+4,none⟩) (by exact hbw)).trans (by exact c4))
        all_goals
          rename Below _ _ _=>hb2
          have HL2:=hide (HL.out _ ((Hrl.out.below ((Below.refl wr.heap.size wr).drew) (Nat.le_refl _)).below hb2 (Nat.le_refl _)))
          go_wp2_with (go_at_call 76;refine HL2.out.mono ?_;rintro e w3 ⟨rfl,hb3⟩)
          go_roundw
          case rel=>exact ⟨j+1,by omega,by go_num,by rw [Hnx.out];go_num,(Hb.out.drew.trans (hb2.mono hsz)).trans (hb3.mono (Nat.le_trans hsz hb2.size))⟩
          case measure=>simp [intOf];omega
      · have e:j=l.length:=by omega
        subst e
        rw [List.take_length]
        go_wp2
        go_ret
        exact ⟨rfl,hb⟩
def lgV (e:Int) (v:Value):Value:=.agg #[.int .i64 e,v]
theorem OwnA.older {base:Nat} {w:World} {v:Value} {l:List Ac} (h:OwnA base w v l) {g:Nat} (hg:g < base) (j:Nat) (u:Value):OwnA base (w.setCell ⟨g,j,none⟩ u) v l :=
  (h.ox.btw (Btw.of_grown (lo:=0) (hi:=base) (grown_set w g j u) (fun k hk=>⟨Nat.zero_le _,by cases hk;exact hg⟩)) (.inr (Nat.le_refl _))).own
theorem toLedger_any (e:Int) (v:Value) (l:List Ac) (w:World) (hr:RdA w v l) (hl:l.length<=4000000) (hall:∀ a ∈ l,a.2.2.2.2.length<=4000000) :
    Calls Tryz.prog 26 #[lgV e v] w fun en w'=>∃ v',en=.returned (lgV e v')/\OwnA w.heap.size w' v' l/\Below w.heap.size w w':=by
  obtain ⟨av,cv,rfl⟩:=hr.shape
  have Hr:=hide hr
  clear hr
  simp only [lgV] at *
  go_enter Tryz.func26,Tryz.ntmps26
  go_wp2_with fail
  obtain ⟨w3,hw3⟩:∃ w3,((w.alloc (.cells #[.int .i64 e,.slice av l.length cv] 24)).alloc (.cells #[.int .i64 0,.slice none 0 0] 36)).alloc (.cells #[.int .i64 e,.slice none 0 0] 36)=w3:=⟨_,rfl⟩
  rw [hw3]
  have hb3:Below w.heap.size w w3:=by rw [<- hw3];exact (((Below.refl _ w).alloc (Nat.le_refl _) _).alloc (by simp) _).alloc (by simp;omega) _
  have hs3:w3.heap.size=w.heap.size+3:=by rw [<- hw3];simp
  have kO:Blk w3 (w.heap.size+1+1) 36 [.int .i64 e,.slice none 0 0]:=by
    rw [<- hw3]
    have h:=Blk.new ((w.alloc (.cells #[.int .i64 e,.slice av l.length cv] 24)).alloc (.cells #[.int .i64 0,.slice none 0 0] 36)) 36 [.int .i64 e,.slice none 0 0]
    simp only [World.size_alloc] at h
    exact h
  have kR:Blk w3 (w.heap.size+1) 36 [.int .i64 0,.slice none 0 0]:=by
    rw [<- hw3]
    have h:=Blk.new (w.alloc (.cells #[.int .i64 e,.slice av l.length cv] 24)) 36 [.int .i64 0,.slice none 0 0]
    simp only [World.size_alloc] at h
    exact h.below ((Below.refl (w.heap.size+2) _).alloc (by simp) _) (by omega)
  refine (toAcctS_any _ l _ (Hr.out.below hb3 (Nat.le_refl _)) hl hall).mono ?_
  rintro en w4 ⟨v4,rfl,ho4,hb4⟩
  have kO4:=kO.below hb4 (by omega)
  have kR4:=kR.below hb4 (by omega)
  have c0:=kO4.cell 0
  have c1:=kO4.cell 1
  have g1:=kO4.frozen 1
  have r0:=kR4.cell 0
  have r1:=kR4.cell 1
  have q0:=kR4.frozen 0
  have q1:=kR4.frozen 1
  simp only [List.getElem?_cons_zero,List.getElem?_cons_succ] at c0 c1 r0 r1
  obtain ⟨a4,cv4,rfl⟩:=ho4.rd.shape
  have Ho:=hide ho4
  have Hb:=hide (hb3.trans (hb4.mono hb3.size))
  clear ho4 hb4 kO kR kO4 kR4 hw3 hb3
  go_wp2
  refine bodyPost_ret (v:=.agg #[.int .i64 e,.slice a4 l.length cv4]) (by simp [results,Tryz.f26,go_sem,r0,r1]) rfl ?_
  refine ⟨_,rfl,?_,?_⟩
  · exact (((Ho.out.older (by omega) _ _).older (by omega) _ _).older (by omega) _ _).mono (by omega)
  · exact ((Hb.out.setCell (p:=⟨w.heap.size+1+1,1,none⟩) (show w.heap.size<=w.heap.size+1+1 by omega) _).setCell (p:=⟨w.heap.size+1,0,none⟩) (show w.heap.size<=w.heap.size+1 by omega) _).setCell (p:=⟨w.heap.size+1,1,none⟩) (show w.heap.size<=w.heap.size+1 by omega) _
open Classical in
theorem eqLedger_any (e1 e2:Int) (v1 v2:Value) (l1 l2:List Ac) (w:World) (hr1:RdA w v1 l1) (hr2:RdA w v2 l2) (hl1:l1.length<=4000000) (hl2:l2.length<=4000000) (ha1:∀ a ∈ l1,a.2.2.2.2.length<=4000000) (ha2:∀ a ∈ l2,a.2.2.2.2.length<=4000000) :
    Calls Tryz.prog 9 #[lgV e1 v1,lgV e2 v2] w fun e w'=>e=.returned (.bool (decide (e1=e2) && decide (l1=l2)))/\Below w.heap.size w w':=by
  obtain ⟨a1,cv1,rfl⟩:=hr1.shape
  obtain ⟨a2,cv2,rfl⟩:=hr2.shape
  simp only [lgV] at *
  have hb3:Below w.heap.size w ((w.alloc (.cells #[.int .i64 e1,.slice a1 l1.length cv1] 36)).alloc (.cells #[.int .i64 e2,.slice a2 l2.length cv2] 36)):=((Below.refl _ w).alloc (Nat.le_refl _) _).alloc (by simp) _
  have HE:=hide (eqAcctS_any _ _ l1 l2 _ (hr1.below hb3 (Nat.le_refl _)) (hr2.below hb3 (Nat.le_refl _)) hl1 hl2 ha1 ha2)
  have Hb3:=hide hb3
  clear hb3 hr1 hr2
  generalize decide (l1=l2)=D at HE ⊢
  by_cases h1:e1=e2
  · rw [decide_eq_true h1,Bool.true_and]
    subst h1
    go_enter Tryz.func9,Tryz.ntmps9
    go_wp2_with fail
    refine HE.out.mono ?_
    rintro e w3 ⟨rfl,hb3⟩
    have HB:=hide (Hb3.out.trans (hb3.mono Hb3.out.size))
    clear hb3 Hb3 HE
    cases D
    · go_wp2
      go_ret
      exact ⟨rfl,HB.out⟩
    · go_wp2
      go_ret
      exact ⟨rfl,HB.out⟩
  · rw [decide_eq_false h1,Bool.false_and]
    have hq:(e1 != e2)=true:=by rw [bne_iff_ne];exact h1
    clear h1 HE
    go_enter Tryz.func9,Tryz.ntmps9
    go_wp2
    go_ret
    exact ⟨rfl,Hb3.out⟩
theorem markLedger_any (e:Int) (v:Value) (l:List Ac) (k base hi:Nat) (w:World) (ho:OwnX base hi w v l) (hl:l.length<=10000000) (hlv:∀ a ∈ l,a.2.2.2.2.length<=10000000) (hk:nxs k l<=90000000) (hk0:0 < k) :
    Calls Tryz.prog 14 #[lgV e v,.int .i64 (k:Int)] w fun en w'=>en=.returned (.int .i64 ((nxs k l:Nat):Int))/\OwnX base hi w' v (mkAs k l)/\Btw base hi w w':=by
  obtain ⟨a1,cv1,rfl⟩:=ho.rd.shape
  simp only [lgV] at *
  have hb3:Below w.heap.size w (w.alloc (.cells #[.int .i64 e,.slice a1 l.length cv1] 36)):=(Below.refl _ w).alloc (Nat.le_refl _) _
  have HE:=hide (markAcctS_any _ l k base hi _ (ho.below hb3 (Nat.le_refl _)) hl hlv hk hk0)
  have Hb3:=hide hb3
  clear hb3 ho
  go_enter Tryz.func14,Tryz.ntmps14
  go_wp2_with fail
  refine HE.out.mono ?_
  rintro en w3 ⟨rfl,ho3,hb3⟩
  have Ho:=hide ho3
  have HB:=hide ((Btw.of_below (lo:=base) (hi:=hi) Hb3.out).trans hb3)
  clear ho3 hb3 HE Hb3
  go_wp2
  go_ret
  exact ⟨rfl,Ho.out,HB.out⟩
theorem heldLedger_any (e:Int) (v:Value) (l:List Ac) (k:Nat) (w:World) (hr:RdA w v (mkAs k l)) (hl:l.length<=10000000) (hlv:∀ a ∈ l,a.2.2.2.2.length<=10000000) (hk:nxs k l<=90000000) (hk0:0 < k) :
    Calls Tryz.prog 15 #[lgV e v,.int .i64 (k:Int)] w fun en w'=>en=.returned (.int .i64 ((nxs k l:Nat):Int))/\Below w.heap.size w w':=by
  obtain ⟨a1,cv1,hv⟩:=hr.shape
  have hb3:Below w.heap.size w (w.alloc (.cells #[.int .i64 e,v] 36)):=(Below.refl _ w).alloc (Nat.le_refl _) _
  have HE:=hide (heldAcctS_any _ l k _ (hr.below hb3 (Nat.le_refl _)) hl hlv hk hk0)
  have Hb3:=hide hb3
  subst hv
  simp only [lgV] at *
  clear hb3 hr
  have hnn:¬ ((nxs k l:Nat):Int) < 0:=by omega
  go_enter Tryz.func15,Tryz.ntmps15
  go_wp2_with fail
  refine HE.out.mono ?_
  rintro en w3 ⟨rfl,hb3⟩
  have HB:=hide (Hb3.out.trans (hb3.mono Hb3.out.size))
  clear hb3 Hb3 HE
  go_wp2
  go_ret
  exact ⟨rfl,HB.out⟩
end Go.Proofs.YthehfkafcdociaaGreatDoor
