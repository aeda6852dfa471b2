/- Part of a proof: joined, and pruned of what the theorem does not use. -/
import Derived.Test.YtcbaheffmbfofaaGreatDoorZmPlFit
import Derived.Test.YtcbaheffmbfofaaGreatDoorZmBkTo
import Derived.Test.YtcbaheffmbfofaaGreatDoorZmBdSpec
import Derived.Test.YtcbaheffmbfofaaGreatDoorZmBkSpec
import Derived.Deep.Cut
import Derived.Deep.RegionHeldLaw
import Derived.Test.YtcbaheffmbfofaaGreatDoorZmBdImpl
import Derived.Test.YtcbaheffmbfofaaGreatDoorZmLgOpen
import Derived.Test.YtcbaheffmbfofaaGreatDoorZmVsEq
import Derived.Test.YtcbaheffmbfofaaGreatDoorZmBkOpen
import Derived.Test.YtcbaheffmbfofaaGreatDoorZmKsEq
import Derived.Test.YtcbaheffmbfofaaGreatDoorZmLgWith
import Derived.Test.YtcbaheffmbfofaaGreatDoorZmMakeBodyProofWalk
import Derived.WalkKit
import Derived.ProofKit
import Derived.Below
namespace Go.Proofs.YtcbaheffmbfofaaGreatDoor
open Go.RowKit
set_option linter.unusedVariables false
def boR (b:Bk) (R:Bd × Bool):Bool:=R.2 && (decide (b.ts=R.1.ts) && (decide (b.en=R.1.en) && (decide (b.nx=R.1.nx) && decide (b.rt=R.1.rt))))
def boB (e:Int) (z:List Ac) (l:List Bk) (b:Bk):Bool:=boR b (bdA e z l b.qb b.ts b.ts.length)
theorem boB_no {e:Int} {z:List Ac} {l:List Bk} {b:Bk} (h:¬ thB l b.qb=true):boB e z l b=false:=by
  unfold boB bdA boR
  rw [if_neg (fun k=>h ((thB_is l b.qb).2 k))]
  rfl
theorem boB_there {e:Int} {z:List Ac} {l:List Bk} {b:Bk} (h:thB l b.qb=true):boB e z l b=boR b (bdC e z l (chA l b.qb) b.ts b.ts.length,true):=by
  have h2:=(thB_is l b.qb).1 h
  have h3:chT l b.qb=chA l b.qb:=by unfold chT;rw [if_pos h2.1]
  unfold boB bdA
  rw [if_pos h2,h3]
theorem boB_end {e:Int} {z:List Ac} {l:List Bk} {b:Bk} (h:thB l b.qb=true) (ha:(chA l b.qb).any (enAt l)=true) :
    boB e z l b=(decide (b.ts=[]) && (decide (b.en=false) && (decide (b.nx=[]) && decide (b.rt={ data:=#[] })))):=by
  rw [boB_there h]
  unfold boR bdC
  rw [if_pos ha]
  rfl
theorem boB_bad {e:Int} {z:List Ac} {l:List Bk} {b:Bk} (h:thB l b.qb=true) (ha:¬ (chA l b.qb).any (enAt l)=true) (hn:(alA e (foL e z l (chA l b.qb)) b.ts).2 ≠ b.ts.length):boB e z l b=false:=by
  have hs:=gd_same e (foL e z l (chA l b.qb)) b.ts
  have hd:decide (b.ts=(gdA e (foL e z l (chA l b.qb)) b.ts b.ts.length).2)=false:=decide_eq_false (fun k=>hn (hs.1.1 k.symm))
  rw [boB_there h]
  obtain ⟨q1,q2⟩:=bdC_x (e:=e) (z:=z) (l:=l) (C:=chA l b.qb) (ts:=b.ts) (most:=b.ts.length) ha
  unfold boR
  by_cases hc:(chA l b.qb).length=1
  · rw [q1 hc]
    simp only [hd,Bool.false_and,Bool.and_false]
  · rw [q2 hc]
    simp only [hd,Bool.false_and,Bool.and_false]
theorem boB_mid {e:Int} {z:List Ac} {l:List Bk} {b:Bk} (h:thB l b.qb=true) (ha:¬ (chA l b.qb).any (enAt l)=true) (hn:(alA e (foL e z l (chA l b.qb)) b.ts).2=b.ts.length) (hc:¬ (chA l b.qb).length=1) :
    boB e z l b=(decide (b.en=false) && (decide (b.nx=[]) && decide (b.rt={ data:=#[] }))):=by
  have hs:=gd_same e (foL e z l (chA l b.qb)) b.ts
  rw [boB_there h]
  unfold boR
  rw [(bdC_x (e:=e) (z:=z) (l:=l) (C:=chA l b.qb) (ts:=b.ts) (most:=b.ts.length) ha).2 hc]
  simp only [hs.1.2 hn,decide_true,Bool.true_and]
theorem boB_last {e:Int} {z:List Ac} {l:List Bk} {b:Bk} (h:thB l b.qb=true) (ha:¬ (chA l b.qb).any (enAt l)=true) (hn:(alA e (foL e z l (chA l b.qb)) b.ts).2=b.ts.length) (hc:(chA l b.qb).length=1) :
    boB e z l b=(decide (b.en=true) && (decide (b.nx=setA (neA e (alA e (foL e z l (chA l b.qb)) b.ts).1).1 (neA e (alA e (foL e z l (chA l b.qb)) b.ts).1).2) && decide (b.rt=srB (neA e (alA e (foL e z l (chA l b.qb)) b.ts).1).1 (neA e (alA e (foL e z l (chA l b.qb)) b.ts).1).2))):=by
  have hs:=gd_same e (foL e z l (chA l b.qb)) b.ts
  rw [boB_there h]
  unfold boR
  rw [(bdC_x (e:=e) (z:=z) (l:=l) (C:=chA l b.qb) (ts:=b.ts) (most:=b.ts.length) ha).1 hc]
  simp only [hs.1.2 hn,hs.2,decide_true,Bool.true_and]
end Go.Proofs.YtcbaheffmbfofaaGreatDoor
namespace Go.Proofs.YtcbaheffmbfofaaGreatDoor
open Go.RowKit
set_option linter.unusedVariables false
set_option maxRecDepth 20000 in
set_option maxHeartbeats 2000000 in
theorem specSameV_any (v1 v2:Value) (l1 l2:List Vl) (w:World) (hr1:RdV w v1 l1) (hr2:RdV w v2 l2) (hl1:l1.length<=4000000) (hl2:l2.length<=4000000) :
    Calls Tryz.prog 84 #[v1,v2] w fun e w'=>e=.returned (.bool (decide (l1=l2)))/\Sm w w':=by
  by_cases hne:l1.length=l2.length
  · rcases hr1 with ⟨a,cap,rfl,rfl,-⟩ | ⟨b,off,cap,h0,rfl,h1,h2,h3,h4⟩
    · have e2:l2=[]:=List.length_eq_zero_iff.1 (by simpa using hne.symm)
      subst e2
      obtain ⟨a2,cap2,rfl⟩:=hr2.shape
      clear hr2
      go_enter Tryz.func84,Tryz.ntmps84
      go_wp2
      refine wp_loop_rounds 1 ?_
      rw [rounds_succ]
      go_wp2
      go_ret
      exact ⟨rfl,Sm.refl _⟩
    · rcases hr2 with ⟨a2,cap2,rfl,rfl,-⟩ | ⟨b2,off2,cap2,g0,rfl,g1,g2,g3,g4⟩
      · exact absurd (List.length_eq_zero_iff.1 (by simpa using hne)) h0
      · have hlen:((l1.length:Int) != (l2.length:Int))=false:=by rw [hne];simp
        have hle:l1.length<=l2.length:=by omega
        have hge:l2.length<=l1.length:=by omega
        have H4:=hide h4
        have G4:=hide g4
        clear hne h4 g4
        go_enter Tryz.func84,Tryz.ntmps84
        go_wp2
        go_loopw [5] (fun i wr=>∃ k:Nat,k<=l1.length/\i=.int .i64 k/\l1.take k=l2.take k/\Sm w wr) (fun i _=>l1.length - (intOf i).toNat)
        case atStart=>exact ⟨0,Nat.zero_le _,rfl,rfl,Sm.refl _⟩
        case round =>
          obtain ⟨k,hk,rfl,ht,hs⟩:=hrel
          have Ht:=hide ht
          clear ht
          by_cases hlt:k < l1.length
          · have hlt2:k < l2.length:=by omega
            obtain ⟨c0,c1⟩:=H4.out k hlt
            obtain ⟨d0,d1⟩:=G4.out k hlt2
            replace c0:=(hs.cell ⟨b,off+k * 2,none⟩).trans c0
            replace d0:=(hs.cell ⟨b2,off2+k * 2,none⟩).trans d0
            replace c1:=(hs.cell ⟨b,off+k * 2+1,none⟩).trans c1
            replace d1:=(hs.cell ⟨b2,off2+k * 2+1,none⟩).trans d1
            have hli:(k:Int) < (l1.length:Int):=by omega
            have hli2:(k:Int) < (l2.length:Int):=by omega
            have Hnx:Hid (l1[k]=l2[k]->l1.take (k+1)=l2.take (k+1)):=hide (fun he=>take_eq_snoc hlt hlt2 Ht.out he)
            have Hno:Hid (l1[k] ≠ l2[k]->decide (l1=l2)=false):=hide (fun he=>by rw [decide_eq_false];intro e;subst e;exact he rfl)
            generalize l1[k]=p at c0 c1 Hnx Hno
            generalize l2[k]=q at d0 d1 Hnx Hno
            obtain ⟨x0,x1⟩:=p
            obtain ⟨y0,y1⟩:=q
            simp only at c0 d0 c1 d1
            by_cases e0:x0=y0
            · subst e0
              by_cases e1:x1=y1
              · subst e1
                have Hn2:=hide (Hnx.out rfl)
                clear Hno Hnx
                go_wp2
                go_quiet (fail)
                go_wp2
                go_roundw
                case rel=>exact ⟨k+1,by omega,by go_num,Hn2.out,hs.drewN _⟩
                case measure=>simp [intOf];omega
              · have Hno:=hide (Hno.out (by intro h;simp only [Prod.mk.injEq] at h;exact e1 h.2))
                have hq:=int_ne e1
                have hq2:(x1 == y1)=false:=by rw [beq_eq_false_iff_ne];exact e1
                clear e1 Hnx
                go_wp2
                go_quiet (fail)
                go_wp2
                go_ret
                exact ⟨ret_bool Hno.out.symm,hs.drewN _⟩
            · have Hno:=hide (Hno.out (by intro h;simp only [Prod.mk.injEq] at h;exact e0 h.1))
              have hq:=bytes_ne e0
              clear e0 Hnx
              go_wp2
              go_quiet (fail)
              go_wp2
              go_ret
              exact ⟨ret_bool Hno.out.symm,hs.drewN _⟩
          · have hf:Hid (decide (l1=l2)=true):=hide (by
              rw [decide_eq_true]
              have:=Ht.out
              rwa [List.take_of_length_le (by omega),List.take_of_length_le (by omega)] at this)
            go_wp2
            go_ret
            exact ⟨ret_bool hf.out.symm,hs⟩
  · obtain ⟨a,cap,rfl⟩:=hr1.shape
    obtain ⟨a2,cap2,rfl⟩:=hr2.shape
    clear hr1 hr2
    have hlen:((l1.length:Int) != (l2.length:Int))=true:=by rw [bne_iff_ne];omega
    have hf:Hid (decide (l1=l2)=false):=hide (by rw [decide_eq_false];intro e;subst e;exact hne rfl)
    clear hne
    go_enter Tryz.func84,Tryz.ntmps84
    go_wp2
    go_ret
    exact ⟨ret_bool hf.out.symm,Sm.refl _⟩
set_option maxRecDepth 20000 in
set_option maxHeartbeats 2000000 in
theorem equalT_any (v1 v2:Value) (l1 l2:List Tx5) (w:World) (hr1:RdT w v1 l1) (hr2:RdT w v2 l2) (hl1:l1.length<=4000000) (hl2:l2.length<=4000000) :
    Calls Tryz.prog 63 #[v1,v2] w fun e w'=>e=.returned (.bool (decide (l1=l2)))/\Sm w w':=by
  by_cases hne:l1.length=l2.length
  · rcases hr1 with ⟨a,cap,rfl,rfl,-⟩ | ⟨b,off,cap,h0,rfl,h1,h2,h3,h4⟩
    · have e2:l2=[]:=List.length_eq_zero_iff.1 (by simpa using hne.symm)
      subst e2
      obtain ⟨a2,cap2,rfl⟩:=hr2.shape
      clear hr2
      go_enter Tryz.func63,Tryz.ntmps63
      go_wp2
      refine wp_loop_rounds 1 ?_
      rw [rounds_succ]
      go_wp2
      go_ret
      exact ⟨rfl,Sm.refl _⟩
    · rcases hr2 with ⟨a2,cap2,rfl,rfl,-⟩ | ⟨b2,off2,cap2,g0,rfl,g1,g2,g3,g4⟩
      · exact absurd (List.length_eq_zero_iff.1 (by simpa using hne)) h0
      · have hlen : ((l1.length:Int) != (l2.length:Int))=false:=by rw [hne];simp
        have hle:l1.length<=l2.length:=by omega
        have hge:l2.length<=l1.length:=by omega
        have H4:=hide h4
        have G4:=hide g4
        clear hne h4 g4
        go_enter Tryz.func63,Tryz.ntmps63
        go_wp2
        go_loopw [13] (fun i wr=>∃ k:Nat,k<=l1.length/\i=.int .i64 k/\l1.take k=l2.take k/\Sm w wr) (fun i _=>l1.length - (intOf i).toNat)
        case atStart=>exact ⟨0,Nat.zero_le _,rfl,rfl,Sm.refl _⟩
        case round =>
          obtain ⟨k,hk,rfl,ht,hs⟩:=hrel
          have Ht:=hide ht
          clear ht
          by_cases hlt:k < l1.length
          · have hlt2 : k < l2.length:=by omega
            obtain ⟨c0,c1,c2,c3,c4⟩:=H4.out k hlt
            obtain ⟨d0,d1,d2,d3,d4⟩:=G4.out k hlt2
            replace c0:=(hs.cell ⟨b,off+k * 5,none⟩).trans c0
            replace d0:=(hs.cell ⟨b2,off2+k * 5,none⟩).trans d0
            replace c1:=(hs.cell ⟨b,off+k * 5+1,none⟩).trans c1
            replace d1:=(hs.cell ⟨b2,off2+k * 5+1,none⟩).trans d1
            replace c2:=(hs.cell ⟨b,off+k * 5+2,none⟩).trans c2
            replace d2:=(hs.cell ⟨b2,off2+k * 5+2,none⟩).trans d2
            replace c3:=(hs.cell ⟨b,off+k * 5+3,none⟩).trans c3
            replace d3:=(hs.cell ⟨b2,off2+k * 5+3,none⟩).trans d3
            replace c4:=(hs.cell ⟨b,off+k * 5+4,none⟩).trans c4
            replace d4:=(hs.cell ⟨b2,off2+k * 5+4,none⟩).trans d4
            have hli:(k:Int) < (l1.length:Int):=by omega
            have hli2:(k:Int) < (l2.length:Int):=by omega
            have Hnx:Hid (l1[k]=l2[k]->l1.take (k+1)=l2.take (k+1)):=hide (fun he=>take_eq_snoc hlt hlt2 Ht.out he)
            have Hno:Hid (l1[k] ≠ l2[k]->decide (l1=l2)=false):=hide (fun he=>by rw [decide_eq_false];intro e;subst e;exact he rfl)
            generalize l1[k]=p at c0 c1 c2 c3 c4 Hnx Hno
            generalize l2[k]=q at d0 d1 d2 d3 d4 Hnx Hno
            obtain ⟨x0,x1,x2,x3,x4⟩:=p
            obtain ⟨y0,y1,y2,y3,y4⟩:=q
            simp only at c0 d0 c1 d1 c2 d2 c3 d3 c4 d4
            by_cases e0:x0=y0
            · subst e0
              by_cases e1:x1=y1
              · subst e1
                by_cases e2:x2=y2
                · subst e2
                  by_cases e3:x3=y3
                  · subst e3
                    by_cases e4:x4=y4
                    · subst e4
                      have Hn2:=hide (Hnx.out rfl)
                      clear Hno Hnx
                      go_wp2
                      go_quiet (fail)
                      go_wp2
                      go_roundw
                      case rel=>exact ⟨k+1,by omega,by go_num,Hn2.out,hs.drewN _⟩
                      case measure=>simp [intOf];omega
                    · have Hno:=hide (Hno.out (by intro h;simp only [Prod.mk.injEq] at h;exact e4 h.2.2.2.2))
                      have hq:=int_ne e4
                      have hq2:(x4 == y4)=false:=by rw [beq_eq_false_iff_ne];exact e4
                      clear e4 Hnx
                      go_wp2
                      go_quiet (fail)
                      go_wp2
                      go_ret
                      exact ⟨ret_bool Hno.out.symm,hs.drewN _⟩
                  · have Hno:=hide (Hno.out (by intro h;simp only [Prod.mk.injEq] at h;exact e3 h.2.2.2.1))
                    have hq:=int_ne e3
                    have hq2:(x3 == y3)=false:=by rw [beq_eq_false_iff_ne];exact e3
                    clear e3 Hnx
                    go_wp2
                    go_quiet (fail)
                    go_wp2
                    go_ret
                    exact ⟨ret_bool Hno.out.symm,hs.drewN _⟩
                · have Hno:=hide (Hno.out (by intro h;simp only [Prod.mk.injEq] at h;exact e2 h.2.2.1))
                  have hq:=bytes_ne e2
                  clear e2 Hnx
                  go_wp2
                  go_quiet (fail)
                  go_wp2
                  go_ret
                  exact ⟨ret_bool Hno.out.symm,hs.drewN _⟩
              · have Hno:=hide (Hno.out (by intro h;simp only [Prod.mk.injEq] at h;exact e1 h.2.1))
                have hq:=bytes_ne e1
                clear e1 Hnx
                go_wp2
                go_quiet (fail)
                go_wp2
                go_ret
                exact ⟨ret_bool Hno.out.symm,hs.drewN _⟩
            · have Hno:=hide (Hno.out (by intro h;simp only [Prod.mk.injEq] at h;exact e0 h.1))
              have hq:=int_ne e0
              have hq2:(x0 == y0)=false:=by rw [beq_eq_false_iff_ne];exact e0
              clear e0 Hnx
              go_wp2
              go_quiet (fail)
              go_wp2
              go_ret
              exact ⟨ret_bool Hno.out.symm,hs.drewN _⟩
          · have hf:Hid (decide (l1=l2)=true):=hide (by
              rw [decide_eq_true]
              have:=Ht.out
              rwa [List.take_of_length_le (by omega),List.take_of_length_le (by omega)] at this)
            go_wp2
            go_ret
            exact ⟨ret_bool hf.out.symm,hs⟩
  · obtain ⟨a,cap,rfl⟩:=hr1.shape
    obtain ⟨a2,cap2,rfl⟩:=hr2.shape
    clear hr1 hr2
    have hlen:((l1.length:Int) != (l2.length:Int))=true:=by rw [bne_iff_ne];omega
    have hf:Hid (decide (l1=l2)=false):=hide (by rw [decide_eq_false];intro e;subst e;exact hne rfl)
    clear hne
    go_enter Tryz.func63,Tryz.ntmps63
    go_wp2
    go_ret
    exact ⟨ret_bool hf.out.symm,Sm.refl _⟩
set_option maxRecDepth 20000 in
set_option maxHeartbeats 2000000 in
theorem equalV_any (v1 v2:Value) (l1 l2:List Vl) (w:World) (hr1:RdV w v1 l1) (hr2:RdV w v2 l2) (hl1:l1.length<=4000000) (hl2:l2.length<=4000000) :
    Calls Tryz.prog 64 #[v1,v2] w fun e w'=>e=.returned (.bool (decide (l1=l2)))/\Sm w w':=by
  by_cases hne:l1.length=l2.length
  · rcases hr1 with ⟨a,cap,rfl,rfl,-⟩ | ⟨b,off,cap,h0,rfl,h1,h2,h3,h4⟩
    · have e2:l2=[]:=List.length_eq_zero_iff.1 (by simpa using hne.symm)
      subst e2
      obtain ⟨a2,cap2,rfl⟩:=hr2.shape
      clear hr2
      go_enter Tryz.func64,Tryz.ntmps64
      go_wp2
      refine wp_loop_rounds 1 ?_
      rw [rounds_succ]
      go_wp2
      go_ret
      exact ⟨rfl,Sm.refl _⟩
    · rcases hr2 with ⟨a2,cap2,rfl,rfl,-⟩ | ⟨b2,off2,cap2,g0,rfl,g1,g2,g3,g4⟩
      · exact absurd (List.length_eq_zero_iff.1 (by simpa using hne)) h0
      · have hlen:((l1.length:Int) != (l2.length:Int))=false:=by rw [hne];simp
        have hle:l1.length<=l2.length:=by omega
        have hge:l2.length<=l1.length:=by omega
        have H4:=hide h4
        have G4:=hide g4
        clear hne h4 g4
        go_enter Tryz.func64,Tryz.ntmps64
        go_wp2
        go_loopw [13] (fun i wr=>∃ k:Nat,k<=l1.length/\i=.int .i64 k/\l1.take k=l2.take k/\Sm w wr) (fun i _=>l1.length - (intOf i).toNat)
        case atStart=>exact ⟨0,Nat.zero_le _,rfl,rfl,Sm.refl _⟩
        case round =>
          obtain ⟨k,hk,rfl,ht,hs⟩:=hrel
          have Ht:=hide ht
          clear ht
          by_cases hlt:k < l1.length
          · have hlt2:k < l2.length:=by omega
            obtain ⟨c0,c1⟩:=H4.out k hlt
            obtain ⟨d0,d1⟩:=G4.out k hlt2
            replace c0:=(hs.cell ⟨b,off+k * 2,none⟩).trans c0
            replace d0:=(hs.cell ⟨b2,off2+k * 2,none⟩).trans d0
            replace c1:=(hs.cell ⟨b,off+k * 2+1,none⟩).trans c1
            replace d1:=(hs.cell ⟨b2,off2+k * 2+1,none⟩).trans d1
            have hli:(k:Int) < (l1.length:Int):=by omega
            have hli2:(k:Int) < (l2.length:Int):=by omega
            have Hnx:Hid (l1[k]=l2[k]->l1.take (k+1)=l2.take (k+1)):=hide (fun he=>take_eq_snoc hlt hlt2 Ht.out he)
            have Hno:Hid (l1[k] ≠ l2[k]->decide (l1=l2)=false):=hide (fun he=>by rw [decide_eq_false];intro e;subst e;exact he rfl)
            generalize l1[k]=p at c0 c1 Hnx Hno
            generalize l2[k]=q at d0 d1 Hnx Hno
            obtain ⟨x0,x1⟩:=p
            obtain ⟨y0,y1⟩:=q
            simp only at c0 d0 c1 d1
            by_cases e0:x0=y0
            · subst e0
              by_cases e1:x1=y1
              · subst e1
                have Hn2:=hide (Hnx.out rfl)
                clear Hno Hnx
                go_wp2
                go_quiet (fail)
                go_wp2
                go_roundw
                case rel=>exact ⟨k+1,by omega,by go_num,Hn2.out,hs.drewN _⟩
                case measure=>simp [intOf];omega
              · have Hno:=hide (Hno.out (by intro h;simp only [Prod.mk.injEq] at h;exact e1 h.2))
                have hq:=int_ne e1
                have hq2:(x1 == y1)=false:=by rw [beq_eq_false_iff_ne];exact e1
                clear e1 Hnx
                go_wp2
                go_quiet (fail)
                go_wp2
                go_ret
                exact ⟨ret_bool Hno.out.symm,hs.drewN _⟩
            · have Hno:=hide (Hno.out (by intro h;simp only [Prod.mk.injEq] at h;exact e0 h.1))
              have hq:=bytes_ne e0
              clear e0 Hnx
              go_wp2
              go_quiet (fail)
              go_wp2
              go_ret
              exact ⟨ret_bool Hno.out.symm,hs.drewN _⟩
          · have hf:Hid (decide (l1=l2)=true):=hide (by
              rw [decide_eq_true]
              have:=Ht.out
              rwa [List.take_of_length_le (by omega),List.take_of_length_le (by omega)] at this)
            go_wp2
            go_ret
            exact ⟨ret_bool hf.out.symm,hs⟩
  · obtain ⟨a,cap,rfl⟩:=hr1.shape
    obtain ⟨a2,cap2,rfl⟩:=hr2.shape
    clear hr1 hr2
    have hlen:((l1.length:Int) != (l2.length:Int))=true:=by rw [bne_iff_ne];omega
    have hf:Hid (decide (l1=l2)=false):=hide (by rw [decide_eq_false];intro e;subst e;exact hne rfl)
    clear hne
    go_enter Tryz.func64,Tryz.ntmps64
    go_wp2
    go_ret
    exact ⟨ret_bool hf.out.symm,Sm.refl _⟩
end Go.Proofs.YtcbaheffmbfofaaGreatDoor
namespace Go.Proofs.YtcbaheffmbfofaaGreatDoor
open Go.RowKit
set_option linter.unusedVariables false
set_option linter.unusedSimpArgs false
theorem no_toList {s t:ByteArray} (h:¬ s=t):¬ s.toList=t.toList:=fun k=>h (by rw [ByteArray.toList_eq,ByteArray.toList_eq] at k;exact ByteArray.ext (Array.toList_inj.1 k))
theorem emp_toList {s:ByteArray} (h:¬ s={ data:=#[] }):s.toList.isEmpty=false:=by
  rw [ByteArray.toList_eq]
  cases hs:s.data.toList with
  | nil=>exact absurd (ByteArray.ext (Array.toList_inj.1 (by rw [hs]))) h
  | cons x t=>rfl
theorem emp_emp:({ data:=#[] }:ByteArray).toList.isEmpty=true:=by rw [ByteArray.toList_eq];rfl
set_option maxRecDepth 20000 in
set_option maxHeartbeats 4000000 in
theorem specBodyOk_any (e:Int) (v vl:Value) (z:List Ac) (l:List Bk) (b:Bk) (bv:Bv) (w:World) (hr:RdA w v z) (hrl:RdKs w vl l) (hrb:RdK w b bv) (hz:z.length<=3999999) (hall:∀ a ∈ z,a.1.size<=maxLen/\a.2.2.2.2.length<=3999999) (hl:l.length<=4000000) (hf:∀ b ∈ l,FewK b) (hbd:∀ b ∈ l,-9223372036854775808<=b.tr/\b.tr<=9223372036854775807) (hfb:FewK b) :
    Calls Tryz.prog 28 #[lgV e v,vl,bkV b bv] w fun en w'=>en=.returned (.bool (boB e z l b))/\Below w.heap.size w w':=by
  obtain ⟨av,cv,rfl⟩:=hr.shape
  obtain ⟨al,cl,rfl⟩:=hrl.shape
  obtain ⟨at_,ct,htv⟩:=hrb.t.shape
  obtain ⟨an,cn,hnv⟩:=hrb.n.shape
  obtain ⟨vq,vw,vh,vt,vn⟩:=bv
  simp only at htv hnv
  subst htv hnv
  have Hno:=hide (boB_no (e:=e) (z:=z) (l:=l) (b:=b))
  have Hen:=hide (boB_end (e:=e) (z:=z) (l:=l) (b:=b))
  have Hbd:=hide (boB_bad (e:=e) (z:=z) (l:=l) (b:=b))
  have Hmd:=hide (boB_mid (e:=e) (z:=z) (l:=l) (b:=b))
  have Hla:=hide (boB_last (e:=e) (z:=z) (l:=l) (b:=b))
  obtain ⟨id,ep,rd,md,qr,qb,qw,tr,tw,th,ts,en,nx,rt⟩:=b
  simp only at *
  generalize boB e z l ⟨id,ep,rd,md,qr,qb,qw,tr,tw,th,ts,en,nx,rt⟩=BO at *
  obtain ⟨w1,hw1⟩:∃ w1,w.alloc (.cells #[.int .i64 e,.slice av z.length cv] 26)=w1:=⟨_,rfl⟩
  have hb1:Below w.heap.size w w1:=by rw [<- hw1];exact (Below.refl _ w).alloc (Nat.le_refl _) _
  have k1:Blk w1 w.heap.size 26 [.int .i64 e,.slice av z.length cv]:=by rw [<- hw1];exact Blk.new w _ _
  have s1:w1.heap.size=w.heap.size+1:=by rw [<- hw1];simp
  obtain ⟨w2,hw2⟩:∃ w2,w1.alloc (.cells #[.int .i64 id,.int .i64 ep,.int .i64 rd,.string md,.int .i64 qr,.int .i64 qb,vq,.int .i64 tr,vw,vh,.slice at_ ts.length ct,.bool en,.slice an nx.length cn,.string rt] 50)=w2:=⟨_,rfl⟩
  have hb2:Below w1.heap.size w1 w2:=by rw [<- hw2];exact (Below.refl _ w1).alloc (Nat.le_refl _) _
  have k2:Blk w2 (w.heap.size+1) 50 [.int .i64 id,.int .i64 ep,.int .i64 rd,.string md,.int .i64 qr,.int .i64 qb,vq,.int .i64 tr,vw,vh,.slice at_ ts.length ct,.bool en,.slice an nx.length cn,.string rt]:=by rw [<- hw2,<- s1];exact Blk.new w1 _ _
  have B2:Below w.heap.size w w2:=hb1.trans (hb2.mono hb1.size)
  have k12:=k1.below hb2 k1.lt
  have HTh:=hide (fun V (hV:Below w.heap.size w V)=>specThere_any (.slice al l.length cl) l qb V (hrl.below hV (Nat.le_refl _)) hl hf hbd)
  have HEn:=hide (fun ht V (hV:Below w.heap.size w V)=>specEndedC_any (.slice al l.length cl) l qb V (hrl.below hV (Nat.le_refl _)) hl ht)
  have HCh:=hide (fun ht V (hV:Below w.heap.size w V)=>specChain_any (.slice al l.length cl) l qb V (hrl.below hV (Nat.le_refl _)) hl ht)
  have HAt:=hide (fun ht V (hV:Below w.heap.size w V)=>specL11At_any e (.slice av z.length cv) (.slice al l.length cl) z l qb V (hr.below hV (Nat.le_refl _)) (hrl.below hV (Nat.le_refl _)) hz hall hl hf ht)
  have hfo:=foL_few (e:=e) l (chA l qb) z hz hall
  have hga:=alA_few (e:=e) (l:=foL e z l (chA l qb)) ts hfo.1 hfo.2
  have hne9:=neA_few (e:=e) hga.1 hga.2
  have hse:=Nat.le_trans (setA_len (neA e (alA e (foL e z l (chA l qb)) ts).1).1 (neA e (alA e (foL e z l (chA l qb)) ts).1).2) hne9.1
  have HAl:=hide (fun V v (h:RdA V v (foL e z l (chA l qb))) (hV:Below w.heap.size w V)=>specAll_any e v (.slice at_ ts.length ct) (foL e z l (chA l qb)) ts V h (hrb.t.below hV (Nat.le_refl _)) hfo.1 hfo.2 hfb.t hfb.ts)
  have HNx:=hide (fun V v h=>specNext_any e v (alA e (foL e z l (chA l qb)) ts).1 V h (by omega) (fun a ha=>by have:=hga.2 a ha;omega))
  have HSe:=hide (fun V v h=>specSetOf_any (neA e (alA e (foL e z l (chA l qb)) ts).1).1 v (neA e (alA e (foL e z l (chA l qb)) ts).1).2 V h (by omega) (fun a ha=>by have:=hne9.2 a ha;omega))
  have HSr:=hide (fun V v h=>specStateRoot_any (neA e (alA e (foL e z l (chA l qb)) ts).1).1 v (neA e (alA e (foL e z l (chA l qb)) ts).1).2 V h (by omega) (fun a ha=>by have:=hne9.2 a ha;omega))
  have hfn:=hfb.n
  have HSv:=hide (fun V v2 (hV:Below w.heap.size w V) h2=>specSameV_any (.slice an nx.length cn) v2 nx (setA (neA e (alA e (foL e z l (chA l qb)) ts).1).1 (neA e (alA e (foL e z l (chA l qb)) ts).1).2) V (hrb.n.below hV (Nat.le_refl _)) h2 hfn (by omega))
  have hft:=hfb.t
  generalize foL e z l (chA l qb)=Z at *
  simp only [lgV] at HAt HAl HNx HSe HSr
  simp only [lgV,bkV]
  have y5:=k2.cell 5
  simp only [List.getElem?_cons_zero,List.getElem?_cons_succ] at y5
  have HB2:=hide B2
  have K1:=hide k12
  have K2:=hide k2
  clear hr hrl hrb hall hf hbd hfb hb1 hb2 k1 k12 k2 B2 hfo hga hne9
  go_enter Tryz.func28,Tryz.ntmps28
  go_wp2_with fail
  refine (HTh.out w2 HB2.out).mono ?_
  rintro _ w3 ⟨rfl,hb3⟩
  have B3:=hide (HB2.out.trans (hb3.mono HB2.out.size))
  have K13:=hide (K1.out.below hb3 K1.out.lt)
  have K23:=hide (K2.out.below hb3 K2.out.lt)
  clear hb3 K1 K2
  by_cases hth:thB l qb=true
  rotate_left
  · have hth':thB l qb=false:=by simpa using hth
    have HR:=hide (Hno.out hth)
    rw [hth']
    clear Hno Hen Hbd Hmd Hla hth hth'
    go_wp2
    go_ret
    exact ⟨by rw [HR.out];rfl,B3.out⟩
  · have htr := hide (treeP_of ((thB_is l qb).1 hth).1)
    have Hen:=hide (Hen.out hth)
    have Hbd:=hide (Hbd.out hth)
    have Hmd:=hide (Hmd.out hth)
    have Hla:=hide (Hla.out hth)
    rw [hth]
    clear Hno hth
    go_wp2_with fail
    refine (HEn.out htr.out w3 B3.out).mono ?_
    rintro _ w4 ⟨rfl,hb4⟩
    have B4:=hide (B3.out.trans (hb4.mono B3.out.size))
    have k14:=K13.out.below hb4 K13.out.lt
    have k24:=K23.out.below hb4 K23.out.lt
    have K14:=hide k14
    have K24:=hide k24
    clear hb4 K13 K23
    by_cases hany:(chA l qb).any (enAt l)=true
    · have HR := hide (Hen.out hany)
      rw [hany]
      have u10:=k24.cell 10
      have u11:=k24.cell 11
      have u12:=k24.cell 12
      have u13:=k24.cell 13
      simp only [List.getElem?_cons_zero,List.getElem?_cons_succ] at u10 u11 u12 u13
      clear Hen Hbd Hmd Hla hany k14 k24
      by_cases h1:ts=[]
      · subst h1
        cases en
        · by_cases h3:nx=[]
          · subst h3
            by_cases h4:rt={ data:=#[] }
            · subst h4
              have d4:=emp_emp
              go_wp2
              go_ret
              exact ⟨by rw [HR.out];rfl,B4.out⟩
            · have d4:=emp_toList h4
              have d5:decide (rt={ data:=#[] })=false:=decide_eq_false h4
              go_wp2
              go_ret
              exact ⟨by rw [HR.out,d5];rfl,B4.out⟩
          · have h3':¬ (nx.length:Int)=0:=fun k=>h3 (List.length_eq_zero_iff.1 (by omega))
            have d5:decide (nx=[])=false:=decide_eq_false h3
            go_wp2
            go_ret
            exact ⟨by rw [HR.out,d5];rfl,B4.out⟩
        · go_wp2
          go_ret
          exact ⟨by rw [HR.out];rfl,B4.out⟩
      · have h1':¬ (ts.length:Int)=0:=fun k=>h1 (List.length_eq_zero_iff.1 (by omega))
        have d5:decide (ts=[])=false:=decide_eq_false h1
        go_wp2
        go_ret
        exact ⟨by rw [HR.out,d5];rfl,B4.out⟩
    · have hanf : (chA l qb).any (enAt l)=false:=by simpa using hany
      have Hbd:=hide (Hbd.out hany)
      have Hmd:=hide (Hmd.out hany)
      have Hla:=hide (Hla.out hany)
      rw [hanf]
      clear Hen hany hanf
      generalize hA:(alA e Z ts).1=A at HAl HNx HSe HSr HSv Hla hse
      generalize hC:(alA e Z ts).2=C at HAl Hbd Hmd Hla
      have HS:Hid (∀ V,Below w4.heap.size w4 V->(V.cell? ⟨w.heap.size,0,none⟩=some (.int .i64 e)/\V.cell? ⟨w.heap.size,1,none⟩=some (.slice av z.length cv)/\V.cell? ⟨w.heap.size+1,10,none⟩=some (.slice at_ ts.length ct))):=hide (fun V hV=>⟨(K14.out.below hV K14.out.lt).cell 0,(K14.out.below hV K14.out.lt).cell 1,(K24.out.below hV K24.out.lt).cell 10⟩)
      have bD:Below w4.heap.size w4 w4.drew:=(Below.refl _ w4).drew
      have bE:Below w4.heap.size w4 (w4.alloc (.cells #[.int .i64 0,.slice none 0 0] 26)).drew:=((Below.refl _ w4).alloc (Nat.le_refl _) _).drew
      have nE:Blk (w4.alloc (.cells #[.int .i64 0,.slice none 0 0] 26)).drew w4.heap.size 26 [.int .i64 0,.slice none 0 0]:=Blk.new w4 26 [.int .i64 0,.slice none 0 0]
      have HLZ:Hid (∀ (V:World) (v:Value),RdA V v Z->∃ a c,v=.slice a Z.length c):=hide (fun V v h=>h.shape)
      have HLA:Hid (∀ (V:World) (v:Value),RdA V v A->∃ a c,v=.slice a A.length c):=hide (fun V v h=>h.shape)
      have x0:=k14.cell 0
      have x1:=k14.cell 1
      have u10:=k24.cell 10
      simp only [List.getElem?_cons_zero,List.getElem?_cons_succ] at x0 x1 u10
      have z4:=B4.out.size
      clear k14 k24
      go_upto_region 6 with fail
      go_cut [8,9] (fun sp sc wc=>∃ (B:Nat) (a':Option Addr) (c':Nat),sp=.pointer (some ⟨B,0,none⟩)/\sc=.int .i64 (C:Int)/\Blk wc B 26 [.int .i64 e,.slice a' A.length c']/\RdA wc (.slice a' A.length c') A/\Below w4.heap.size w4 wc)
      case first =>
        go_region_held_law (fun w'=>w'.cell? ⟨w.heap.size,0,none⟩=some (.int .i64 e)/\w'.cell? ⟨w.heap.size,1,none⟩=some (.slice av z.length cv)/\w'.cell? ⟨w.heap.size+1,10,none⟩=some (.slice at_ ts.length ct)) ((refine HS.out _ ?_;repeat (first | with_reducible exact bD | with_reducible exact bE | with_reducible exact bA | with_reducible exact bB | with_reducible exact Below.refl _ _ | refine Below.drew ?_ | refine Below.alloc ?_ (by first | omega | (simp;done) | (simp;omega) | (dsimp only;omega)) _ | refine Below.setCell ?_ (by first | omega | (simp;done) | (simp;omega) | (dsimp only;omega)) _))) ((first
          | (go_at_call 81;have nbA':=nbA;with_reducible refine (HAl.out wA _ oA.rd (B4.out.trans (bA.mono z4))).mono ?_;rintro e' wB ⟨vB,rfl,oB,hbB⟩;have bB:=bA.trans (hbB.mono bA.size);have zB:=bB.size;have xB:=oB.ox;have hshB:=HLA.out _ _ xB.rd;obtain ⟨aB,cB,hvB⟩:=hshB;subst hvB;have hBA:=nbA'.lt;have nb:=nbA'.below hbB nbA'.lt;have hBlt:=nb.lt;have y0:=nb.cell 0;have y1:=nb.cell 1;have y0f:=nb.frozen 0;have y1f:=nb.frozen 1;simp only [List.getElem?_cons_zero,List.getElem?_cons_succ] at y0 y1)
          | (go_at_call 81;with_reducible refine (HAl.out wA _ oA.rd (B4.out.trans (bA.mono z4))).mono ?_;rintro e' wB ⟨vB,rfl,oB,hbB⟩;have bB:=bA.trans (hbB.mono bA.size);have zB:=bB.size;have xB:=oB.ox;have hshB:=HLA.out _ _ xB.rd;obtain ⟨aB,cB,hvB⟩:=hshB;subst hvB)
          | (go_at_call 81;with_reducible refine (HAl.out (wA.alloc (.cells #[.int .i64 0,.slice none 0 0] 26)) _ (oA.below ((Below.refl _ wA).alloc (Nat.le_refl _) _) (Nat.le_refl _)).rd (B4.out.trans ((bA.alloc bA.size _).mono z4))).mono ?_;rintro e' wB ⟨vB,rfl,oB,hbB⟩;have bB:=(bA.alloc bA.size _).trans (hbB.mono (Nat.le_trans bA.size (by simp)));have zB:=bB.size;have xB:=oB.ox;have hshB:=HLA.out _ _ xB.rd;obtain ⟨aB,cB,hvB⟩:=hshB;subst hvB;have nm:Blk (wA.alloc (.cells #[.int .i64 0,.slice none 0 0] 26)) wA.heap.size 26 [.int .i64 0,.slice none 0 0]:=Blk.new wA 26 [.int .i64 0,.slice none 0 0];have nb:=nm.below hbB nm.lt;have hBlt:=nb.lt;have y0:=nb.cell 0;have y1:=nb.cell 1;have y0f:=nb.frozen 0;have y1f:=nb.frozen 1;simp only [List.getElem?_cons_zero,List.getElem?_cons_succ] at y0 y1)
          | (go_at_call 59;with_reducible refine (HAt.out htr.out w4.drew (B4.out.trans (bD.mono z4))).mono ?_;rintro e' wA ⟨vA,rfl,oA,hbA⟩;have bA:=bD.trans (hbA.mono bD.size);have zA:=bA.size;have hshA:=HLZ.out _ _ oA.rd;obtain ⟨aA,cA,hvA⟩:=hshA;subst hvA)
          | (go_at_call 59;with_reducible refine (HAt.out htr.out (w4.alloc (.cells #[.int .i64 0,.slice none 0 0] 26)).drew (B4.out.trans (bE.mono z4))).mono ?_;rintro e' wA ⟨vA,rfl,oA,hbA⟩;have bA:=bE.trans (hbA.mono bE.size);have zA:=bA.size;have hshA:=HLZ.out _ _ oA.rd;obtain ⟨aA,cA,hvA⟩:=hshA;subst hvA;have nbA:=nE.below hbA nE.lt)))
        all_goals
          go_wp2_with fail
          go_meet
          case rel =>
            first
              | exact ⟨wB.heap.size,aB,cB,rfl,rfl,Blk.new wB _ _,xB.rd.below ((Below.refl _ wB).alloc (Nat.le_refl _) _) (Nat.le_refl _),bB.alloc (by omega) _⟩
              | exact ⟨_,aB,cB,rfl,rfl,(nb.set 0 _).set 1 _,((xB.old (by first | omega | (simp;done) | (simp;omega) | (dsimp only;omega)) _ _).old (by first | omega | (simp;done) | (simp;omega) | (dsimp only;omega)) _ _).rd,(bB.setCell (p:=⟨_,0,none⟩) (by dsimp only;omega) _).setCell (p:=⟨_,1,none⟩) (by dsimp only;omega) _⟩
      case rest =>
        obtain ⟨w5,rfl⟩:∃ x,x=wc:=⟨_,rfl⟩
        obtain ⟨G,a5,c5,rfl,rfl,kG,rG,hb5⟩:=hcut
        have B5:=hide (B4.out.trans (hb5.mono z4))
        have k25:=K24.out.below hb5 K24.out.lt
        have KG:=hide kG
        have RG:=hide rG
        have K25:=hide k25
        clear kG rG hb5 k25 K14 K24 HS bD bE nE x0 x1 u10 HLZ
        go_wp2_with fail
        refine (HCh.out htr.out w5 B5.out).mono ?_
        rintro _ w6 ⟨x6,rfl,o6,hb6⟩
        obtain ⟨a6,c6,hv6⟩:=o6.rd.shape
        subst hv6
        have hlm:((chA l qb).map ofN).length=(chA l qb).length:=List.length_map _
        rw [hlm]
        have B6:=hide (B5.out.trans (hb6.mono B5.out.size))
        have k26:=K25.out.below hb6 K25.out.lt
        have kG6:=KG.out.below hb6 KG.out.lt
        have RG6:=hide (RG.out.below hb6 (Nat.le_refl _))
        have u10:=k26.cell 10
        have u11:=k26.cell 11
        have u12:=k26.cell 12
        have u13:=k26.cell 13
        have g0:=kG6.cell 0
        have g1:=kG6.cell 1
        simp only [List.getElem?_cons_zero,List.getElem?_cons_succ] at u10 u11 u12 u13 g0 g1
        have K26:=hide k26
        clear o6 hb6 k26 kG6 KG RG K25 hlm HCh htr HAt HAl
        by_cases hn:C=ts.length
        · have hni:(C:Int)=(ts.length:Int):=by omega
          by_cases hc:(chA l qb).length=1
          · have hci:((chA l qb).length:Int)=1:=by omega
            have HR:=hide (Hla.out hn hc)
            clear Hla Hmd Hbd
            cases en
            · go_wp2
              go_ret
              exact ⟨by rw [HR.out];rfl,B6.out⟩
            · go_wp2_with fail
              refine (HNx.out _ _ RG6.out).mono ?_
              rintro _ w7 ⟨v7,rfl,o7,hb7⟩
              obtain ⟨a7,c7,rfl⟩:=o7.rd.shape
              obtain ⟨w8,hw8⟩:∃ w8,w7.alloc (.cells #[.int .i64 (neA e A).1,.slice a7 (neA e A).2.length c7] 26)=w8:=⟨_,rfl⟩
              have b8:Below w7.heap.size w7 w8:=by rw [<- hw8];exact (Below.refl _ w7).alloc (Nat.le_refl _) _
              have k8:Blk w8 w7.heap.size 26 [.int .i64 (neA e A).1,.slice a7 (neA e A).2.length c7]:=by rw [<- hw8];exact Blk.new w7 _ _
              have B7:=B6.out.trans (hb7.mono B6.out.size)
              have B8:=hide (B7.trans (b8.mono B7.size))
              have k28:=(K26.out.below hb7 K26.out.lt).below b8 (Nat.lt_of_lt_of_le K26.out.lt hb7.size)
              have R8:=hide (o7.rd.below b8 (Nat.le_refl _))
              have K8:=hide k8
              have K28:=hide k28
              have z8:=B8.out.size
              have HSy:Hid (∀ V,Below w8.heap.size w8 V->(V.cell? ⟨w7.heap.size,0,none⟩=some (.int .i64 (neA e A).1)/\V.cell? ⟨w7.heap.size,1,none⟩=some (.slice a7 (neA e A).2.length c7)/\V.cell? ⟨w.heap.size+1,12,none⟩=some (.slice an nx.length cn)/\V.cell? ⟨w.heap.size+1,13,none⟩=some (.string rt))):=hide (fun V hV=>⟨(K8.out.below hV K8.out.lt).cell 0,(K8.out.below hV K8.out.lt).cell 1,(K28.out.below hV K28.out.lt).cell 12,(K28.out.below hV K28.out.lt).cell 13⟩)
              have hd8:Below w8.heap.size w8 w8.drew:=(Below.refl _ w8).drew
              have hS8:=HSy.out _ hd8
              clear o7 hb7 b8 k8 B7 k28 u10 u11 u12 u13 g0 g1 RG6 K26
              generalize (neA e A).1=ne1 at *
              generalize (neA e A).2=ne2 at *
              by_cases h3:nx=setA ne1 ne2
              · have d3:decide (nx=setA ne1 ne2)=true:=decide_eq_true h3
                clear h3
                rw [d3] at HR HSv
                have HR:=hide HR.out
                have e4:(rt.toList == (srB ne1 ne2).toList)=decide (rt=srB ne1 ne2):=by
                  by_cases h:rt=srB ne1 ne2
                  · rw [h];simp
                  · rw [decide_eq_false h];simpa using no_toList h
                go_wp2
                go_region_held_law (fun w'=>w'.cell? ⟨w7.heap.size,0,none⟩=some (.int .i64 ne1)/\w'.cell? ⟨w7.heap.size,1,none⟩=some (.slice a7 ne2.length c7)/\w'.cell? ⟨w.heap.size+1,12,none⟩=some (.slice an nx.length cn)/\w'.cell? ⟨w.heap.size+1,13,none⟩=some (.string rt)) (first | with_reducible exact hS8 | with_reducible exact hS9 | with_reducible exact hS10 | with_reducible exact hS11) ((first
                  | (go_at_call 86;refine (HSr.out _ _ (R8.out.below b10 (Nat.le_refl _))).mono ?_;rintro e' w11 ⟨rfl,hb11⟩;have b11:=b10.trans (hb11.mono b10.size);have hS11:=HSy.out _ b11)
                  | (go_at_call 84;refine (HSv.out _ _ (B8.out.trans (b9.mono z8)) o9.rd).mono ?_;rintro e' w10 ⟨rfl,hs10⟩;have b10:=b9.trans ((hs10 w9.heap.size).mono b9.size);have hS10:=HSy.out _ b10)
                  | (go_at_call 85;refine (HSe.out _ _ (R8.out.below hd8 (Nat.le_refl _))).mono ?_;rintro e' w9 ⟨v9,rfl,o9,hb9⟩;have b9:=hd8.trans (hb9.mono hd8.size);have hS9:=HSy.out _ b9)))
                go_wp2
                go_ret
                exact ⟨by rw [HR.out,<- e4];simp,B8.out.trans (b11.mono z8)⟩
              · have d3:decide (nx=setA ne1 ne2)=false:=decide_eq_false h3
                clear h3
                rw [d3] at HR HSv
                have HF:Hid (BO=false):=hide (HR.out.trans (by simp))
                go_wp2
                refine wp_region_held_drew (S:=fun w'=>w'.cell? ⟨w7.heap.size,0,none⟩=some (.int .i64 ne1)/\w'.cell? ⟨w7.heap.size,1,none⟩=some (.slice a7 ne2.length c7)/\w'.cell? ⟨w.heap.size+1,12,none⟩=some (.slice an nx.length cn)/\w'.cell? ⟨w.heap.size+1,13,none⟩=some (.string rt)) (by kernel_rfl) hS8 (fun hHeld=>?_)
                refine wpAnyH_take (i:=0) (v:=.pointer (some ⟨w.heap.size+1,12,none⟩)) rfl (by kernel_rfl) (by kernel_rfl) (by kernel_rfl) (fun _ _ _ h=>h) (Or.inl ⟨by rfl,fun W hW=>by (obtain ⟨q0,q1,q2,q3⟩:=hW;go_simp)⟩) (by assumption) ?_
                change wpAnyH Tryz.prog _ _ _ _ _ _ (Act.put _ (some 81) _) _
                simp only [Act.put,List.setIfInBounds_toArray,List.set_cons_zero,List.set_cons_succ]
                refine wpAnyH_take (i:=1) (v:=.slice an nx.length cn) rfl (by kernel_rfl) (by kernel_rfl) (by kernel_rfl) (fun _ _ _ h=>h) (Or.inl ⟨by rfl,fun W hW=>by (obtain ⟨q0,q1,q2,q3⟩:=hW;go_simp)⟩) (by assumption) ?_
                change wpAnyH Tryz.prog _ _ _ _ _ _ (Act.put _ (some 82) _) _
                simp only [Act.put,List.setIfInBounds_toArray,List.set_cons_zero,List.set_cons_succ]
                refine wpAnyH_take (i:=2) (v:=.agg #[.int .i64 ne1,.slice a7 ne2.length c7]) rfl (by kernel_rfl) (by kernel_rfl) (by kernel_rfl) (fun _ _ _ h=>h) (Or.inl ⟨by rfl,fun W hW=>by (obtain ⟨q0,q1,q2,q3⟩:=hW;go_simp)⟩) (by assumption) ?_
                change wpAnyH Tryz.prog _ _ _ _ _ _ (Act.put _ (some 83) _) _
                simp only [Act.put,List.setIfInBounds_toArray,List.set_cons_zero,List.set_cons_succ]
                refine wpAnyH_ready (rs:=[3]) (by kernel_rfl) (by simp) ?_
                refine AllReadyH.cons rfl (fun K hK=>?_) AllReadyH.nil
                go_simp
                go_wp2_with (go_at_call 85;refine (HSe.out _ _ (R8.out.below hd8 (Nat.le_refl _))).mono ?_;rintro e' w9 ⟨v9,rfl,o9,hb9⟩;have b9:=hd8.trans (hb9.mono hd8.size);have hS9:=HSy.out _ b9)
                refine hK.out _ _ hS9 (fun hHeld=>?_)
                try simp only [Act.put,List.setIfInBounds_toArray,List.set_cons_zero,List.set_cons_succ]
                refine wpAnyH_ready (rs:=[4]) (by kernel_rfl) (by simp) ?_
                refine AllReadyH.cons rfl (fun K hK=>?_) AllReadyH.nil
                go_simp
                go_wp2_with (go_at_call 84;refine (HSv.out _ _ (B8.out.trans (b9.mono z8)) o9.rd).mono ?_;rintro e' w10 ⟨rfl,hs10⟩;have b10:=b9.trans ((hs10 w9.heap.size).mono b9.size);have hS10:=HSy.out _ b10)
                refine hK.out _ _ hS10 (fun hHeld=>?_)
                try simp only [Act.put,List.setIfInBounds_toArray,List.set_cons_zero,List.set_cons_succ]
                refine wpAnyH_take (i:=5) (v:=.bool false) rfl (by kernel_rfl) (by kernel_rfl) (by kernel_rfl) (fun _ _ _ h=>h) (Or.inl ⟨by rfl,fun W hW=>by (obtain ⟨q0,q1,q2,q3⟩:=hW;go_simp)⟩) (by assumption) ?_
                change wpAnyH Tryz.prog _ _ _ _ _ _ (Act.put _ (some 86) _) _
                simp only [Act.put,List.setIfInBounds_toArray,List.set_cons_zero,List.set_cons_succ]
                refine wpAnyH_take (i:=6) (v:=undef) rfl (by kernel_rfl) (by kernel_rfl) (by kernel_rfl) (fun _ _ _ h=>h) (Or.inr ⟨by rfl,rfl⟩) (by assumption) ?_
                change wpAnyH Tryz.prog _ _ _ _ _ _ (Act.put _ (some 87) _) _
                simp only [Act.put,List.setIfInBounds_toArray,List.set_cons_zero,List.set_cons_succ]
                refine wpAnyH_take (i:=7) (v:=undef) rfl (by kernel_rfl) (by kernel_rfl) (by kernel_rfl) (fun _ _ _ h=>h) (Or.inr ⟨by rfl,rfl⟩) (by assumption) ?_
                change wpAnyH Tryz.prog _ _ _ _ _ _ (Act.put _ (some 88) _) _
                simp only [Act.put,List.setIfInBounds_toArray,List.set_cons_zero,List.set_cons_succ]
                refine wpAnyH_take (i:=8) (v:=undef) rfl (by kernel_rfl) (by kernel_rfl) (by kernel_rfl) (fun _ _ _ h=>h) (Or.inr ⟨by rfl,rfl⟩) (by assumption) ?_
                change wpAnyH Tryz.prog _ _ _ _ _ _ (Act.put _ (some 89) _) _
                simp only [Act.put,List.setIfInBounds_toArray,List.set_cons_zero,List.set_cons_succ]
                refine wpAnyH_take (i:=9) (v:=undef) rfl (by kernel_rfl) (by kernel_rfl) (by kernel_rfl) (fun _ _ _ h=>h) (Or.inr ⟨by rfl,rfl⟩) (by assumption) ?_
                change wpAnyH Tryz.prog _ _ _ _ _ _ (Act.put _ (some 90) _) _
                simp only [Act.put,List.setIfInBounds_toArray,List.set_cons_zero,List.set_cons_succ]
                refine wpAnyH_take (i:=10) (v:=undef) rfl (by kernel_rfl) (by kernel_rfl) (by kernel_rfl) (fun _ _ _ h=>h) (Or.inr ⟨by rfl,rfl⟩) (by assumption) ?_
                change wpAnyH Tryz.prog _ _ _ _ _ _ (Act.put _ (some 91) _) _
                simp only [Act.put,List.setIfInBounds_toArray,List.set_cons_zero,List.set_cons_succ]
                refine wpAnyH_take (i:=11) (v:=.bool false) rfl (by kernel_rfl) (by kernel_rfl) (by kernel_rfl) (fun _ _ _ h=>h) (Or.inl ⟨by rfl,fun W hW=>by (obtain ⟨q0,q1,q2,q3⟩:=hW;go_simp)⟩) (by assumption) ?_
                change wpAnyH Tryz.prog _ _ _ _ _ _ (Act.put _ (some 92) _) _
                simp only [Act.put,List.setIfInBounds_toArray,List.set_cons_zero,List.set_cons_succ]
                refine wpAnyH_take (i:=12) (v:=.bool false) rfl (by kernel_rfl) (by kernel_rfl) (by kernel_rfl) (fun _ _ _ h=>h) (Or.inl ⟨by rfl,fun W hW=>by (obtain ⟨q0,q1,q2,q3⟩:=hW;go_simp)⟩) (by assumption) ?_
                change wpAnyH Tryz.prog _ _ _ _ _ _ (Act.put _ (some 6) _) _
                simp only [Act.put,List.setIfInBounds_toArray,List.set_cons_zero,List.set_cons_succ]
                refine wpAnyH_done (by kernel_rfl) ?_ _
                go_wp2
                go_ret
                exact ⟨by rw [HF.out];rfl,B8.out.trans (b10.mono z8)⟩
          · have hci:¬ ((chA l qb).length:Int)=1:=by omega
            have hcd:decide (((chA l qb).length:Int)=1)=false:=decide_eq_false hci
            have hcb:(((chA l qb).length:Int) == 1)=false:=by simpa using hci
            have HR:=hide (Hmd.out hn hc)
            clear Hla Hmd Hbd
            cases en
            · by_cases h3:nx=[]
              · subst h3
                by_cases h4:rt={ data:=#[] }
                · subst h4
                  have d4:=emp_emp
                  go_wp2
                  go_ret
                  exact ⟨by rw [HR.out];rfl,B6.out⟩
                · have d4:=emp_toList h4
                  have d5:decide (rt={ data:=#[] })=false:=decide_eq_false h4
                  go_wp2
                  go_ret
                  exact ⟨by rw [HR.out,d5];rfl,B6.out⟩
              · have h3':¬ (nx.length:Int)=0:=fun k=>h3 (List.length_eq_zero_iff.1 (by omega))
                have d5:decide (nx=[])=false:=decide_eq_false h3
                go_wp2
                go_ret
                exact ⟨by rw [HR.out,d5];rfl,B6.out⟩
            · go_wp2
              go_ret
              exact ⟨by rw [HR.out];rfl,B6.out⟩
        · have hni:¬ (C:Int)=(ts.length:Int):=by omega
          have HR:=hide (Hbd.out hn)
          clear Hla Hmd Hbd
          go_wp2
          go_ret
          exact ⟨by rw [HR.out];rfl,B6.out⟩
end Go.Proofs.YtcbaheffmbfofaaGreatDoor
namespace Go.Proofs.YtcbaheffmbfofaaGreatDoor
open Go.RowKit
set_option linter.unusedVariables false
set_option maxRecDepth 20000 in
set_option maxHeartbeats 4000000 in
theorem implBodyOk_any (e:Int) (v vl:Value) (z:List Ac) (l:List Bk) (b:Bk) (bv:Bv) (w:World) (hgh:Gh w) (hgl:Gl w) (hr:RdA w v z) (hrl:RdKs w vl l) (hrb:RdK w b bv) (hz:z.length<=3999999) (hall:∀ a ∈ z,a.1.size<=maxLen/\a.2.2.2.2.length<=3999999) (hl:l.length<=4000000) (hf:∀ b ∈ l,FewK b) (hbd:∀ b ∈ l,-9223372036854775808<=b.tr/\b.tr<=9223372036854775807) (hfb:FewK b) (hnt:(bdA e z l b.qb b.ts b.ts.length).1.ts.length<=4000000) (hnn:(bdA e z l b.qb b.ts b.ts.length).1.nx.length<=4000000) :
    Calls Tryz.prog 19 #[lgV e v,vl,bkV b bv] w fun en w'=>en=.returned (.bool (boB e z l b))/\Below w.heap.size w w':=by
  obtain ⟨av,cv,rfl⟩:=hr.shape
  obtain ⟨al,cl,rfl⟩:=hrl.shape
  obtain ⟨at_,ct,htv⟩:=hrb.t.shape
  obtain ⟨an,cn,hnv⟩:=hrb.n.shape
  obtain ⟨vq,vw,vh,vt,vn⟩:=bv
  simp only at htv hnv
  subst htv hnv
  obtain ⟨id,ep,rd,md,qr,qb,qw,tr,tw,th,ts,en,nx,rt⟩:=b
  simp only at *
  obtain ⟨w1,hw1⟩:∃ w1,w.alloc (.cells #[.int .i64 e,.slice av z.length cv] 26)=w1:=⟨_,rfl⟩
  have hb1:Below w.heap.size w w1:=by rw [<- hw1];exact (Below.refl _ w).alloc (Nat.le_refl _) _
  have k1:Blk w1 w.heap.size 26 [.int .i64 e,.slice av z.length cv]:=by rw [<- hw1];exact Blk.new w _ _
  have s1:w1.heap.size=w.heap.size+1:=by rw [<- hw1];simp
  obtain ⟨w2,hw2⟩:∃ w2,w1.alloc (.cells #[.int .i64 id,.int .i64 ep,.int .i64 rd,.string md,.int .i64 qr,.int .i64 qb,vq,.int .i64 tr,vw,vh,.slice at_ ts.length ct,.bool en,.slice an nx.length cn,.string rt] 50)=w2:=⟨_,rfl⟩
  have hb2:Below w1.heap.size w1 w2:=by rw [<- hw2];exact (Below.refl _ w1).alloc (Nat.le_refl _) _
  have k2:Blk w2 (w.heap.size+1) 50 [.int .i64 id,.int .i64 ep,.int .i64 rd,.string md,.int .i64 qr,.int .i64 qb,vq,.int .i64 tr,vw,vh,.slice at_ ts.length ct,.bool en,.slice an nx.length cn,.string rt]:=by rw [<- hw2,<- s1];exact Blk.new w1 _ _
  have B2:Below w.heap.size w w2:=hb1.trans (hb2.mono hb1.size)
  have k12:=k1.below hb2 k1.lt
  have HBd:=hide (bodyAt_any e (.slice av z.length cv) (.slice al l.length cl) (.slice at_ ts.length ct) z l qb ts ts.length w2 (hgh.below B2) (hgl.below B2 (Nat.le_refl _)) (hr.below B2 (Nat.le_refl _)) (hrl.below B2 (Nat.le_refl _)) (hrb.t.below B2 (Nat.le_refl _)) hz hall hl hf hbd hfb.t hfb.ts)
  have Hbo:Hid (boB e z l ⟨id,ep,rd,md,qr,qb,qw,tr,tw,th,ts,en,nx,rt⟩=boR ⟨id,ep,rd,md,qr,qb,qw,tr,tw,th,ts,en,nx,rt⟩ (bdA e z l qb ts ts.length)):=hide rfl
  have Hrt:=hide (fun V (hV:Below w.heap.size w V)=>hrb.t.below hV (Nat.le_refl _))
  have Hrn:=hide (fun V (hV:Below w.heap.size w V)=>hrb.n.below hV (Nat.le_refl _))
  have hft:=hfb.t
  have hfn:=hfb.n
  generalize bdA e z l qb ts ts.length=R at HBd Hbo hnt hnn
  obtain ⟨⟨T,E,X,Y⟩,q⟩:=R
  simp only [boR] at Hbo
  simp only [lgV,bkV] at HBd hnt hnn ⊢
  have x0:=k12.cell 0
  have x1:=k12.cell 1
  have y5:=k2.cell 5
  have y10:=k2.cell 10
  simp only [List.getElem?_cons_zero,List.getElem?_cons_succ] at x0 x1 y5 y10
  have HB2:=hide B2
  have K2:=hide k2
  clear hgh hgl hr hrl hrb hall hf hbd hfb hb1 hb2 k1 k12 k2 B2
  go_enter Tryz.func19,Tryz.ntmps19
  go_wp2_with fail
  refine HBd.out.mono ?_
  rintro en' w3 ⟨vg,vx,rfl,og,on,hb3⟩
  obtain ⟨ag,cg,rfl⟩:=og.rd.shape
  obtain ⟨ax,cx,rfl⟩:=on.rd.shape
  simp only at og on ⊢
  obtain ⟨w4,hw4⟩:∃ w4,w3.alloc (.cells #[.slice ag T.length cg,.bool E,.slice ax X.length cx,.string Y] 117)=w4:=⟨_,rfl⟩
  have b4:Below w3.heap.size w3 w4:=by rw [<- hw4];exact (Below.refl _ w3).alloc (Nat.le_refl _) _
  have k4:Blk w4 w3.heap.size 117 [.slice ag T.length cg,.bool E,.slice ax X.length cx,.string Y]:=by rw [<- hw4];exact Blk.new w3 _ _
  have B3:=HB2.out.trans (hb3.mono HB2.out.size)
  have B4:=B3.trans (b4.mono B3.size)
  have kb4:=(K2.out.below hb3 K2.out.lt).below b4 (Nat.lt_of_lt_of_le K2.out.lt hb3.size)
  have HG:=hide ((og.below b4 (Nat.le_refl _)).rd)
  have HN:=hide ((on.below b4 (Nat.le_refl _)).rd)
  have z0:=k4.cell 0
  have z1:=k4.cell 1
  have z2:=k4.cell 2
  have z3:=k4.cell 3
  have u10:=kb4.cell 10
  have u11:=kb4.cell 11
  have u12:=kb4.cell 12
  have u13:=kb4.cell 13
  simp only [List.getElem?_cons_zero,List.getElem?_cons_succ] at z0 z1 z2 z3 u10 u11 u12 u13
  have K4:=hide k4
  have Kb:=hide kb4
  have HB4:=hide B4
  clear og on hb3 b4 B3 B4 x0 x1 y5 y10 HBd K2 k4 kb4
  cases q
  · go_wp2
    go_ret
    exact ⟨by rw [Hbo.out];rfl,HB4.out⟩
  · have HET:=hide (equalT_any _ _ ts T w4 (Hrt.out w4 HB4.out) HG.out hft hnt)
    go_wp2_with fail
    refine HET.out.mono ?_
    rintro _ w5 ⟨rfl,hs5⟩
    have HB5:=hide (HB4.out.trans (hs5 _))
    have k5:=K4.out.below (hs5 _) K4.out.lt
    have kb5:=Kb.out.below (hs5 _) Kb.out.lt
    have z1:=k5.cell 1
    have z2:=k5.cell 2
    have z3:=k5.cell 3
    have u11:=kb5.cell 11
    have u12:=kb5.cell 12
    have u13:=kb5.cell 13
    simp only [List.getElem?_cons_zero,List.getElem?_cons_succ] at z1 z2 z3 u11 u12 u13
    have K5:=hide k5
    have Kb5:=hide kb5
    have HN5:=hide (HN.out.below (hs5 _) (Nat.le_refl _))
    clear z0 u10 k5 kb5 HET HG HN K4 Kb
    by_cases h1:ts=T
    · have d1:decide (ts=T)=true:=decide_eq_true h1
      rw [d1]
      by_cases h2:en=E
      · subst h2
        have d2:(en == en)=true:=by simp
        have HEV:=hide (equalV_any _ _ nx X w5 (Hrn.out w5 HB5.out) HN5.out hfn hnn)
        go_wp2_with fail
        refine HEV.out.mono ?_
        rintro _ w6 ⟨rfl,hs6⟩
        have HB6:=hide (HB5.out.trans (hs6 _))
        have k6:=K5.out.below (hs6 _) K5.out.lt
        have kb6:=Kb5.out.below (hs6 _) Kb5.out.lt
        have z3:=k6.cell 3
        have u13:=kb6.cell 13
        simp only [List.getElem?_cons_zero,List.getElem?_cons_succ] at z3 u13
        clear z1 z2 u11 u12 k6 kb6 HEV HN5 K5 Kb5
        by_cases h3:nx=X
        · have d3:decide (nx=X)=true:=decide_eq_true h3
          rw [d3]
          by_cases h4:rt=Y
          · subst h4
            go_wp2
            go_ret
            exact ⟨by rw [Hbo.out,d1,d3];simp,HB6.out⟩
          · have d4:decide (rt=Y)=false:=decide_eq_false h4
            go_wp2
            go_ret
            have d5:¬ rt.toList=Y.toList:=fun k=>h4 (by rw [ByteArray.toList_eq,ByteArray.toList_eq] at k;exact ByteArray.ext (Array.toList_inj.1 k))
            exact ⟨by rw [Hbo.out,d1,d3,d4];simp [d5],HB6.out⟩
        · have d3:decide (nx=X)=false:=decide_eq_false h3
          rw [d3]
          go_wp2
          go_ret
          exact ⟨by rw [Hbo.out,d1,d3];simp,HB6.out⟩
      · have d2:decide (en=E)=false:=decide_eq_false h2
        have Hfin:Hid (boB e z l ⟨id,ep,rd,md,qr,qb,qw,tr,tw,th,ts,en,nx,rt⟩=false):=hide (by rw [Hbo.out,d1,d2];simp)
        clear Hbo
        cases en <;> cases E <;> first | exact absurd rfl h2 | (go_wp2;go_ret;exact ⟨by rw [Hfin.out];rfl,HB5.out⟩)
    · have d1:decide (ts=T)=false:=decide_eq_false h1
      rw [d1]
      go_wp2
      go_ret
      exact ⟨by rw [Hbo.out,d1];rfl,HB5.out⟩
end Go.Proofs.YtcbaheffmbfofaaGreatDoor
namespace Go.Proofs.YtcbaheffmbfofaaGreatDoor
open Go.ChangeShapes Go.WideShapes Go.ChangeAt Go.RowKit
set_option linter.unusedVariables false
theorem fewN_ofB {l:List Bk} (h:∀ q ∈ l,FitK q) (hm:totK l<=1048576):∀ b ∈ l,FewK b:=fun b hb=>by
  have f:=h b hb
  have m:=totK_at l b hb
  unfold wgK at m
  exact ⟨by omega,by omega,by omega,by omega,by omega,f.qs,f.ws,f.ts,f.ns,f.ms,f.rs⟩
theorem gdS_lenB {e:Int} {most:Nat}:∀ (ts:List Tx5) (s:List Ac × List Tx5),s.2.length<=most->(ts.foldl (gdS e most) s).2.length<=most
  | [],s,h=>h
  | t :: ts,s,h=>by
    rw [List.foldl_cons]
    refine gdS_lenB ts _ ?_
    unfold gdS
    split
    · exact h
    · split
      · simp;omega
      · exact h
theorem bdA_fewB (e:Int) (z:List Ac) (l:List Bk) (id:Int) (ts:List Tx5) (most:Nat) (hz:z.length<=3999999) (hall:∀ a ∈ z,a.1.size<=maxLen/\a.2.2.2.2.length<=3999999):(bdA e z l id ts most).1.ts.length<=most/\(bdA e z l id ts most).1.nx.length<=3999999:=by
  unfold bdA
  split
  · unfold bdC
    have hg:=gdS_lenB (e:=e) (most:=most) ts (foL e z l (chT l id),[]) (by simp)
    have hfo:=foL_few (e:=e) l (chT l id) z hz hall
    have hga:=gdA_few (e:=e) (l:=foL e z l (chT l id)) ts most hfo.1 hfo.2
    have hne:=neA_few (e:=e) hga.1 hga.2
    split
    · exact ⟨by simp,by simp⟩
    · split
      · exact ⟨hg,Nat.le_trans (setA_len _ _) hne.1⟩
      · exact ⟨hg,by simp⟩
  · exact ⟨by simp,by simp⟩
theorem toBlockX_any (id ep rd:Int) (md:ByteArray) (qr qb:Int) (qw:List ByteArray) (tr:Int) (tw:List ByteArray) (th:List Int) (ts:List Tx5) (en:Bool) (nx:List Vl) (rt:ByteArray) (bv:Bv) (w:World) (hr:RdK w (⟨id,ep,rd,md,qr,qb,qw,tr,tw,th,ts,en,nx,rt⟩:Bk) bv) (hf:FewK (⟨id,ep,rd,md,qr,qb,qw,tr,tw,th,ts,en,nx,rt⟩:Bk)) :
    Calls Tryz.prog 31 #[bkV (⟨id,ep,rd,md,qr,qb,qw,tr,tw,th,ts,en,nx,rt⟩:Bk) bv] w fun e w'=>∃ aq1 cq1 aw1 cw1 ah1 ch1 at1 ct1 an1 cn1,e=.returned (.agg #[.int .i64 id,.int .i64 ep,.int .i64 rd,.string md,.int .i64 qr,.int .i64 qb,.slice aq1 qw.length cq1,.int .i64 tr,.slice aw1 tw.length cw1,.slice ah1 th.length ch1,.slice at1 ts.length ct1,.bool en,.slice an1 nx.length cn1,.string rt])/\OwnK w.heap.size w' (⟨id,ep,rd,md,qr,qb,qw,tr,tw,th,ts,en,nx,rt⟩:Bk) ⟨.slice aq1 qw.length cq1,.slice aw1 tw.length cw1,.slice ah1 th.length ch1,.slice at1 ts.length ct1,.slice an1 nx.length cn1⟩/\Below w.heap.size w w':=by
  refine (toBlock_any (⟨id,ep,rd,md,qr,qb,qw,tr,tw,th,ts,en,nx,rt⟩:Bk) bv w hr hf).mono ?_
  rintro e w' ⟨v',rfl,o1,hb⟩
  obtain ⟨aq1,cq1,aw1,cw1,ah1,ch1,at1,ct1,an1,cn1,rfl⟩:=o1.rd.shapes9
  exact ⟨aq1,cq1,aw1,cw1,ah1,ch1,at1,ct1,an1,cn1,rfl,o1,hb⟩
open Classical in
set_option maxRecDepth 20000 in
set_option maxHeartbeats 8000000 in
theorem fnExactBodyOk_walk (a0:Int) (y0:Value) (z0:List Ac) (a1:Option Addr) (len1 cap1:Nat) (z1:List Bk) (z2:Bk) (y2:Bv) (w:World) (hgl:Gl w) (hgh:Gh w) (w0:RdA w y0 z0/\z0.length<=maxLen/\∀ q ∈ z0,q.1.size<=maxLen/\q.2.2.2.2.length<=maxLen) (w1x:len1=z1.length/\RdKs w (.slice a1 len1 cap1) z1/\z1.length<=maxLen/\∀ q ∈ z1,FitK q) (w2x:RdK w z2 y2/\FitK z2) :
    Calls Tryz.prog 6 #[lgV a0 y0,.slice a1 len1 cap1,bkV z2 y2] w fun e w'=>e=.returned (.bool true)/\Below w.heap.size w w':=by
  obtain ⟨hr,hlm,hsm⟩:=w0
  obtain ⟨rfl,hrt,hlt,hst⟩:=w1x
  obtain ⟨hrb,hfit2⟩:=w2x
  obtain ⟨aq0,cq0,aw0,cw0,ah0,ch0,at0,ct0,an0,cn0,rfl⟩:=hrb.shapes9
  obtain ⟨id,ep,rd,md,qr,qb,qw,tr,tw,th,ts,en,nx,rt⟩:=z2
  simp only at hrb
  obtain ⟨av,cv,rfl⟩:=hr.shape
  have hlm':z0.length<=9223372036854775807:=by unfold maxLen at hlm;omega
  have hsm':∀ a ∈ z0,a.1.size<=9223372036854775807/\a.2.2.2.2.length<=9223372036854775807:=fun a ha=>by have:=hsm a ha;unfold maxLen at this;omega
  simp only [bkV,lgV]
  obtain ⟨w1,hw1⟩:∃ w1,w.alloc (.cells #[.int .i64 a0,.slice av z0.length cv] 64)=w1:=⟨_,rfl⟩
  have hb1:Below w.heap.size w w1:=by rw [<- hw1];exact (Below.refl _ w).alloc (Nat.le_refl _) _
  have s1:w1.heap.size=w.heap.size+1:=by rw [<- hw1];simp
  have k1:Blk w1 w.heap.size 64 [.int .i64 a0,.slice av z0.length cv]:=by rw [<- hw1];exact Blk.new w _ _
  obtain ⟨w1b,hw1b⟩:∃ x,w1.alloc (.cells #[.int .i64 id,.int .i64 ep,.int .i64 rd,.string md,.int .i64 qr,.int .i64 qb,.slice aq0 qw.length cq0,.int .i64 tr,.slice aw0 tw.length cw0,.slice ah0 th.length ch0,.slice at0 ts.length ct0,.bool en,.slice an0 nx.length cn0,.string rt] 71)=x:=⟨_,rfl⟩
  have hb1b:Below w1.heap.size w1 w1b:=by rw [<- hw1b];exact (Below.refl _ w1).alloc (Nat.le_refl _) _
  have j1:Blk w1b (w.heap.size+1) 71 [.int .i64 id,.int .i64 ep,.int .i64 rd,.string md,.int .i64 qr,.int .i64 qb,.slice aq0 qw.length cq0,.int .i64 tr,.slice aw0 tw.length cw0,.slice ah0 th.length ch0,.slice at0 ts.length ct0,.bool en,.slice an0 nx.length cn0,.string rt]:=by rw [<- hw1b,<- s1];exact Blk.new w1 _ _
  have k1b:=k1.below hb1b k1.lt
  have hB1b:Below w.heap.size w w1b:=hb1.trans (hb1b.mono hb1.size)
  have Hz:=hide (szLedger_any a0 _ z0 1048576 w1b (hr.below hB1b (Nat.le_refl _)) (by omega) hlm' hsm')
  have Hzb:=hide (fun (m:Nat) V (hV:RdK V (⟨id,ep,rd,md,qr,qb,qw,tr,tw,th,ts,en,nx,rt⟩:Bk) ⟨.slice aq0 qw.length cq0,.slice aw0 tw.length cw0,.slice ah0 th.length ch0,.slice at0 ts.length ct0,.slice an0 nx.length cn0⟩) (hm:m<=100000000)=>szBlockN_any (⟨id,ep,rd,md,qr,qb,qw,tr,tw,th,ts,en,nx,rt⟩:Bk) ⟨.slice aq0 qw.length cq0,.slice aw0 tw.length cw0,.slice ah0 th.length ch0,.slice at0 ts.length ct0,.slice an0 nx.length cn0⟩ m V hV hm hfit2.q hfit2.w hfit2.h hfit2.t hfit2.n hfit2.qs hfit2.ws hfit2.ts hfit2.ns hfit2.ms hfit2.rs)
  simp only [bkV,lgV] at Hz Hzb
  have Hr:=hide hr
  have Hrt:=hide hrt
  have Hrb:=hide hrb
  have Hsm:=hide hsm
  have Hst:=hide hst
  have Hft:=hide hfit2
  have Hgh:=hide hgh
  have Hgl:=hide hgl
  have Hlt:=hide hlt
  have c0:=k1b.cell 0
  have c1:=k1b.cell 1
  simp only [List.getElem?_cons_zero,List.getElem?_cons_succ] at c0 c1
  clear hr hsm hsm' hlm hgh hgl hrt hst hlt hrb hfit2 k1
  go_enter Tryz.func6,Tryz.ntmps6
  go_wp2_with fail
  refine Hz.out.mono ?_
  rintro e w2a ⟨r,rfl,hfit,hb2a⟩
  have hB2a:Below w.heap.size w w2a:=hB1b.trans (hb2a.mono hB1b.size)
  have k2:=k1b.below hb2a k1b.lt
  have j2:=j1.below hb2a j1.lt
  clear c0 c1 k1b j1
  by_cases hneg:r < 0
  · clear hfit
    go_wp2
    go_ret
    exact ⟨rfl,hB2a⟩
  have hrm:=hfit (by omega)
  obtain ⟨rn,hrn⟩:∃ n:Nat,r=(n:Int):=⟨r.toNat,by omega⟩
  subst hrn
  have Hzt:=hide (szBlockSN_any _ z1 rn w2a (Hrt.out.below hB2a (Nat.le_refl _)) (by omega) Hlt.out Hst.out)
  clear hfit
  go_wp2_with fail
  refine Hzt.out.mono ?_
  rintro e w2b ⟨r2,rfl,hfit,hb2b⟩
  have hB2b:Below w.heap.size w w2b:=hB2a.trans (hb2b.mono hB2a.size)
  replace k2:=k2.below hb2b k2.lt
  replace j2:=j2.below hb2b j2.lt
  clear Hzt
  by_cases hneg2:r2 < 0
  · clear hfit
    go_wp2
    go_ret
    exact ⟨rfl,hB2b⟩
  have hfk:=hfit (by omega)
  obtain ⟨rm,hrm2⟩:∃ n:Nat,r2=(n:Int):=⟨r2.toNat,by omega⟩
  subst hrm2
  have Hzu:=hide (Hzb.out rm w2b (Hrb.out.below hB2b (Nat.le_refl _)) (by omega))
  have d0:=j2.cell 0
  have d1:=j2.cell 1
  have d2:=j2.cell 2
  have d3:=j2.cell 3
  have d4:=j2.cell 4
  have d5:=j2.cell 5
  have d6:=j2.cell 6
  have d7:=j2.cell 7
  have d8:=j2.cell 8
  have d9:=j2.cell 9
  have d10:=j2.cell 10
  have d11:=j2.cell 11
  have d12:=j2.cell 12
  have d13:=j2.cell 13
  simp only [List.getElem?_cons_zero,List.getElem?_cons_succ] at d0 d1 d2 d3 d4 d5 d6 d7 d8 d9 d10 d11 d12 d13
  clear hfit Hzb
  go_wp2_with fail
  refine Hzu.out.mono ?_
  rintro e w2 ⟨r3,rfl,hfit,hb2⟩
  have hB2:Below w.heap.size w w2:=hB2b.trans (hb2.mono hB2b.size)
  replace k2:=k2.below hb2 k2.lt
  replace j2:=j2.below hb2 j2.lt
  clear Hzu
  clear d0 d1 d2 d3 d4 d5 d6 d7 d8 d9 d10 d11 d12 d13
  by_cases hneg3:r3 < 0
  · clear hfit
    go_wp2
    go_ret
    exact ⟨rfl,hB2⟩
  · have hl:=hrm
    have hfu:=hfit (by omega)
    have hl1:z1.length<=1048576:=by omega
    have hlk:totK z1<=1048576:=by omega
    have hfew:=fewN_ofB Hst.out hlk
    have htr:=trS_of Hst.out
    have f:=Hft.out
    have hfb:FewK (⟨id,ep,rd,md,qr,qb,qw,tr,tw,th,ts,en,nx,rt⟩:Bk):=⟨by show qw.length<=_;omega,by show tw.length<=_;omega,by show th.length<=_;omega,by show ts.length<=_;omega,by show nx.length<=_;omega,f.qs,f.ws,f.ts,f.ns,f.ms,f.rs⟩
    have hts:ts.length<=1048576:=by omega
    have hl4:z0.length<=1048576:=by omega
    have hlv:∀ a ∈ z0,a.2.2.2.2.length<=1048576:=fun a ha=>by have h1:=totA_at z0 a ha;unfold wgA at h1;omega
    have hnl3:∀ a ∈ z0,a.1.size<=maxLen/\a.2.2.2.2.length<=3999999:=fun a ha=>⟨(Hsm.out a ha).1,by have:=hlv a ha;omega⟩
    have hbf:=bdA_fewB a0 z0 z1 qb ts ts.length (by omega) hnl3
    have HS:=hide (fun v vt bv w hr hrt hrb=>specBodyOk_any a0 v vt z0 z1 (⟨id,ep,rd,md,qr,qb,qw,tr,tw,th,ts,en,nx,rt⟩:Bk) bv w hr hrt hrb (by omega) hnl3 (by omega) hfew htr hfb)
    have HI:=hide (fun v vt bv w (hgw:Gh w) (hgv:Gl w) hr hrt hrb=>implBodyOk_any a0 v vt z0 z1 (⟨id,ep,rd,md,qr,qb,qw,tr,tw,th,ts,en,nx,rt⟩:Bk) bv w hgw hgv hr hrt hrb (by omega) hnl3 (by omega) hfew htr hfb (by show (bdA a0 z0 z1 qb ts ts.length).1.ts.length<=_;omega) (by show (bdA a0 z0 z1 qb ts ts.length).1.nx.length<=_;omega))
    have HT:=hide (fun v w hr=>toLedger_any a0 v z0 w hr (by omega) (fun a ha=>by have:=hlv a ha;omega))
    have HE:=hide (fun v1 v2 w h1 h2=>eqLedger_any a0 a0 v1 v2 z0 z0 w h1 h2 (by omega) (by omega) (fun a ha=>by have:=hlv a ha;omega) (fun a ha=>by have:=hlv a ha;omega))
    rw [decide_eq_true rfl,decide_eq_true rfl,Bool.true_and] at HE
    have HX:=hide (fun v w hr=>toBlockS_any v z1 w hr (by omega) hfew)
    have HEX:=hide (fun v1 v2 w h1 h2=>eqBlockS_any v1 v2 z1 w h1 h2 (by omega) hfew)
    have HTb:=hide (fun bv w hr=>toBlockX_any id ep rd md qr qb qw tr tw th ts en nx rt bv w hr hfb)
    have HEb:=hide (fun v1 v2 w h1 h2=>eqBlock_any (⟨id,ep,rd,md,qr,qb,qw,tr,tw,th,ts,en,nx,rt⟩:Bk) v1 v2 w h1 h2 hfb)
    generalize boB a0 z0 z1 (⟨id,ep,rd,md,qr,qb,qw,tr,tw,th,ts,en,nx,rt⟩:Bk)=BO at HS HI
    simp only [lgV,bkV] at HS HI HT HE HTb HEb
    clear hfit hfk hfu hlk hfew htr hl hl1 hl4 hlv hnl3 Hsm Hz Hst Hft f hfb hts hbf hrm
    have hd2:Below w2.heap.size w2 w2.drew:=(Below.refl _ w2).drew
    have hB2d:Below w.heap.size w w2.drew:=hB2.drew
    replace k2:=k2.below hd2 k2.lt
    replace j2:=j2.below hd2 j2.lt
    have HSa:Hid (∀ W,Blk W w.heap.size 64 [.int .i64 a0,.slice av z0.length cv]->Blk W (w.heap.size+1) 71 [.int .i64 id,.int .i64 ep,.int .i64 rd,.string md,.int .i64 qr,.int .i64 qb,.slice aq0 qw.length cq0,.int .i64 tr,.slice aw0 tw.length cw0,.slice ah0 th.length ch0,.slice at0 ts.length ct0,.bool en,.slice an0 nx.length cn0,.string rt]->(W.cell? ⟨w.heap.size,0,none⟩=some (.int .i64 a0)/\W.cell? ⟨w.heap.size,1,none⟩=some (.slice av z0.length cv)/\W.cell? ⟨w.heap.size+1,0,none⟩=some (.int .i64 id)/\W.cell? ⟨w.heap.size+1,1,none⟩=some (.int .i64 ep)/\W.cell? ⟨w.heap.size+1,2,none⟩=some (.int .i64 rd)/\W.cell? ⟨w.heap.size+1,3,none⟩=some (.string md)/\W.cell? ⟨w.heap.size+1,4,none⟩=some (.int .i64 qr)/\W.cell? ⟨w.heap.size+1,5,none⟩=some (.int .i64 qb)/\W.cell? ⟨w.heap.size+1,6,none⟩=some (.slice aq0 qw.length cq0)/\W.cell? ⟨w.heap.size+1,7,none⟩=some (.int .i64 tr)/\W.cell? ⟨w.heap.size+1,8,none⟩=some (.slice aw0 tw.length cw0)/\W.cell? ⟨w.heap.size+1,9,none⟩=some (.slice ah0 th.length ch0)/\W.cell? ⟨w.heap.size+1,10,none⟩=some (.slice at0 ts.length ct0)/\W.cell? ⟨w.heap.size+1,11,none⟩=some (.bool en)/\W.cell? ⟨w.heap.size+1,12,none⟩=some (.slice an0 nx.length cn0)/\W.cell? ⟨w.heap.size+1,13,none⟩=some (.string rt))):=hide (fun W h1 h2=>⟨h1.cell 0,h1.cell 1,h2.cell 0,h2.cell 1,h2.cell 2,h2.cell 3,h2.cell 4,h2.cell 5,h2.cell 6,h2.cell 7,h2.cell 8,h2.cell 9,h2.cell 10,h2.cell 11,h2.cell 12,h2.cell 13⟩)
    have hS0:=HSa.out _ k2 j2
    have Kk:=hide k2
    have Kj:=hide j2
    clear k2 j2
    go_wp2
    go_region_held_law (fun w'=>w'.cell? ⟨w.heap.size,0,none⟩=some (.int .i64 a0)/\w'.cell? ⟨w.heap.size,1,none⟩=some (.slice av z0.length cv)/\w'.cell? ⟨w.heap.size+1,0,none⟩=some (.int .i64 id)/\w'.cell? ⟨w.heap.size+1,1,none⟩=some (.int .i64 ep)/\w'.cell? ⟨w.heap.size+1,2,none⟩=some (.int .i64 rd)/\w'.cell? ⟨w.heap.size+1,3,none⟩=some (.string md)/\w'.cell? ⟨w.heap.size+1,4,none⟩=some (.int .i64 qr)/\w'.cell? ⟨w.heap.size+1,5,none⟩=some (.int .i64 qb)/\w'.cell? ⟨w.heap.size+1,6,none⟩=some (.slice aq0 qw.length cq0)/\w'.cell? ⟨w.heap.size+1,7,none⟩=some (.int .i64 tr)/\w'.cell? ⟨w.heap.size+1,8,none⟩=some (.slice aw0 tw.length cw0)/\w'.cell? ⟨w.heap.size+1,9,none⟩=some (.slice ah0 th.length ch0)/\w'.cell? ⟨w.heap.size+1,10,none⟩=some (.slice at0 ts.length ct0)/\w'.cell? ⟨w.heap.size+1,11,none⟩=some (.bool en)/\w'.cell? ⟨w.heap.size+1,12,none⟩=some (.slice an0 nx.length cn0)/\w'.cell? ⟨w.heap.size+1,13,none⟩=some (.string rt)) (first | with_reducible exact hS0 | with_reducible exact hS1 | with_reducible exact hS2 | with_reducible exact hS3 | with_reducible exact hS4) ((first
      | (go_at_call 28;refine (HS.out _ _ _ _ (oT.below (hbX.trans (hbU.mono hbX.size)) (Nat.le_refl _)).rd (oX.below hbU (Nat.le_refl _)).rd oU.rd).mono ?_;rintro e w5 ⟨rfl,hbA⟩;have bb5:=bU.trans (hbA.mono bU.size);have hS4:=HSa.out _ (Kk.out.below bb5 Kk.out.lt) (Kj.out.below bb5 Kj.out.lt))
      | (go_at_call 31;refine (HTb.out _ _ (Hrb.out.below hBX (Nat.le_refl _))).mono ?_;rintro e wU ⟨aqU,cqU,awU,cwU,ahU,chU,atU,ctU,anU,cnU,rfl,oU,hbU⟩;have bU:=bX.trans (hbU.mono bX.size);have hS3:=HSa.out _ (Kk.out.below bU Kk.out.lt) (Kj.out.below bU Kj.out.lt))
      | (go_at_call 30;refine (HX.out _ _ (Hrt.out.below hBT (Nat.le_refl _))).mono ?_;rintro e wX ⟨vX,rfl,oX,hbX⟩;obtain ⟨aX,cX,rfl⟩:=oX.rd.shape;have bX:=hbT.trans (hbX.mono hbT.size);have hBX:Below w.heap.size w wX:=hB2d.trans (bX.mono hB2.size);have hS2:=HSa.out _ (Kk.out.below bX Kk.out.lt) (Kj.out.below bX Kj.out.lt))
      | (go_at_call 29;refine (HT.out _ _ (Hr.out.below hB2d (Nat.le_refl _))).mono ?_;rintro e wT ⟨vT,rfl,oT,hbT⟩;obtain ⟨aT,cT,rfl⟩:=oT.rd.shape;have hBT:Below w.heap.size w wT:=hB2d.trans (hbT.mono hB2.size);have hS1:=HSa.out _ (Kk.out.below hbT Kk.out.lt) (Kj.out.below hbT Kj.out.lt))))
    have k2:=Kk.out
    have j2:=Kj.out
    have hB5:Below w.heap.size w w5:=hB2d.trans (bb5.mono hB2.size)
    replace k2:=k2.below bb5 k2.lt
    replace j2:=j2.below bb5 j2.lt
    clear hS0 hS1 hS2 hS3 hS4 oT oX oU Kk Kj hbT hbX hbU hbA bX bU bb5 hBT hBX
    have c0:=k2.cell 0
    have c1:=k2.cell 1
    simp only [List.getElem?_cons_zero,List.getElem?_cons_succ] at c0 c1
    go_wp2_with fail
    refine (HT.out _ _ (Hr.out.below hB5 (Nat.le_refl _))).mono ?_
    rintro e w6 ⟨v6,rfl,o6,hb6⟩
    have hB6:Below w.heap.size w w6:=hB5.trans (hb6.mono hB5.size)
    replace k2:=k2.below hb6 k2.lt
    replace j2:=j2.below hb6 j2.lt
    clear c0 c1
    obtain ⟨a6,cv6,rfl⟩:=o6.rd.shape
    obtain ⟨w7,hw7⟩:∃ w7,w6.alloc (.cells #[.int .i64 a0,.slice a6 z0.length cv6] 26)=w7:=⟨_,rfl⟩
    have hb7:Below w6.heap.size w6 w7:=by rw [<- hw7];exact (Below.refl _ w6).alloc (Nat.le_refl _) _
    have b7:Blk w7 w6.heap.size 26 [.int .i64 a0,.slice a6 z0.length cv6]:=by rw [<- hw7];exact Blk.new w6 _ _
    have hB7:Below w.heap.size w w7:=hB6.trans (hb7.mono hB6.size)
    replace k2:=k2.below hb7 k2.lt
    replace j2:=j2.below hb7 j2.lt
    replace o6:=o6.below hb7 (Nat.le_refl _)
    go_wp2_with fail
    refine (HX.out _ _ (Hrt.out.below hB7 (Nat.le_refl _))).mono ?_
    rintro e w8 ⟨v8,rfl,o8,hb8⟩
    have hB8:Below w.heap.size w w8:=hB7.trans (hb8.mono hB7.size)
    replace k2:=k2.below hb8 k2.lt
    replace j2:=j2.below hb8 j2.lt
    replace b7:=b7.below hb8 b7.lt
    replace o6:=o6.below hb8 (Nat.le_refl _)
    obtain ⟨a8,cv8,rfl⟩:=o8.rd.shape
    have d0:=j2.cell 0
    have d1:=j2.cell 1
    have d2:=j2.cell 2
    have d3:=j2.cell 3
    have d4:=j2.cell 4
    have d5:=j2.cell 5
    have d6:=j2.cell 6
    have d7:=j2.cell 7
    have d8:=j2.cell 8
    have d9:=j2.cell 9
    have d10:=j2.cell 10
    have d11:=j2.cell 11
    have d12:=j2.cell 12
    have d13:=j2.cell 13
    simp only [List.getElem?_cons_zero,List.getElem?_cons_succ] at d0 d1 d2 d3 d4 d5 d6 d7 d8 d9 d10 d11 d12 d13
    go_wp2_with fail
    refine (HTb.out _ _ (Hrb.out.below hB8 (Nat.le_refl _))).mono ?_
    rintro e w9 ⟨aq9,cq9,aw9,cw9,ah9,ch9,at9,ct9,an9,cn9,rfl,o9,hb9⟩
    have hB9:Below w.heap.size w w9:=hB8.trans (hb9.mono hB8.size)
    replace k2:=k2.below hb9 k2.lt
    replace j2:=j2.below hb9 j2.lt
    replace b7:=b7.below hb9 b7.lt
    replace o6:=o6.below hb9 (Nat.le_refl _)
    replace o8:=o8.below hb9 (Nat.le_refl _)
    clear d0 d1 d2 d3 d4 d5 d6 d7 d8 d9 d10 d11 d12 d13
    obtain ⟨w10,hw10⟩:∃ x,w9.alloc (.cells #[.int .i64 id,.int .i64 ep,.int .i64 rd,.string md,.int .i64 qr,.int .i64 qb,.slice aq9 qw.length cq9,.int .i64 tr,.slice aw9 tw.length cw9,.slice ah9 th.length ch9,.slice at9 ts.length ct9,.bool en,.slice an9 nx.length cn9,.string rt] 50)=x:=⟨_,rfl⟩
    have hb10:Below w9.heap.size w9 w10:=by rw [<- hw10];exact (Below.refl _ w9).alloc (Nat.le_refl _) _
    have b10:Blk w10 w9.heap.size 50 [.int .i64 id,.int .i64 ep,.int .i64 rd,.string md,.int .i64 qr,.int .i64 qb,.slice aq9 qw.length cq9,.int .i64 tr,.slice aw9 tw.length cw9,.slice ah9 th.length ch9,.slice at9 ts.length ct9,.bool en,.slice an9 nx.length cn9,.string rt]:=by rw [<- hw10];exact Blk.new w9 _ _
    have r9:=o9.rd
    clear o9
    have hB10:Below w.heap.size w w10:=hB9.trans (hb10.mono hB9.size)
    replace k2:=k2.below hb10 k2.lt
    replace j2:=j2.below hb10 j2.lt
    replace b7:=b7.below hb10 b7.lt
    replace o6:=o6.below hb10 (Nat.le_refl _)
    replace o8:=o8.below hb10 (Nat.le_refl _)
    replace r9:=r9.below hb10 (Nat.le_refl _)
    have c0:=b7.cell 0
    have c1:=b7.cell 1
    simp only [List.getElem?_cons_zero,List.getElem?_cons_succ] at c0 c1
    have d0:=b10.cell 0
    have d1:=b10.cell 1
    have d2:=b10.cell 2
    have d3:=b10.cell 3
    have d4:=b10.cell 4
    have d5:=b10.cell 5
    have d6:=b10.cell 6
    have d7:=b10.cell 7
    have d8:=b10.cell 8
    have d9:=b10.cell 9
    have d10:=b10.cell 10
    have d11:=b10.cell 11
    have d12:=b10.cell 12
    have d13:=b10.cell 13
    simp only [List.getElem?_cons_zero,List.getElem?_cons_succ] at d0 d1 d2 d3 d4 d5 d6 d7 d8 d9 d10 d11 d12 d13
    go_wp2_with fail
    refine (HI.out _ _ _ _ (Hgh.out.below hB10) (Hgl.out.below hB10 (Nat.le_refl _)) o6.rd o8.rd r9).mono ?_
    rintro e w11 ⟨rfl,hb11⟩
    have hB11:Below w.heap.size w w11:=hB10.trans (hb11.mono hB10.size)
    replace k2:=k2.below hb11 k2.lt
    replace j2:=j2.below hb11 j2.lt
    replace b7:=b7.below hb11 b7.lt
    replace b10:=b10.below hb11 b10.lt
    replace o6:=o6.below hb11 (Nat.le_refl _)
    replace o8:=o8.below hb11 (Nat.le_refl _)
    replace r9:=r9.below hb11 (Nat.le_refl _)
    clear c0 c1
    clear d0 d1 d2 d3 d4 d5 d6 d7 d8 d9 d10 d11 d12 d13
    have hd11:Below w11.heap.size w11 w11.drew:=(Below.refl _ w11).drew
    have hB11d:Below w.heap.size w w11.drew:=hB11.drew
    replace k2:=k2.below hd11 k2.lt
    replace j2:=j2.below hd11 j2.lt
    replace b7:=b7.below hd11 b7.lt
    replace b10:=b10.below hd11 b10.lt
    replace o6:=o6.below hd11 (Nat.le_refl _)
    replace o8:=o8.below hd11 (Nat.le_refl _)
    replace r9:=r9.below hd11 (Nat.le_refl _)
    have HSx:Hid (∀ W,Blk W w.heap.size 64 [.int .i64 a0,.slice av z0.length cv]->Blk W w6.heap.size 26 [.int .i64 a0,.slice a6 z0.length cv6]->(W.cell? ⟨w.heap.size,0,none⟩=some (.int .i64 a0)/\W.cell? ⟨w.heap.size,1,none⟩=some (.slice av z0.length cv)/\W.cell? ⟨w6.heap.size,0,none⟩=some (.int .i64 a0)/\W.cell? ⟨w6.heap.size,1,none⟩=some (.slice a6 z0.length cv6))):=hide (fun W h1 h2=>⟨h1.cell 0,h1.cell 1,h2.cell 0,h2.cell 1⟩)
    have hS10:=HSx.out _ k2 b7
    have Kk:=hide k2
    have Kb:=hide b7
    have Kx:=hide o6
    clear k2 b7 o6
    cases BO <;> go_wp2
    all_goals
      go_region_held_law (fun w'=>w'.cell? ⟨w.heap.size,0,none⟩=some (.int .i64 a0)/\w'.cell? ⟨w.heap.size,1,none⟩=some (.slice av z0.length cv)/\w'.cell? ⟨w6.heap.size,0,none⟩=some (.int .i64 a0)/\w'.cell? ⟨w6.heap.size,1,none⟩=some (.slice a6 z0.length cv6)) (first | with_reducible exact hS10 | with_reducible exact hS11 | with_reducible exact hS12) ((first
        | (go_at_call 32;refine (HE.out _ _ _ (Kx.out.below hb12 (Nat.le_refl _)).rd o12.rd).mono ?_;rintro e w13 ⟨rfl,hb13⟩;have hS12:=HSx.out _ ((Kk.out.below hb12 Kk.out.lt).below hb13 (Kk.out.below hb12 Kk.out.lt).lt) ((Kb.out.below hb12 Kb.out.lt).below hb13 (Kb.out.below hb12 Kb.out.lt).lt))
        | (go_at_call 29;refine (HT.out _ _ (Hr.out.below hB11d (Nat.le_refl _))).mono ?_;rintro e w12 ⟨v12,rfl,o12,hb12⟩;have hsh:=o12.rd.shape;obtain ⟨a12,cv12,hv12⟩:=hsh;subst hv12;have hS11:=HSx.out _ (Kk.out.below hb12 Kk.out.lt) (Kb.out.below hb12 Kb.out.lt))))

    all_goals
      have k2:=Kk.out
      have hB12:Below w.heap.size w w12:=hB11d.trans (hb12.mono hB11.size)
      have hB13:Below w.heap.size w w13:=hB12.trans (hb13.mono hB12.size)
      replace j2:=j2.below hb12 j2.lt
      replace b10:=b10.below hb12 b10.lt
      replace o8:=o8.below hb12 (Nat.le_refl _)
      replace r9:=r9.below hb12 (Nat.le_refl _)
      replace j2:=j2.below hb13 j2.lt
      replace b10:=b10.below hb13 b10.lt
      replace o8:=o8.below hb13 (Nat.le_refl _)
      replace r9:=r9.below hb13 (Nat.le_refl _)
      clear hS10 hS11 hS12 o12 HSx Kk Kb Kx k2
      go_wp2_with fail
      refine (HX.out _ _ (Hrt.out.below hB13 (Nat.le_refl _))).mono ?_
      rintro e w14 ⟨v14,rfl,o14,hb14⟩
      have hB14:Below w.heap.size w w14:=hB13.trans (hb14.mono hB13.size)
      replace j2:=j2.below hb14 j2.lt
      replace b10:=b10.below hb14 b10.lt
      replace o8:=o8.below hb14 (Nat.le_refl _)
      replace r9:=r9.below hb14 (Nat.le_refl _)
      obtain ⟨a14,cv14,rfl⟩:=o14.rd.shape
      go_wp2_with fail
      refine (HEX.out _ _ _ o8.rd o14.rd).mono ?_
      rintro e w15 ⟨rfl,hb15⟩
      have hB15:Below w.heap.size w w15:=hB14.trans (hb15.mono hB14.size)
      replace j2:=j2.below hb15 j2.lt
      replace b10:=b10.below hb15 b10.lt
      replace o8:=o8.below hb15 (Nat.le_refl _)
      replace r9:=r9.below hb15 (Nat.le_refl _)
      clear o14 o8
      have hd15:Below w15.heap.size w15 w15.drew:=(Below.refl _ w15).drew
      have hB15d:Below w.heap.size w w15.drew:=hB15.drew
      replace j2:=j2.below hd15 j2.lt
      replace b10:=b10.below hd15 b10.lt
      replace r9:=r9.below hd15 (Nat.le_refl _)
      have HSy:Hid (∀ W,Blk W (w.heap.size+1) 71 [.int .i64 id,.int .i64 ep,.int .i64 rd,.string md,.int .i64 qr,.int .i64 qb,.slice aq0 qw.length cq0,.int .i64 tr,.slice aw0 tw.length cw0,.slice ah0 th.length ch0,.slice at0 ts.length ct0,.bool en,.slice an0 nx.length cn0,.string rt]->Blk W w9.heap.size 50 [.int .i64 id,.int .i64 ep,.int .i64 rd,.string md,.int .i64 qr,.int .i64 qb,.slice aq9 qw.length cq9,.int .i64 tr,.slice aw9 tw.length cw9,.slice ah9 th.length ch9,.slice at9 ts.length ct9,.bool en,.slice an9 nx.length cn9,.string rt]->(W.cell? ⟨w.heap.size+1,0,none⟩=some (.int .i64 id)/\W.cell? ⟨w.heap.size+1,1,none⟩=some (.int .i64 ep)/\W.cell? ⟨w.heap.size+1,2,none⟩=some (.int .i64 rd)/\W.cell? ⟨w.heap.size+1,3,none⟩=some (.string md)/\W.cell? ⟨w.heap.size+1,4,none⟩=some (.int .i64 qr)/\W.cell? ⟨w.heap.size+1,5,none⟩=some (.int .i64 qb)/\W.cell? ⟨w.heap.size+1,6,none⟩=some (.slice aq0 qw.length cq0)/\W.cell? ⟨w.heap.size+1,7,none⟩=some (.int .i64 tr)/\W.cell? ⟨w.heap.size+1,8,none⟩=some (.slice aw0 tw.length cw0)/\W.cell? ⟨w.heap.size+1,9,none⟩=some (.slice ah0 th.length ch0)/\W.cell? ⟨w.heap.size+1,10,none⟩=some (.slice at0 ts.length ct0)/\W.cell? ⟨w.heap.size+1,11,none⟩=some (.bool en)/\W.cell? ⟨w.heap.size+1,12,none⟩=some (.slice an0 nx.length cn0)/\W.cell? ⟨w.heap.size+1,13,none⟩=some (.string rt)/\W.cell? ⟨w9.heap.size,0,none⟩=some (.int .i64 id)/\W.cell? ⟨w9.heap.size,1,none⟩=some (.int .i64 ep)/\W.cell? ⟨w9.heap.size,2,none⟩=some (.int .i64 rd)/\W.cell? ⟨w9.heap.size,3,none⟩=some (.string md)/\W.cell? ⟨w9.heap.size,4,none⟩=some (.int .i64 qr)/\W.cell? ⟨w9.heap.size,5,none⟩=some (.int .i64 qb)/\W.cell? ⟨w9.heap.size,6,none⟩=some (.slice aq9 qw.length cq9)/\W.cell? ⟨w9.heap.size,7,none⟩=some (.int .i64 tr)/\W.cell? ⟨w9.heap.size,8,none⟩=some (.slice aw9 tw.length cw9)/\W.cell? ⟨w9.heap.size,9,none⟩=some (.slice ah9 th.length ch9)/\W.cell? ⟨w9.heap.size,10,none⟩=some (.slice at9 ts.length ct9)/\W.cell? ⟨w9.heap.size,11,none⟩=some (.bool en)/\W.cell? ⟨w9.heap.size,12,none⟩=some (.slice an9 nx.length cn9)/\W.cell? ⟨w9.heap.size,13,none⟩=some (.string rt))):=hide (fun W h1 h2=>⟨h1.cell 0,h1.cell 1,h1.cell 2,h1.cell 3,h1.cell 4,h1.cell 5,h1.cell 6,h1.cell 7,h1.cell 8,h1.cell 9,h1.cell 10,h1.cell 11,h1.cell 12,h1.cell 13,h2.cell 0,h2.cell 1,h2.cell 2,h2.cell 3,h2.cell 4,h2.cell 5,h2.cell 6,h2.cell 7,h2.cell 8,h2.cell 9,h2.cell 10,h2.cell 11,h2.cell 12,h2.cell 13⟩)
      have hS15:=HSy.out _ j2 b10
      have Kj:=hide j2
      have Kc:=hide b10
      clear j2 b10
      go_wp2
      go_region_held_law (fun w'=>w'.cell? ⟨w.heap.size+1,0,none⟩=some (.int .i64 id)/\w'.cell? ⟨w.heap.size+1,1,none⟩=some (.int .i64 ep)/\w'.cell? ⟨w.heap.size+1,2,none⟩=some (.int .i64 rd)/\w'.cell? ⟨w.heap.size+1,3,none⟩=some (.string md)/\w'.cell? ⟨w.heap.size+1,4,none⟩=some (.int .i64 qr)/\w'.cell? ⟨w.heap.size+1,5,none⟩=some (.int .i64 qb)/\w'.cell? ⟨w.heap.size+1,6,none⟩=some (.slice aq0 qw.length cq0)/\w'.cell? ⟨w.heap.size+1,7,none⟩=some (.int .i64 tr)/\w'.cell? ⟨w.heap.size+1,8,none⟩=some (.slice aw0 tw.length cw0)/\w'.cell? ⟨w.heap.size+1,9,none⟩=some (.slice ah0 th.length ch0)/\w'.cell? ⟨w.heap.size+1,10,none⟩=some (.slice at0 ts.length ct0)/\w'.cell? ⟨w.heap.size+1,11,none⟩=some (.bool en)/\w'.cell? ⟨w.heap.size+1,12,none⟩=some (.slice an0 nx.length cn0)/\w'.cell? ⟨w.heap.size+1,13,none⟩=some (.string rt)/\w'.cell? ⟨w9.heap.size,0,none⟩=some (.int .i64 id)/\w'.cell? ⟨w9.heap.size,1,none⟩=some (.int .i64 ep)/\w'.cell? ⟨w9.heap.size,2,none⟩=some (.int .i64 rd)/\w'.cell? ⟨w9.heap.size,3,none⟩=some (.string md)/\w'.cell? ⟨w9.heap.size,4,none⟩=some (.int .i64 qr)/\w'.cell? ⟨w9.heap.size,5,none⟩=some (.int .i64 qb)/\w'.cell? ⟨w9.heap.size,6,none⟩=some (.slice aq9 qw.length cq9)/\w'.cell? ⟨w9.heap.size,7,none⟩=some (.int .i64 tr)/\w'.cell? ⟨w9.heap.size,8,none⟩=some (.slice aw9 tw.length cw9)/\w'.cell? ⟨w9.heap.size,9,none⟩=some (.slice ah9 th.length ch9)/\w'.cell? ⟨w9.heap.size,10,none⟩=some (.slice at9 ts.length ct9)/\w'.cell? ⟨w9.heap.size,11,none⟩=some (.bool en)/\w'.cell? ⟨w9.heap.size,12,none⟩=some (.slice an9 nx.length cn9)/\w'.cell? ⟨w9.heap.size,13,none⟩=some (.string rt)) (first | with_reducible exact hS15 | with_reducible exact hS16 | with_reducible exact hS17) ((first
        | (go_at_call 34;refine (HEb.out _ _ _ (r9.below hb16 (Nat.le_refl _)) o16.rd).mono ?_;rintro e w17 ⟨rfl,hb17⟩;have hS17:=HSy.out _ ((Kj.out.below hb16 Kj.out.lt).below hb17 (Kj.out.below hb16 Kj.out.lt).lt) ((Kc.out.below hb16 Kc.out.lt).below hb17 (Kc.out.below hb16 Kc.out.lt).lt))
        | (go_at_call 31;refine (HTb.out _ _ (Hrb.out.below hB15d (Nat.le_refl _))).mono ?_;rintro e w16 ⟨aq16,cq16,aw16,cw16,ah16,ch16,at16,ct16,an16,cn16,rfl,o16,hb16⟩;have hS16:=HSy.out _ (Kj.out.below hb16 Kj.out.lt) (Kc.out.below hb16 Kc.out.lt))))
      have hB16:Below w.heap.size w w16:=hB15d.trans (hb16.mono hB15.size)
      have hB17:Below w.heap.size w w17:=hB16.trans (hb17.mono hB16.size)
      go_wp2
      go_ret
      exact ⟨rfl,hB17⟩
end Go.Proofs.YtcbaheffmbfofaaGreatDoor
