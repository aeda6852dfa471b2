/- The model's MakeBody. Whether a block does what it must at its place, plainly. Rows that are the same: of texts, numbers, orders and those who vote; the model's and the landed code's. -/
import Derived.Test.YtohachldbpejpaaGreatDoorZnPlFit
import Derived.Test.YtohachldbpejpaaGreatDoorZnLgNextS
import Derived.Deep.CutBlock
import Derived.Test.YtohachldbpejpaaGreatDoorZnBkTo
namespace Go.Proofs.YtohachldbpejpaaGreatDoor
open Go.RowKit
set_option linter.unusedVariables false
set_option linter.unusedSimpArgs false
end Go.Proofs.YtohachldbpejpaaGreatDoor

namespace Go.Proofs.YtohachldbpejpaaGreatDoor
open Go.RowKit
set_option linter.unusedVariables false
def boR (b:Bk) (R:Bd × Bool):Bool:=R.2 && (decide (b.ts=R.1.ts) && (decide (b.en=R.1.en) && (decide (b.nx=R.1.nx) && decide (b.rt=R.1.rt))))
def boB (e:Int) (z:List Ac) (l:List Bk) (b:Bk):Bool:=boR b (bdA e z l b.qb b.ts b.ts.length)
theorem boB_no {e:Int} {z:List Ac} {l:List Bk} {b:Bk} (h:¬ thB l b.qb=true):boB e z l b=false:=by
  unfold boB bdA boR
  rw [if_neg (fun k=>h ((thB_is l b.qb).2 k))]
  rfl
theorem boB_there {e:Int} {z:List Ac} {l:List Bk} {b:Bk} (h:thB l b.qb=true):boB e z l b=boR b (bdC e z l (chA l b.qb) b.ts b.ts.length,true):=by
  have h2:=(thB_is l b.qb).1 h
  have h3:chT l b.qb=chA l b.qb:=by unfold chT;rw [if_pos h2.1]
  unfold boB bdA
  rw [if_pos h2,h3]
theorem boB_end {e:Int} {z:List Ac} {l:List Bk} {b:Bk} (h:thB l b.qb=true) (ha:(chA l b.qb).any (enAt l)=true) :
    boB e z l b=(decide (b.ts=[]) && (decide (b.en=false) && (decide (b.nx=[]) && decide (b.rt={ data:=#[] })))):=by
  rw [boB_there h]
  unfold boR bdC
  rw [if_pos ha]
  rfl
theorem boB_bad {e:Int} {z:List Ac} {l:List Bk} {b:Bk} (h:thB l b.qb=true) (ha:¬ (chA l b.qb).any (enAt l)=true) (hn:(alA e (foL e z l (chA l b.qb)) b.ts).2 ≠ b.ts.length):boB e z l b=false:=by
  have hs:=gd_same e (foL e z l (chA l b.qb)) b.ts
  have hd:decide (b.ts=(gdA e (foL e z l (chA l b.qb)) b.ts b.ts.length).2)=false:=decide_eq_false (fun k=>hn (hs.1.1 k.symm))
  rw [boB_there h]
  obtain ⟨q1,q2⟩:=bdC_x (e:=e) (z:=z) (l:=l) (C:=chA l b.qb) (ts:=b.ts) (most:=b.ts.length) ha
  unfold boR
  by_cases hc:(chA l b.qb).length=1
  · rw [q1 hc]
    simp only [hd,Bool.false_and,Bool.and_false]
  · rw [q2 hc]
    simp only [hd,Bool.false_and,Bool.and_false]
theorem boB_mid {e:Int} {z:List Ac} {l:List Bk} {b:Bk} (h:thB l b.qb=true) (ha:¬ (chA l b.qb).any (enAt l)=true) (hn:(alA e (foL e z l (chA l b.qb)) b.ts).2=b.ts.length) (hc:¬ (chA l b.qb).length=1) :
    boB e z l b=(decide (b.en=false) && (decide (b.nx=[]) && decide (b.rt={ data:=#[] }))):=by
  have hs:=gd_same e (foL e z l (chA l b.qb)) b.ts
  rw [boB_there h]
  unfold boR
  rw [(bdC_x (e:=e) (z:=z) (l:=l) (C:=chA l b.qb) (ts:=b.ts) (most:=b.ts.length) ha).2 hc]
  simp only [hs.1.2 hn,decide_true,Bool.true_and]
theorem boB_last {e:Int} {z:List Ac} {l:List Bk} {b:Bk} (h:thB l b.qb=true) (ha:¬ (chA l b.qb).any (enAt l)=true) (hn:(alA e (foL e z l (chA l b.qb)) b.ts).2=b.ts.length) (hc:(chA l b.qb).length=1) :
    boB e z l b=(decide (b.en=true) && (decide (b.nx=setA (neA e (alA e (foL e z l (chA l b.qb)) b.ts).1).1 (neA e (alA e (foL e z l (chA l b.qb)) b.ts).1).2) && decide (b.rt=srB (neA e (alA e (foL e z l (chA l b.qb)) b.ts).1).1 (neA e (alA e (foL e z l (chA l b.qb)) b.ts).1).2))):=by
  have hs:=gd_same e (foL e z l (chA l b.qb)) b.ts
  rw [boB_there h]
  unfold boR
  rw [(bdC_x (e:=e) (z:=z) (l:=l) (C:=chA l b.qb) (ts:=b.ts) (most:=b.ts.length) ha).1 hc]
  simp only [hs.1.2 hn,hs.2,decide_true,Bool.true_and]
end Go.Proofs.YtohachldbpejpaaGreatDoor

namespace Go.Proofs.YtohachldbpejpaaGreatDoor
open Go.RowKit
set_option linter.unusedVariables false
set_option maxRecDepth 20000 in
set_option maxHeartbeats 2000000 in
theorem specSameV_any (v1 v2:Value) (l1 l2:List Vl) (w:World) (hr1:RdV w v1 l1) (hr2:RdV w v2 l2) (hl1:l1.length<=4000000) (hl2:l2.length<=4000000) :
    Calls Tryz.prog 84 #[v1,v2] w fun e w'=>e=.returned (.bool (decide (l1=l2)))/\Sm w w':=by
  by_cases hne:l1.length=l2.length
  · rcases hr1 with ⟨a,cap,rfl,rfl,-⟩ | ⟨b,off,cap,h0,rfl,h1,h2,h3,h4⟩
    · have e2:l2=[]:=List.length_eq_zero_iff.1 (by simpa using hne.symm)
      subst e2
      obtain ⟨a2,cap2,rfl⟩:=hr2.shape
      clear hr2
      go_enter Tryz.func84,Tryz.ntmps84
      go_wp2
      refine wp_loop_rounds 1 ?_
      rw [rounds_succ]
      go_wp2
      go_ret
      exact ⟨rfl,Sm.refl _⟩
    · rcases hr2 with ⟨a2,cap2,rfl,rfl,-⟩ | ⟨b2,off2,cap2,g0,rfl,g1,g2,g3,g4⟩
      · exact absurd (List.length_eq_zero_iff.1 (by simpa using hne)) h0
      · have hlen:((l1.length:Int) != (l2.length:Int))=false:=by rw [hne];simp
        have hle:l1.length<=l2.length:=by omega
        have hge:l2.length<=l1.length:=by omega
        have H4:=hide h4
        have G4:=hide g4
        clear hne h4 g4
        go_enter Tryz.func84,Tryz.ntmps84
        go_wp2
        go_loopw [5] (fun i wr=>∃ k:Nat,k<=l1.length/\i=.int .i64 k/\l1.take k=l2.take k/\Sm w wr) (fun i _=>l1.length - (intOf i).toNat)
        case atStart=>exact ⟨0,Nat.zero_le _,rfl,rfl,Sm.refl _⟩
        case round =>
          obtain ⟨k,hk,rfl,ht,hs⟩:=hrel
          have Ht:=hide ht
          clear ht
          by_cases hlt:k < l1.length
          · have hlt2:k < l2.length:=by omega
            obtain ⟨c0,c1⟩:=H4.out k hlt
            obtain ⟨d0,d1⟩:=G4.out k hlt2
            replace c0:=(hs.cell ⟨b,off+k * 2,none⟩).trans c0
            replace d0:=(hs.cell ⟨b2,off2+k * 2,none⟩).trans d0
            replace c1:=(hs.cell ⟨b,off+k * 2+1,none⟩).trans c1
            replace d1:=(hs.cell ⟨b2,off2+k * 2+1,none⟩).trans d1
            have hli:(k:Int) < (l1.length:Int):=by omega
            have hli2:(k:Int) < (l2.length:Int):=by omega
            have Hnx:Hid (l1[k]=l2[k]->l1.take (k+1)=l2.take (k+1)):=hide (fun he=>take_eq_snoc hlt hlt2 Ht.out he)
            have Hno:Hid (l1[k] ≠ l2[k]->decide (l1=l2)=false):=hide (fun he=>by rw [decide_eq_false];intro e;subst e;exact he rfl)
            generalize l1[k]=p at c0 c1 Hnx Hno
            generalize l2[k]=q at d0 d1 Hnx Hno
            obtain ⟨x0,x1⟩:=p
            obtain ⟨y0,y1⟩:=q
            simp only at c0 d0 c1 d1
            by_cases e0:x0=y0
            · subst e0
              by_cases e1:x1=y1
              · subst e1
                have Hn2:=hide (Hnx.out rfl)
                clear Hno Hnx
                go_wp2
                go_quiet (fail)
                go_wp2
                go_roundw
                case rel=>exact ⟨k+1,by omega,by go_num,Hn2.out,hs.drewN _⟩
                case measure=>simp [intOf];omega
              · have Hno:=hide (Hno.out (by intro h;simp only [Prod.mk.injEq] at h;exact e1 h.2))
                have hq:=int_ne e1
                have hq2:(x1 == y1)=false:=by rw [beq_eq_false_iff_ne];exact e1
                clear e1 Hnx
                go_wp2
                go_quiet (fail)
                go_wp2
                go_ret
                exact ⟨ret_bool Hno.out.symm,hs.drewN _⟩
            · have Hno:=hide (Hno.out (by intro h;simp only [Prod.mk.injEq] at h;exact e0 h.1))
              have hq:=bytes_ne e0
              clear e0 Hnx
              go_wp2
              go_quiet (fail)
              go_wp2
              go_ret
              exact ⟨ret_bool Hno.out.symm,hs.drewN _⟩
          · have hf:Hid (decide (l1=l2)=true):=hide (by
              rw [decide_eq_true]
              have:=Ht.out
              rwa [List.take_of_length_le (by omega),List.take_of_length_le (by omega)] at this)
            go_wp2
            go_ret
            exact ⟨ret_bool hf.out.symm,hs⟩
  · obtain ⟨a,cap,rfl⟩:=hr1.shape
    obtain ⟨a2,cap2,rfl⟩:=hr2.shape
    clear hr1 hr2
    have hlen:((l1.length:Int) != (l2.length:Int))=true:=by rw [bne_iff_ne];omega
    have hf:Hid (decide (l1=l2)=false):=hide (by rw [decide_eq_false];intro e;subst e;exact hne rfl)
    clear hne
    go_enter Tryz.func84,Tryz.ntmps84
    go_wp2
    go_ret
    exact ⟨ret_bool hf.out.symm,Sm.refl _⟩
set_option maxRecDepth 20000 in
set_option maxHeartbeats 2000000 in
theorem equalT_any (v1 v2:Value) (l1 l2:List Tx5) (w:World) (hr1:RdT w v1 l1) (hr2:RdT w v2 l2) (hl1:l1.length<=4000000) (hl2:l2.length<=4000000) :
    Calls Tryz.prog 63 #[v1,v2] w fun e w'=>e=.returned (.bool (decide (l1=l2)))/\Sm w w':=by
  by_cases hne:l1.length=l2.length
  · rcases hr1 with ⟨a,cap,rfl,rfl,-⟩ | ⟨b,off,cap,h0,rfl,h1,h2,h3,h4⟩
    · have e2:l2=[]:=List.length_eq_zero_iff.1 (by simpa using hne.symm)
      subst e2
      obtain ⟨a2,cap2,rfl⟩:=hr2.shape
      clear hr2
      go_enter Tryz.func63,Tryz.ntmps63
      go_wp2
      refine wp_loop_rounds 1 ?_
      rw [rounds_succ]
      go_wp2
      go_ret
      exact ⟨rfl,Sm.refl _⟩
    · rcases hr2 with ⟨a2,cap2,rfl,rfl,-⟩ | ⟨b2,off2,cap2,g0,rfl,g1,g2,g3,g4⟩
      · exact absurd (List.length_eq_zero_iff.1 (by simpa using hne)) h0
      · have hlen : ((l1.length:Int) != (l2.length:Int))=false:=by rw [hne];simp
        have hle:l1.length<=l2.length:=by omega
        have hge:l2.length<=l1.length:=by omega
        have H4:=hide h4
        have G4:=hide g4
        clear hne h4 g4
        go_enter Tryz.func63,Tryz.ntmps63
        go_wp2
        go_loopw [13] (fun i wr=>∃ k:Nat,k<=l1.length/\i=.int .i64 k/\l1.take k=l2.take k/\Sm w wr) (fun i _=>l1.length - (intOf i).toNat)
        case atStart=>exact ⟨0,Nat.zero_le _,rfl,rfl,Sm.refl _⟩
        case round =>
          obtain ⟨k,hk,rfl,ht,hs⟩:=hrel
          have Ht:=hide ht
          clear ht
          by_cases hlt:k < l1.length
          · have hlt2 : k < l2.length:=by omega
            obtain ⟨c0,c1,c2,c3,c4⟩:=H4.out k hlt
            obtain ⟨d0,d1,d2,d3,d4⟩:=G4.out k hlt2
            replace c0:=(hs.cell ⟨b,off+k * 5,none⟩).trans c0
            replace d0:=(hs.cell ⟨b2,off2+k * 5,none⟩).trans d0
            replace c1:=(hs.cell ⟨b,off+k * 5+1,none⟩).trans c1
            replace d1:=(hs.cell ⟨b2,off2+k * 5+1,none⟩).trans d1
            replace c2:=(hs.cell ⟨b,off+k * 5+2,none⟩).trans c2
            replace d2:=(hs.cell ⟨b2,off2+k * 5+2,none⟩).trans d2
            replace c3:=(hs.cell ⟨b,off+k * 5+3,none⟩).trans c3
            replace d3:=(hs.cell ⟨b2,off2+k * 5+3,none⟩).trans d3
            replace c4:=(hs.cell ⟨b,off+k * 5+4,none⟩).trans c4
            replace d4:=(hs.cell ⟨b2,off2+k * 5+4,none⟩).trans d4
            have hli:(k:Int) < (l1.length:Int):=by omega
            have hli2:(k:Int) < (l2.length:Int):=by omega
            have Hnx:Hid (l1[k]=l2[k]->l1.take (k+1)=l2.take (k+1)):=hide (fun he=>take_eq_snoc hlt hlt2 Ht.out he)
            have Hno:Hid (l1[k] ≠ l2[k]->decide (l1=l2)=false):=hide (fun he=>by rw [decide_eq_false];intro e;subst e;exact he rfl)
            generalize l1[k]=p at c0 c1 c2 c3 c4 Hnx Hno
            generalize l2[k]=q at d0 d1 d2 d3 d4 Hnx Hno
            obtain ⟨x0,x1,x2,x3,x4⟩:=p
            obtain ⟨y0,y1,y2,y3,y4⟩:=q
            simp only at c0 d0 c1 d1 c2 d2 c3 d3 c4 d4
            by_cases e0:x0=y0
            · subst e0
              by_cases e1:x1=y1
              · subst e1
                by_cases e2:x2=y2
                · subst e2
                  by_cases e3:x3=y3
                  · subst e3
                    by_cases e4:x4=y4
                    · subst e4
                      have Hn2:=hide (Hnx.out rfl)
                      clear Hno Hnx
                      go_wp2
                      go_quiet (fail)
                      go_wp2
                      go_roundw
                      case rel=>exact ⟨k+1,by omega,by go_num,Hn2.out,hs.drewN _⟩
                      case measure=>simp [intOf];omega
                    · have Hno:=hide (Hno.out (by intro h;simp only [Prod.mk.injEq] at h;exact e4 h.2.2.2.2))
                      have hq:=int_ne e4
                      have hq2:(x4 == y4)=false:=by rw [beq_eq_false_iff_ne];exact e4
                      clear e4 Hnx
                      go_wp2
                      go_quiet (fail)
                      go_wp2
                      go_ret
                      exact ⟨ret_bool Hno.out.symm,hs.drewN _⟩
                  · have Hno:=hide (Hno.out (by intro h;simp only [Prod.mk.injEq] at h;exact e3 h.2.2.2.1))
                    have hq:=int_ne e3
                    have hq2:(x3 == y3)=false:=by rw [beq_eq_false_iff_ne];exact e3
                    clear e3 Hnx
                    go_wp2
                    go_quiet (fail)
                    go_wp2
                    go_ret
                    exact ⟨ret_bool Hno.out.symm,hs.drewN _⟩
                · have Hno:=hide (Hno.out (by intro h;simp only [Prod.mk.injEq] at h;exact e2 h.2.2.1))
                  have hq:=bytes_ne e2
                  clear e2 Hnx
                  go_wp2
                  go_quiet (fail)
                  go_wp2
                  go_ret
                  exact ⟨ret_bool Hno.out.symm,hs.drewN _⟩
              · have Hno:=hide (Hno.out (by intro h;simp only [Prod.mk.injEq] at h;exact e1 h.2.1))
                have hq:=bytes_ne e1
                clear e1 Hnx
                go_wp2
                go_quiet (fail)
                go_wp2
                go_ret
                exact ⟨ret_bool Hno.out.symm,hs.drewN _⟩
            · have Hno:=hide (Hno.out (by intro h;simp only [Prod.mk.injEq] at h;exact e0 h.1))
              have hq:=int_ne e0
              have hq2:(x0 == y0)=false:=by rw [beq_eq_false_iff_ne];exact e0
              clear e0 Hnx
              go_wp2
              go_quiet (fail)
              go_wp2
              go_ret
              exact ⟨ret_bool Hno.out.symm,hs.drewN _⟩
          · have hf:Hid (decide (l1=l2)=true):=hide (by
              rw [decide_eq_true]
              have:=Ht.out
              rwa [List.take_of_length_le (by omega),List.take_of_length_le (by omega)] at this)
            go_wp2
            go_ret
            exact ⟨ret_bool hf.out.symm,hs⟩
  · obtain ⟨a,cap,rfl⟩:=hr1.shape
    obtain ⟨a2,cap2,rfl⟩:=hr2.shape
    clear hr1 hr2
    have hlen:((l1.length:Int) != (l2.length:Int))=true:=by rw [bne_iff_ne];omega
    have hf:Hid (decide (l1=l2)=false):=hide (by rw [decide_eq_false];intro e;subst e;exact hne rfl)
    clear hne
    go_enter Tryz.func63,Tryz.ntmps63
    go_wp2
    go_ret
    exact ⟨ret_bool hf.out.symm,Sm.refl _⟩
set_option maxRecDepth 20000 in
set_option maxHeartbeats 2000000 in
theorem equalV_any (v1 v2:Value) (l1 l2:List Vl) (w:World) (hr1:RdV w v1 l1) (hr2:RdV w v2 l2) (hl1:l1.length<=4000000) (hl2:l2.length<=4000000) :
    Calls Tryz.prog 64 #[v1,v2] w fun e w'=>e=.returned (.bool (decide (l1=l2)))/\Sm w w':=by
  by_cases hne:l1.length=l2.length
  · rcases hr1 with ⟨a,cap,rfl,rfl,-⟩ | ⟨b,off,cap,h0,rfl,h1,h2,h3,h4⟩
    · have e2:l2=[]:=List.length_eq_zero_iff.1 (by simpa using hne.symm)
      subst e2
      obtain ⟨a2,cap2,rfl⟩:=hr2.shape
      clear hr2
      go_enter Tryz.func64,Tryz.ntmps64
      go_wp2
      refine wp_loop_rounds 1 ?_
      rw [rounds_succ]
      go_wp2
      go_ret
      exact ⟨rfl,Sm.refl _⟩
    · rcases hr2 with ⟨a2,cap2,rfl,rfl,-⟩ | ⟨b2,off2,cap2,g0,rfl,g1,g2,g3,g4⟩
      · exact absurd (List.length_eq_zero_iff.1 (by simpa using hne)) h0
      · have hlen:((l1.length:Int) != (l2.length:Int))=false:=by rw [hne];simp
        have hle:l1.length<=l2.length:=by omega
        have hge:l2.length<=l1.length:=by omega
        have H4:=hide h4
        have G4:=hide g4
        clear hne h4 g4
        go_enter Tryz.func64,Tryz.ntmps64
        go_wp2
        go_loopw [13] (fun i wr=>∃ k:Nat,k<=l1.length/\i=.int .i64 k/\l1.take k=l2.take k/\Sm w wr) (fun i _=>l1.length - (intOf i).toNat)
        case atStart=>exact ⟨0,Nat.zero_le _,rfl,rfl,Sm.refl _⟩
        case round =>
          obtain ⟨k,hk,rfl,ht,hs⟩:=hrel
          have Ht:=hide ht
          clear ht
          by_cases hlt:k < l1.length
          · have hlt2:k < l2.length:=by omega
            obtain ⟨c0,c1⟩:=H4.out k hlt
            obtain ⟨d0,d1⟩:=G4.out k hlt2
            replace c0:=(hs.cell ⟨b,off+k * 2,none⟩).trans c0
            replace d0:=(hs.cell ⟨b2,off2+k * 2,none⟩).trans d0
            replace c1:=(hs.cell ⟨b,off+k * 2+1,none⟩).trans c1
            replace d1:=(hs.cell ⟨b2,off2+k * 2+1,none⟩).trans d1
            have hli:(k:Int) < (l1.length:Int):=by omega
            have hli2:(k:Int) < (l2.length:Int):=by omega
            have Hnx:Hid (l1[k]=l2[k]->l1.take (k+1)=l2.take (k+1)):=hide (fun he=>take_eq_snoc hlt hlt2 Ht.out he)
            have Hno:Hid (l1[k] ≠ l2[k]->decide (l1=l2)=false):=hide (fun he=>by rw [decide_eq_false];intro e;subst e;exact he rfl)
            generalize l1[k]=p at c0 c1 Hnx Hno
            generalize l2[k]=q at d0 d1 Hnx Hno
            obtain ⟨x0,x1⟩:=p
            obtain ⟨y0,y1⟩:=q
            simp only at c0 d0 c1 d1
            by_cases e0:x0=y0
            · subst e0
              by_cases e1:x1=y1
              · subst e1
                have Hn2:=hide (Hnx.out rfl)
                clear Hno Hnx
                go_wp2
                go_quiet (fail)
                go_wp2
                go_roundw
                case rel=>exact ⟨k+1,by omega,by go_num,Hn2.out,hs.drewN _⟩
                case measure=>simp [intOf];omega
              · have Hno:=hide (Hno.out (by intro h;simp only [Prod.mk.injEq] at h;exact e1 h.2))
                have hq:=int_ne e1
                have hq2:(x1 == y1)=false:=by rw [beq_eq_false_iff_ne];exact e1
                clear e1 Hnx
                go_wp2
                go_quiet (fail)
                go_wp2
                go_ret
                exact ⟨ret_bool Hno.out.symm,hs.drewN _⟩
            · have Hno:=hide (Hno.out (by intro h;simp only [Prod.mk.injEq] at h;exact e0 h.1))
              have hq:=bytes_ne e0
              clear e0 Hnx
              go_wp2
              go_quiet (fail)
              go_wp2
              go_ret
              exact ⟨ret_bool Hno.out.symm,hs.drewN _⟩
          · have hf:Hid (decide (l1=l2)=true):=hide (by
              rw [decide_eq_true]
              have:=Ht.out
              rwa [List.take_of_length_le (by omega),List.take_of_length_le (by omega)] at this)
            go_wp2
            go_ret
            exact ⟨ret_bool hf.out.symm,hs⟩
  · obtain ⟨a,cap,rfl⟩:=hr1.shape
    obtain ⟨a2,cap2,rfl⟩:=hr2.shape
    clear hr1 hr2
    have hlen:((l1.length:Int) != (l2.length:Int))=true:=by rw [bne_iff_ne];omega
    have hf:Hid (decide (l1=l2)=false):=hide (by rw [decide_eq_false];intro e;subst e;exact hne rfl)
    clear hne
    go_enter Tryz.func64,Tryz.ntmps64
    go_wp2
    go_ret
    exact ⟨ret_bool hf.out.symm,Sm.refl _⟩
end Go.Proofs.YtohachldbpejpaaGreatDoor
