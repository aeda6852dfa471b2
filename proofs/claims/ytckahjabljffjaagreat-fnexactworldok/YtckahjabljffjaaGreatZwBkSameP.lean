/- Which blocks are the same, plainly. -/
import Derived.Test.YtckahjabljffjaaGreatZwBkTo
set_option maxRecDepth 20000
set_option maxHeartbeats 2000000
namespace Go.Proofs.YtckahjabljffjaaGreat
open Go.RowKit
set_option linter.unusedVariables false
theorem specSameS_any (v1 v2:Value) (l1 l2:List ByteArray) (w:World) (hr1:RdS w v1 l1) (hr2:RdS w v2 l2) (hl1:l1.length<=4000000) (hl2:l2.length<=4000000) :
    Calls Tryz.prog 199 #[v1,v2] w fun e w'=>e=.returned (.bool (decide (l1=l2)))/\Sm w w':=by
  by_cases hne:l1.length=l2.length
  · rcases hr1 with ⟨a,cap,rfl,rfl,-⟩ | ⟨b,off,cap,h0,rfl,h1,h2,h3,h4⟩
    · have e2:l2=[]:=List.length_eq_zero_iff.1 (by simpa using hne.symm)
      subst e2
      obtain ⟨a2,cap2,rfl⟩:=hr2.shape
      clear hr2
      go_enter Tryz.func199,Tryz.ntmps199
      go_wp2
      refine wp_loop_rounds 1 ?_
      rw [rounds_succ]
      go_wp2
      go_ret
      exact ⟨rfl,Sm.refl _⟩
    · rcases hr2 with ⟨a2,cap2,rfl,rfl,-⟩ | ⟨b2,off2,cap2,g0,rfl,g1,g2,g3,g4⟩
      · exact absurd (List.length_eq_zero_iff.1 (by simpa using hne)) h0
      · have Hne:=hide hne
        have hlen:((l1.length:Int) != (l2.length:Int))=false:=by rw [hne];simp
        have hle:l1.length<=l2.length:=by omega
        have hge:l2.length<=l1.length:=by omega
        have H4:=hide h4
        have G4:=hide g4
        clear hne h4 g4
        go_enter Tryz.func199,Tryz.ntmps199
        go_wp2
        go_loopw [5] (fun i wr=>∃ k:Nat,k<=l1.length/\i=.int .i64 k/\l1.take k=l2.take k/\Sm w wr) (fun i _=>l1.length - (intOf i).toNat)
        case atStart=>exact ⟨0,Nat.zero_le _,rfl,rfl,Sm.refl _⟩
        case round =>
          obtain ⟨k,hk,rfl,ht,hs⟩:=hrel
          have Ht:=hide ht
          clear ht
          by_cases hlt:k < l1.length
          · have hlt2:k < l2.length:=by omega
            have hc1:wr.cell? ⟨b,off+k,none⟩=some (.string l1[k]):=(hs.cell _).trans (H4.out k hlt)
            have hc2:wr.cell? ⟨b2,off2+k,none⟩=some (.string l2[k]):=(hs.cell _).trans (G4.out k hlt2)
            have hli:(k:Int) < (l1.length:Int):=by omega
            have hli2:(k:Int) < (l2.length:Int):=by omega
            by_cases he:l1[k]=l2[k]
            · have Hnx:=hide (take_eq_snoc hlt hlt2 Ht.out he)
              rw [<- he] at hc2
              clear he
              generalize l1[k]=s1 at hc1 hc2
              go_wp2
              go_quiet (fail)
              go_wp2
              go_roundw
              case rel=>exact ⟨k+1,by omega,by go_num,Hnx.out,hs.drewN _⟩
              case measure=>simp [intOf];omega
            · have hf:Hid (decide (l1=l2)=false):=hide (by rw [decide_eq_false];intro e;subst e;exact he rfl)
              have hq:=bytes_ne he
              clear he
              generalize l1[k]=s1 at hc1 hq
              generalize l2[k]=s2 at hc2 hq
              go_wp2
              go_quiet (fail)
              go_wp2
              go_ret
              exact ⟨ret_bool hf.out.symm,hs.drewN _⟩
          · have hf:Hid (decide (l1=l2)=true):=hide (by
              rw [decide_eq_true]
              have:=Ht.out
              rwa [List.take_of_length_le (by omega),List.take_of_length_le (by omega)] at this)
            go_wp2
            go_ret
            exact ⟨ret_bool hf.out.symm,hs⟩
  · obtain ⟨a,cap,rfl⟩:=hr1.shape
    obtain ⟨a2,cap2,rfl⟩:=hr2.shape
    clear hr1 hr2
    have hlen:((l1.length:Int) != (l2.length:Int))=true:=by rw [bne_iff_ne];omega
    have hf:Hid (decide (l1=l2)=false):=hide (by rw [decide_eq_false];intro e;subst e;exact hne rfl)
    clear hne
    go_enter Tryz.func199,Tryz.ntmps199
    go_wp2
    go_ret
    exact ⟨ret_bool hf.out.symm,Sm.refl _⟩
theorem equalS_any (v1 v2:Value) (l1 l2:List ByteArray) (w:World) (hr1:RdS w v1 l1) (hr2:RdS w v2 l2) (hl1:l1.length<=4000000) (hl2:l2.length<=4000000) :
    Calls Tryz.prog 240 #[v1,v2] w fun e w'=>e=.returned (.bool (decide (l1=l2)))/\Sm w w':=by
  by_cases hne:l1.length=l2.length
  · rcases hr1 with ⟨a,cap,rfl,rfl,-⟩ | ⟨b,off,cap,h0,rfl,h1,h2,h3,h4⟩
    · have e2:l2=[]:=List.length_eq_zero_iff.1 (by simpa using hne.symm)
      subst e2
      obtain ⟨a2,cap2,rfl⟩:=hr2.shape
      clear hr2
      go_enter Tryz.func240,Tryz.ntmps240
      go_wp2
      refine wp_loop_rounds 1 ?_
      rw [rounds_succ]
      go_wp2
      go_ret
      exact ⟨rfl,Sm.refl _⟩
    · rcases hr2 with ⟨a2,cap2,rfl,rfl,-⟩ | ⟨b2,off2,cap2,g0,rfl,g1,g2,g3,g4⟩
      · exact absurd (List.length_eq_zero_iff.1 (by simpa using hne)) h0
      · have Hne:=hide hne
        have hlen:((l1.length:Int) != (l2.length:Int))=false:=by rw [hne];simp
        have hle:l1.length<=l2.length:=by omega
        have hge:l2.length<=l1.length:=by omega
        have H4:=hide h4
        have G4:=hide g4
        clear hne h4 g4
        go_enter Tryz.func240,Tryz.ntmps240
        go_wp2
        go_loopw [13] (fun i wr=>∃ k:Nat,k<=l1.length/\i=.int .i64 k/\l1.take k=l2.take k/\Sm w wr) (fun i _=>l1.length - (intOf i).toNat)
        case atStart=>exact ⟨0,Nat.zero_le _,rfl,rfl,Sm.refl _⟩
        case round =>
          obtain ⟨k,hk,rfl,ht,hs⟩:=hrel
          have Ht:=hide ht
          clear ht
          by_cases hlt:k < l1.length
          · have hlt2:k < l2.length:=by omega
            have hc1:wr.cell? ⟨b,off+k,none⟩=some (.string l1[k]):=(hs.cell _).trans (H4.out k hlt)
            have hc2:wr.cell? ⟨b2,off2+k,none⟩=some (.string l2[k]):=(hs.cell _).trans (G4.out k hlt2)
            have hli:(k:Int) < (l1.length:Int):=by omega
            have hli2:(k:Int) < (l2.length:Int):=by omega
            by_cases he:l1[k]=l2[k]
            · have Hnx:=hide (take_eq_snoc hlt hlt2 Ht.out he)
              rw [<- he] at hc2
              clear he
              generalize l1[k]=s1 at hc1 hc2
              go_wp2
              go_quiet (fail)
              go_wp2
              go_roundw
              case rel=>exact ⟨k+1,by omega,by go_num,Hnx.out,hs.drewN _⟩
              case measure=>simp [intOf];omega
            · have hf:Hid (decide (l1=l2)=false):=hide (by rw [decide_eq_false];intro e;subst e;exact he rfl)
              have hq:=bytes_ne he
              clear he
              generalize l1[k]=s1 at hc1 hq
              generalize l2[k]=s2 at hc2 hq
              go_wp2
              go_quiet (fail)
              go_wp2
              go_ret
              exact ⟨ret_bool hf.out.symm,hs.drewN _⟩
          · have hf:Hid (decide (l1=l2)=true):=hide (by
              rw [decide_eq_true]
              have:=Ht.out
              rwa [List.take_of_length_le (by omega),List.take_of_length_le (by omega)] at this)
            go_wp2
            go_ret
            exact ⟨ret_bool hf.out.symm,hs⟩
  · obtain ⟨a,cap,rfl⟩:=hr1.shape
    obtain ⟨a2,cap2,rfl⟩:=hr2.shape
    clear hr1 hr2
    have hlen:((l1.length:Int) != (l2.length:Int))=true:=by rw [bne_iff_ne];omega
    have hf:Hid (decide (l1=l2)=false):=hide (by rw [decide_eq_false];intro e;subst e;exact hne rfl)
    clear hne
    go_enter Tryz.func240,Tryz.ntmps240
    go_wp2
    go_ret
    exact ⟨ret_bool hf.out.symm,Sm.refl _⟩
theorem equalI_any (v1 v2:Value) (l1 l2:List Int) (w:World) (hr1:RdI w v1 l1) (hr2:RdI w v2 l2) (hl1:l1.length<=4000000) (hl2:l2.length<=4000000) :
    Calls Tryz.prog 241 #[v1,v2] w fun e w'=>e=.returned (.bool (decide (l1=l2)))/\Sm w w':=by
  by_cases hne:l1.length=l2.length
  · rcases hr1 with ⟨a,cap,rfl,rfl,-⟩ | ⟨b,off,cap,h0,rfl,h1,h2,h3,h4⟩
    · have e2:l2=[]:=List.length_eq_zero_iff.1 (by simpa using hne.symm)
      subst e2
      obtain ⟨a2,cap2,rfl⟩:=hr2.shape
      clear hr2
      go_enter Tryz.func241,Tryz.ntmps241
      go_wp2
      refine wp_loop_rounds 1 ?_
      rw [rounds_succ]
      go_wp2
      go_ret
      exact ⟨rfl,Sm.refl _⟩
    · rcases hr2 with ⟨a2,cap2,rfl,rfl,-⟩ | ⟨b2,off2,cap2,g0,rfl,g1,g2,g3,g4⟩
      · exact absurd (List.length_eq_zero_iff.1 (by simpa using hne)) h0
      · have Hne:=hide hne
        have hlen:((l1.length:Int) != (l2.length:Int))=false:=by rw [hne];simp
        have hle:l1.length<=l2.length:=by omega
        have hge:l2.length<=l1.length:=by omega
        have H4:=hide h4
        have G4:=hide g4
        clear hne h4 g4
        go_enter Tryz.func241,Tryz.ntmps241
        go_wp2
        go_loopw [13] (fun i wr=>∃ k:Nat,k<=l1.length/\i=.int .i64 k/\l1.take k=l2.take k/\Sm w wr) (fun i _=>l1.length - (intOf i).toNat)
        case atStart=>exact ⟨0,Nat.zero_le _,rfl,rfl,Sm.refl _⟩
        case round =>
          obtain ⟨k,hk,rfl,ht,hs⟩:=hrel
          have Ht:=hide ht
          clear ht
          by_cases hlt:k < l1.length
          · have hlt2:k < l2.length:=by omega
            have hc1:wr.cell? ⟨b,off+k,none⟩=some (.int .i64 l1[k]):=(hs.cell _).trans (H4.out k hlt)
            have hc2:wr.cell? ⟨b2,off2+k,none⟩=some (.int .i64 l2[k]):=(hs.cell _).trans (G4.out k hlt2)
            have hli:(k:Int) < (l1.length:Int):=by omega
            have hli2:(k:Int) < (l2.length:Int):=by omega
            by_cases he:l1[k]=l2[k]
            · have Hnx:=hide (take_eq_snoc hlt hlt2 Ht.out he)
              rw [<- he] at hc2
              clear he
              generalize l1[k]=s1 at hc1 hc2
              go_wp2
              go_quiet (fail)
              go_wp2
              go_roundw
              case rel=>exact ⟨k+1,by omega,by go_num,Hnx.out,hs.drewN _⟩
              case measure=>simp [intOf];omega
            · have hf:Hid (decide (l1=l2)=false):=hide (by rw [decide_eq_false];intro e;subst e;exact he rfl)
              have hq:=int_ne he
              clear he
              generalize l1[k]=s1 at hc1 hq
              generalize l2[k]=s2 at hc2 hq
              go_wp2
              go_quiet (fail)
              go_wp2
              go_ret
              exact ⟨ret_bool hf.out.symm,hs.drewN _⟩
          · have hf:Hid (decide (l1=l2)=true):=hide (by
              rw [decide_eq_true]
              have:=Ht.out
              rwa [List.take_of_length_le (by omega),List.take_of_length_le (by omega)] at this)
            go_wp2
            go_ret
            exact ⟨ret_bool hf.out.symm,hs⟩
  · obtain ⟨a,cap,rfl⟩:=hr1.shape
    obtain ⟨a2,cap2,rfl⟩:=hr2.shape
    clear hr1 hr2
    have hlen:((l1.length:Int) != (l2.length:Int))=true:=by rw [bne_iff_ne];omega
    have hf:Hid (decide (l1=l2)=false):=hide (by rw [decide_eq_false];intro e;subst e;exact hne rfl)
    clear hne
    go_enter Tryz.func241,Tryz.ntmps241
    go_wp2
    go_ret
    exact ⟨ret_bool hf.out.symm,Sm.refl _⟩
theorem specSameT_any (v1 v2:Value) (l1 l2:List Tx5) (w:World) (hr1:RdT w v1 l1) (hr2:RdT w v2 l2) (hl1:l1.length<=4000000) (hl2:l2.length<=4000000) :
    Calls Tryz.prog 157 #[v1,v2] w fun e w'=>e=.returned (.bool (decide (l1=l2)))/\Sm w w':=by
  by_cases hne:l1.length=l2.length
  · rcases hr1 with ⟨a,cap,rfl,rfl,-⟩ | ⟨b,off,cap,h0,rfl,h1,h2,h3,h4⟩
    · have e2:l2=[]:=List.length_eq_zero_iff.1 (by simpa using hne.symm)
      subst e2
      obtain ⟨a2,cap2,rfl⟩:=hr2.shape
      clear hr2
      go_enter Tryz.func157,Tryz.ntmps157
      go_wp2
      refine wp_loop_rounds 1 ?_
      rw [rounds_succ]
      go_wp2
      go_ret
      exact ⟨rfl,Sm.refl _⟩
    · rcases hr2 with ⟨a2,cap2,rfl,rfl,-⟩ | ⟨b2,off2,cap2,g0,rfl,g1,g2,g3,g4⟩
      · exact absurd (List.length_eq_zero_iff.1 (by simpa using hne)) h0
      · have hlen : ((l1.length:Int) != (l2.length:Int))=false:=by rw [hne];simp
        have hle:l1.length<=l2.length:=by omega
        have hge:l2.length<=l1.length:=by omega
        have H4:=hide h4
        have G4:=hide g4
        clear hne h4 g4
        go_enter Tryz.func157,Tryz.ntmps157
        go_wp2
        go_loopw [5] (fun i wr=>∃ k:Nat,k<=l1.length/\i=.int .i64 k/\l1.take k=l2.take k/\Sm w wr) (fun i _=>l1.length - (intOf i).toNat)
        case atStart=>exact ⟨0,Nat.zero_le _,rfl,rfl,Sm.refl _⟩
        case round =>
          obtain ⟨k,hk,rfl,ht,hs⟩:=hrel
          have Ht:=hide ht
          clear ht
          by_cases hlt:k < l1.length
          · have hlt2 : k < l2.length:=by omega
            obtain ⟨c0,c1,c2,c3,c4⟩:=H4.out k hlt
            obtain ⟨d0,d1,d2,d3,d4⟩:=G4.out k hlt2
            replace c0:=(hs.cell ⟨b,off+k * 5,none⟩).trans c0
            replace d0:=(hs.cell ⟨b2,off2+k * 5,none⟩).trans d0
            replace c1:=(hs.cell ⟨b,off+k * 5+1,none⟩).trans c1
            replace d1:=(hs.cell ⟨b2,off2+k * 5+1,none⟩).trans d1
            replace c2:=(hs.cell ⟨b,off+k * 5+2,none⟩).trans c2
            replace d2:=(hs.cell ⟨b2,off2+k * 5+2,none⟩).trans d2
            replace c3:=(hs.cell ⟨b,off+k * 5+3,none⟩).trans c3
            replace d3:=(hs.cell ⟨b2,off2+k * 5+3,none⟩).trans d3
            replace c4:=(hs.cell ⟨b,off+k * 5+4,none⟩).trans c4
            replace d4:=(hs.cell ⟨b2,off2+k * 5+4,none⟩).trans d4
            have hli:(k:Int) < (l1.length:Int):=by omega
            have hli2:(k:Int) < (l2.length:Int):=by omega
            have Hnx:Hid (l1[k]=l2[k]->l1.take (k+1)=l2.take (k+1)):=hide (fun he=>take_eq_snoc hlt hlt2 Ht.out he)
            have Hno:Hid (l1[k] ≠ l2[k]->decide (l1=l2)=false):=hide (fun he=>by rw [decide_eq_false];intro e;subst e;exact he rfl)
            generalize l1[k]=p at c0 c1 c2 c3 c4 Hnx Hno
            generalize l2[k]=q at d0 d1 d2 d3 d4 Hnx Hno
            obtain ⟨x0,x1,x2,x3,x4⟩:=p
            obtain ⟨y0,y1,y2,y3,y4⟩:=q
            simp only at c0 d0 c1 d1 c2 d2 c3 d3 c4 d4
            by_cases e0:x0=y0
            · subst e0
              by_cases e1:x1=y1
              · subst e1
                by_cases e2:x2=y2
                · subst e2
                  by_cases e3:x3=y3
                  · subst e3
                    by_cases e4:x4=y4
                    · subst e4
                      have Hn2:=hide (Hnx.out rfl)
                      clear Hno Hnx
                      go_wp2
                      go_quiet (fail)
                      go_wp2
                      go_roundw
                      case rel=>exact ⟨k+1,by omega,by go_num,Hn2.out,hs.drewN _⟩
                      case measure=>simp [intOf];omega
                    · have Hno:=hide (Hno.out (by intro h;simp only [Prod.mk.injEq] at h;exact e4 h.2.2.2.2))
                      have hq:=int_ne e4
                      have hq2:(x4 == y4)=false:=by rw [beq_eq_false_iff_ne];exact e4
                      clear e4 Hnx
                      go_wp2
                      go_quiet (fail)
                      go_wp2
                      go_ret
                      exact ⟨ret_bool Hno.out.symm,hs.drewN _⟩
                  · have Hno:=hide (Hno.out (by intro h;simp only [Prod.mk.injEq] at h;exact e3 h.2.2.2.1))
                    have hq:=int_ne e3
                    have hq2:(x3 == y3)=false:=by rw [beq_eq_false_iff_ne];exact e3
                    clear e3 Hnx
                    go_wp2
                    go_quiet (fail)
                    go_wp2
                    go_ret
                    exact ⟨ret_bool Hno.out.symm,hs.drewN _⟩
                · have Hno:=hide (Hno.out (by intro h;simp only [Prod.mk.injEq] at h;exact e2 h.2.2.1))
                  have hq:=bytes_ne e2
                  clear e2 Hnx
                  go_wp2
                  go_quiet (fail)
                  go_wp2
                  go_ret
                  exact ⟨ret_bool Hno.out.symm,hs.drewN _⟩
              · have Hno:=hide (Hno.out (by intro h;simp only [Prod.mk.injEq] at h;exact e1 h.2.1))
                have hq:=bytes_ne e1
                clear e1 Hnx
                go_wp2
                go_quiet (fail)
                go_wp2
                go_ret
                exact ⟨ret_bool Hno.out.symm,hs.drewN _⟩
            · have Hno:=hide (Hno.out (by intro h;simp only [Prod.mk.injEq] at h;exact e0 h.1))
              have hq:=int_ne e0
              have hq2:(x0 == y0)=false:=by rw [beq_eq_false_iff_ne];exact e0
              clear e0 Hnx
              go_wp2
              go_quiet (fail)
              go_wp2
              go_ret
              exact ⟨ret_bool Hno.out.symm,hs.drewN _⟩
          · have hf:Hid (decide (l1=l2)=true):=hide (by
              rw [decide_eq_true]
              have:=Ht.out
              rwa [List.take_of_length_le (by omega),List.take_of_length_le (by omega)] at this)
            go_wp2
            go_ret
            exact ⟨ret_bool hf.out.symm,hs⟩
  · obtain ⟨a,cap,rfl⟩:=hr1.shape
    obtain ⟨a2,cap2,rfl⟩:=hr2.shape
    clear hr1 hr2
    have hlen:((l1.length:Int) != (l2.length:Int))=true:=by rw [bne_iff_ne];omega
    have hf:Hid (decide (l1=l2)=false):=hide (by rw [decide_eq_false];intro e;subst e;exact hne rfl)
    clear hne
    go_enter Tryz.func157,Tryz.ntmps157
    go_wp2
    go_ret
    exact ⟨ret_bool hf.out.symm,Sm.refl _⟩
theorem specSameV_any (v1 v2:Value) (l1 l2:List Vl) (w:World) (hr1:RdV w v1 l1) (hr2:RdV w v2 l2) (hl1:l1.length<=4000000) (hl2:l2.length<=4000000) :
    Calls Tryz.prog 158 #[v1,v2] w fun e w'=>e=.returned (.bool (decide (l1=l2)))/\Sm w w':=by
  by_cases hne:l1.length=l2.length
  · rcases hr1 with ⟨a,cap,rfl,rfl,-⟩ | ⟨b,off,cap,h0,rfl,h1,h2,h3,h4⟩
    · have e2:l2=[]:=List.length_eq_zero_iff.1 (by simpa using hne.symm)
      subst e2
      obtain ⟨a2,cap2,rfl⟩:=hr2.shape
      clear hr2
      go_enter Tryz.func158,Tryz.ntmps158
      go_wp2
      refine wp_loop_rounds 1 ?_
      rw [rounds_succ]
      go_wp2
      go_ret
      exact ⟨rfl,Sm.refl _⟩
    · rcases hr2 with ⟨a2,cap2,rfl,rfl,-⟩ | ⟨b2,off2,cap2,g0,rfl,g1,g2,g3,g4⟩
      · exact absurd (List.length_eq_zero_iff.1 (by simpa using hne)) h0
      · have hlen:((l1.length:Int) != (l2.length:Int))=false:=by rw [hne];simp
        have hle:l1.length<=l2.length:=by omega
        have hge:l2.length<=l1.length:=by omega
        have H4:=hide h4
        have G4:=hide g4
        clear hne h4 g4
        go_enter Tryz.func158,Tryz.ntmps158
        go_wp2
        go_loopw [5] (fun i wr=>∃ k:Nat,k<=l1.length/\i=.int .i64 k/\l1.take k=l2.take k/\Sm w wr) (fun i _=>l1.length - (intOf i).toNat)
        case atStart=>exact ⟨0,Nat.zero_le _,rfl,rfl,Sm.refl _⟩
        case round =>
          obtain ⟨k,hk,rfl,ht,hs⟩:=hrel
          have Ht:=hide ht
          clear ht
          by_cases hlt:k < l1.length
          · have hlt2:k < l2.length:=by omega
            obtain ⟨c0,c1⟩:=H4.out k hlt
            obtain ⟨d0,d1⟩:=G4.out k hlt2
            replace c0:=(hs.cell ⟨b,off+k * 2,none⟩).trans c0
            replace d0:=(hs.cell ⟨b2,off2+k * 2,none⟩).trans d0
            replace c1:=(hs.cell ⟨b,off+k * 2+1,none⟩).trans c1
            replace d1:=(hs.cell ⟨b2,off2+k * 2+1,none⟩).trans d1
            have hli:(k:Int) < (l1.length:Int):=by omega
            have hli2:(k:Int) < (l2.length:Int):=by omega
            have Hnx:Hid (l1[k]=l2[k]->l1.take (k+1)=l2.take (k+1)):=hide (fun he=>take_eq_snoc hlt hlt2 Ht.out he)
            have Hno:Hid (l1[k] ≠ l2[k]->decide (l1=l2)=false):=hide (fun he=>by rw [decide_eq_false];intro e;subst e;exact he rfl)
            generalize l1[k]=p at c0 c1 Hnx Hno
            generalize l2[k]=q at d0 d1 Hnx Hno
            obtain ⟨x0,x1⟩:=p
            obtain ⟨y0,y1⟩:=q
            simp only at c0 d0 c1 d1
            by_cases e0:x0=y0
            · subst e0
              by_cases e1:x1=y1
              · subst e1
                have Hn2:=hide (Hnx.out rfl)
                clear Hno Hnx
                go_wp2
                go_quiet (fail)
                go_wp2
                go_roundw
                case rel=>exact ⟨k+1,by omega,by go_num,Hn2.out,hs.drewN _⟩
                case measure=>simp [intOf];omega
              · have Hno:=hide (Hno.out (by intro h;simp only [Prod.mk.injEq] at h;exact e1 h.2))
                have hq:=int_ne e1
                have hq2:(x1 == y1)=false:=by rw [beq_eq_false_iff_ne];exact e1
                clear e1 Hnx
                go_wp2
                go_quiet (fail)
                go_wp2
                go_ret
                exact ⟨ret_bool Hno.out.symm,hs.drewN _⟩
            · have Hno:=hide (Hno.out (by intro h;simp only [Prod.mk.injEq] at h;exact e0 h.1))
              have hq:=bytes_ne e0
              clear e0 Hnx
              go_wp2
              go_quiet (fail)
              go_wp2
              go_ret
              exact ⟨ret_bool Hno.out.symm,hs.drewN _⟩
          · have hf:Hid (decide (l1=l2)=true):=hide (by
              rw [decide_eq_true]
              have:=Ht.out
              rwa [List.take_of_length_le (by omega),List.take_of_length_le (by omega)] at this)
            go_wp2
            go_ret
            exact ⟨ret_bool hf.out.symm,hs⟩
  · obtain ⟨a,cap,rfl⟩:=hr1.shape
    obtain ⟨a2,cap2,rfl⟩:=hr2.shape
    clear hr1 hr2
    have hlen:((l1.length:Int) != (l2.length:Int))=true:=by rw [bne_iff_ne];omega
    have hf:Hid (decide (l1=l2)=false):=hide (by rw [decide_eq_false];intro e;subst e;exact hne rfl)
    clear hne
    go_enter Tryz.func158,Tryz.ntmps158
    go_wp2
    go_ret
    exact ⟨ret_bool hf.out.symm,Sm.refl _⟩
theorem equalT_any (v1 v2:Value) (l1 l2:List Tx5) (w:World) (hr1:RdT w v1 l1) (hr2:RdT w v2 l2) (hl1:l1.length<=4000000) (hl2:l2.length<=4000000) :
    Calls Tryz.prog 233 #[v1,v2] w fun e w'=>e=.returned (.bool (decide (l1=l2)))/\Sm w w':=by
  by_cases hne:l1.length=l2.length
  · rcases hr1 with ⟨a,cap,rfl,rfl,-⟩ | ⟨b,off,cap,h0,rfl,h1,h2,h3,h4⟩
    · have e2:l2=[]:=List.length_eq_zero_iff.1 (by simpa using hne.symm)
      subst e2
      obtain ⟨a2,cap2,rfl⟩:=hr2.shape
      clear hr2
      go_enter Tryz.func233,Tryz.ntmps233
      go_wp2
      refine wp_loop_rounds 1 ?_
      rw [rounds_succ]
      go_wp2
      go_ret
      exact ⟨rfl,Sm.refl _⟩
    · rcases hr2 with ⟨a2,cap2,rfl,rfl,-⟩ | ⟨b2,off2,cap2,g0,rfl,g1,g2,g3,g4⟩
      · exact absurd (List.length_eq_zero_iff.1 (by simpa using hne)) h0
      · have hlen : ((l1.length:Int) != (l2.length:Int))=false:=by rw [hne];simp
        have hle:l1.length<=l2.length:=by omega
        have hge:l2.length<=l1.length:=by omega
        have H4:=hide h4
        have G4:=hide g4
        clear hne h4 g4
        go_enter Tryz.func233,Tryz.ntmps233
        go_wp2
        go_loopw [13] (fun i wr=>∃ k:Nat,k<=l1.length/\i=.int .i64 k/\l1.take k=l2.take k/\Sm w wr) (fun i _=>l1.length - (intOf i).toNat)
        case atStart=>exact ⟨0,Nat.zero_le _,rfl,rfl,Sm.refl _⟩
        case round =>
          obtain ⟨k,hk,rfl,ht,hs⟩:=hrel
          have Ht:=hide ht
          clear ht
          by_cases hlt:k < l1.length
          · have hlt2 : k < l2.length:=by omega
            obtain ⟨c0,c1,c2,c3,c4⟩:=H4.out k hlt
            obtain ⟨d0,d1,d2,d3,d4⟩:=G4.out k hlt2
            replace c0:=(hs.cell ⟨b,off+k * 5,none⟩).trans c0
            replace d0:=(hs.cell ⟨b2,off2+k * 5,none⟩).trans d0
            replace c1:=(hs.cell ⟨b,off+k * 5+1,none⟩).trans c1
            replace d1:=(hs.cell ⟨b2,off2+k * 5+1,none⟩).trans d1
            replace c2:=(hs.cell ⟨b,off+k * 5+2,none⟩).trans c2
            replace d2:=(hs.cell ⟨b2,off2+k * 5+2,none⟩).trans d2
            replace c3:=(hs.cell ⟨b,off+k * 5+3,none⟩).trans c3
            replace d3:=(hs.cell ⟨b2,off2+k * 5+3,none⟩).trans d3
            replace c4:=(hs.cell ⟨b,off+k * 5+4,none⟩).trans c4
            replace d4:=(hs.cell ⟨b2,off2+k * 5+4,none⟩).trans d4
            have hli:(k:Int) < (l1.length:Int):=by omega
            have hli2:(k:Int) < (l2.length:Int):=by omega
            have Hnx:Hid (l1[k]=l2[k]->l1.take (k+1)=l2.take (k+1)):=hide (fun he=>take_eq_snoc hlt hlt2 Ht.out he)
            have Hno:Hid (l1[k] ≠ l2[k]->decide (l1=l2)=false):=hide (fun he=>by rw [decide_eq_false];intro e;subst e;exact he rfl)
            generalize l1[k]=p at c0 c1 c2 c3 c4 Hnx Hno
            generalize l2[k]=q at d0 d1 d2 d3 d4 Hnx Hno
            obtain ⟨x0,x1,x2,x3,x4⟩:=p
            obtain ⟨y0,y1,y2,y3,y4⟩:=q
            simp only at c0 d0 c1 d1 c2 d2 c3 d3 c4 d4
            by_cases e0:x0=y0
            · subst e0
              by_cases e1:x1=y1
              · subst e1
                by_cases e2:x2=y2
                · subst e2
                  by_cases e3:x3=y3
                  · subst e3
                    by_cases e4:x4=y4
                    · subst e4
                      have Hn2:=hide (Hnx.out rfl)
                      clear Hno Hnx
                      go_wp2
                      go_quiet (fail)
                      go_wp2
                      go_roundw
                      case rel=>exact ⟨k+1,by omega,by go_num,Hn2.out,hs.drewN _⟩
                      case measure=>simp [intOf];omega
                    · have Hno:=hide (Hno.out (by intro h;simp only [Prod.mk.injEq] at h;exact e4 h.2.2.2.2))
                      have hq:=int_ne e4
                      have hq2:(x4 == y4)=false:=by rw [beq_eq_false_iff_ne];exact e4
                      clear e4 Hnx
                      go_wp2
                      go_quiet (fail)
                      go_wp2
                      go_ret
                      exact ⟨ret_bool Hno.out.symm,hs.drewN _⟩
                  · have Hno:=hide (Hno.out (by intro h;simp only [Prod.mk.injEq] at h;exact e3 h.2.2.2.1))
                    have hq:=int_ne e3
                    have hq2:(x3 == y3)=false:=by rw [beq_eq_false_iff_ne];exact e3
                    clear e3 Hnx
                    go_wp2
                    go_quiet (fail)
                    go_wp2
                    go_ret
                    exact ⟨ret_bool Hno.out.symm,hs.drewN _⟩
                · have Hno:=hide (Hno.out (by intro h;simp only [Prod.mk.injEq] at h;exact e2 h.2.2.1))
                  have hq:=bytes_ne e2
                  clear e2 Hnx
                  go_wp2
                  go_quiet (fail)
                  go_wp2
                  go_ret
                  exact ⟨ret_bool Hno.out.symm,hs.drewN _⟩
              · have Hno:=hide (Hno.out (by intro h;simp only [Prod.mk.injEq] at h;exact e1 h.2.1))
                have hq:=bytes_ne e1
                clear e1 Hnx
                go_wp2
                go_quiet (fail)
                go_wp2
                go_ret
                exact ⟨ret_bool Hno.out.symm,hs.drewN _⟩
            · have Hno:=hide (Hno.out (by intro h;simp only [Prod.mk.injEq] at h;exact e0 h.1))
              have hq:=int_ne e0
              have hq2:(x0 == y0)=false:=by rw [beq_eq_false_iff_ne];exact e0
              clear e0 Hnx
              go_wp2
              go_quiet (fail)
              go_wp2
              go_ret
              exact ⟨ret_bool Hno.out.symm,hs.drewN _⟩
          · have hf:Hid (decide (l1=l2)=true):=hide (by
              rw [decide_eq_true]
              have:=Ht.out
              rwa [List.take_of_length_le (by omega),List.take_of_length_le (by omega)] at this)
            go_wp2
            go_ret
            exact ⟨ret_bool hf.out.symm,hs⟩
  · obtain ⟨a,cap,rfl⟩:=hr1.shape
    obtain ⟨a2,cap2,rfl⟩:=hr2.shape
    clear hr1 hr2
    have hlen:((l1.length:Int) != (l2.length:Int))=true:=by rw [bne_iff_ne];omega
    have hf:Hid (decide (l1=l2)=false):=hide (by rw [decide_eq_false];intro e;subst e;exact hne rfl)
    clear hne
    go_enter Tryz.func233,Tryz.ntmps233
    go_wp2
    go_ret
    exact ⟨ret_bool hf.out.symm,Sm.refl _⟩
theorem equalV_any (v1 v2:Value) (l1 l2:List Vl) (w:World) (hr1:RdV w v1 l1) (hr2:RdV w v2 l2) (hl1:l1.length<=4000000) (hl2:l2.length<=4000000) :
    Calls Tryz.prog 234 #[v1,v2] w fun e w'=>e=.returned (.bool (decide (l1=l2)))/\Sm w w':=by
  by_cases hne:l1.length=l2.length
  · rcases hr1 with ⟨a,cap,rfl,rfl,-⟩ | ⟨b,off,cap,h0,rfl,h1,h2,h3,h4⟩
    · have e2:l2=[]:=List.length_eq_zero_iff.1 (by simpa using hne.symm)
      subst e2
      obtain ⟨a2,cap2,rfl⟩:=hr2.shape
      clear hr2
      go_enter Tryz.func234,Tryz.ntmps234
      go_wp2
      refine wp_loop_rounds 1 ?_
      rw [rounds_succ]
      go_wp2
      go_ret
      exact ⟨rfl,Sm.refl _⟩
    · rcases hr2 with ⟨a2,cap2,rfl,rfl,-⟩ | ⟨b2,off2,cap2,g0,rfl,g1,g2,g3,g4⟩
      · exact absurd (List.length_eq_zero_iff.1 (by simpa using hne)) h0
      · have hlen:((l1.length:Int) != (l2.length:Int))=false:=by rw [hne];simp
        have hle:l1.length<=l2.length:=by omega
        have hge:l2.length<=l1.length:=by omega
        have H4:=hide h4
        have G4:=hide g4
        clear hne h4 g4
        go_enter Tryz.func234,Tryz.ntmps234
        go_wp2
        go_loopw [13] (fun i wr=>∃ k:Nat,k<=l1.length/\i=.int .i64 k/\l1.take k=l2.take k/\Sm w wr) (fun i _=>l1.length - (intOf i).toNat)
        case atStart=>exact ⟨0,Nat.zero_le _,rfl,rfl,Sm.refl _⟩
        case round =>
          obtain ⟨k,hk,rfl,ht,hs⟩:=hrel
          have Ht:=hide ht
          clear ht
          by_cases hlt:k < l1.length
          · have hlt2:k < l2.length:=by omega
            obtain ⟨c0,c1⟩:=H4.out k hlt
            obtain ⟨d0,d1⟩:=G4.out k hlt2
            replace c0:=(hs.cell ⟨b,off+k * 2,none⟩).trans c0
            replace d0:=(hs.cell ⟨b2,off2+k * 2,none⟩).trans d0
            replace c1:=(hs.cell ⟨b,off+k * 2+1,none⟩).trans c1
            replace d1:=(hs.cell ⟨b2,off2+k * 2+1,none⟩).trans d1
            have hli:(k:Int) < (l1.length:Int):=by omega
            have hli2:(k:Int) < (l2.length:Int):=by omega
            have Hnx:Hid (l1[k]=l2[k]->l1.take (k+1)=l2.take (k+1)):=hide (fun he=>take_eq_snoc hlt hlt2 Ht.out he)
            have Hno:Hid (l1[k] ≠ l2[k]->decide (l1=l2)=false):=hide (fun he=>by rw [decide_eq_false];intro e;subst e;exact he rfl)
            generalize l1[k]=p at c0 c1 Hnx Hno
            generalize l2[k]=q at d0 d1 Hnx Hno
            obtain ⟨x0,x1⟩:=p
            obtain ⟨y0,y1⟩:=q
            simp only at c0 d0 c1 d1
            by_cases e0:x0=y0
            · subst e0
              by_cases e1:x1=y1
              · subst e1
                have Hn2:=hide (Hnx.out rfl)
                clear Hno Hnx
                go_wp2
                go_quiet (fail)
                go_wp2
                go_roundw
                case rel=>exact ⟨k+1,by omega,by go_num,Hn2.out,hs.drewN _⟩
                case measure=>simp [intOf];omega
              · have Hno:=hide (Hno.out (by intro h;simp only [Prod.mk.injEq] at h;exact e1 h.2))
                have hq:=int_ne e1
                have hq2:(x1 == y1)=false:=by rw [beq_eq_false_iff_ne];exact e1
                clear e1 Hnx
                go_wp2
                go_quiet (fail)
                go_wp2
                go_ret
                exact ⟨ret_bool Hno.out.symm,hs.drewN _⟩
            · have Hno:=hide (Hno.out (by intro h;simp only [Prod.mk.injEq] at h;exact e0 h.1))
              have hq:=bytes_ne e0
              clear e0 Hnx
              go_wp2
              go_quiet (fail)
              go_wp2
              go_ret
              exact ⟨ret_bool Hno.out.symm,hs.drewN _⟩
          · have hf:Hid (decide (l1=l2)=true):=hide (by
              rw [decide_eq_true]
              have:=Ht.out
              rwa [List.take_of_length_le (by omega),List.take_of_length_le (by omega)] at this)
            go_wp2
            go_ret
            exact ⟨ret_bool hf.out.symm,hs⟩
  · obtain ⟨a,cap,rfl⟩:=hr1.shape
    obtain ⟨a2,cap2,rfl⟩:=hr2.shape
    clear hr1 hr2
    have hlen:((l1.length:Int) != (l2.length:Int))=true:=by rw [bne_iff_ne];omega
    have hf:Hid (decide (l1=l2)=false):=hide (by rw [decide_eq_false];intro e;subst e;exact hne rfl)
    clear hne
    go_enter Tryz.func234,Tryz.ntmps234
    go_wp2
    go_ret
    exact ⟨ret_bool hf.out.symm,Sm.refl _⟩
def sq9 (a b:Bk):Bool:=decide (a.qr=b.qr) && (decide (a.qb=b.qb) && decide (a.qw=b.qw))
def st9 (a b:Bk):Bool:=decide (a.tr=b.tr) && (decide (a.tw=b.tw) && decide (a.th=b.th))
def sb9 (a b:Bk):Bool:=decide (a.id=b.id) && (decide (a.ep=b.ep) && (decide (a.rd=b.rd) && (decide (a.md=b.md) && (sq9 a b && (st9 a b && (decide (a.ts=b.ts) && (decide (a.en=b.en) && (decide (a.nx=b.nx) && decide (a.rt=b.rt)))))))))
theorem int_bf {a b:Int} (h:a ≠ b):(a == b)=false:=by rw [beq_eq_false_iff_ne];exact h
end Go.Proofs.YtckahjabljffjaaGreat
