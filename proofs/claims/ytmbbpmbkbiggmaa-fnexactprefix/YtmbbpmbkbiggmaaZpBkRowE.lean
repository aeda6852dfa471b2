/- Rows that are the same. -/
import Derived.Test.YtmbbpmbkbiggmaaZpBkVal
set_option maxRecDepth 20000
set_option maxHeartbeats 1000000
namespace Go.Proofs.Ytmbbpmbkbiggmaa
open Go.RowKit
set_option linter.unusedVariables false
theorem equalI_any (v1 v2:Value) (l1 l2:List Int) (w:World) (hr1:RdI w v1 l1) (hr2:RdI w v2 l2) (hl1:l1.length<=4000000) (hl2:l2.length<=4000000) :
    Calls Try.prog 48 #[v1,v2] w fun e w'=>e=.returned (.bool (decide (l1=l2)))/\Sm w w':=by
  by_cases hne:l1.length=l2.length
  · rcases hr1 with ⟨a,cap,rfl,rfl,-⟩ | ⟨b,off,cap,h0,rfl,h1,h2,h3,h4⟩
    · have e2:l2=[]:=List.length_eq_zero_iff.1 (by simpa using hne.symm)
      subst e2
      obtain ⟨a2,cap2,rfl⟩:=hr2.shape
      clear hr2
      go_enter Try.func48,Try.ntmps48
      go_wp2
      refine wp_loop_rounds 1 ?_
      rw [rounds_succ]
      go_wp2
      go_ret
      exact ⟨rfl,Sm.refl _⟩
    · rcases hr2 with ⟨a2,cap2,rfl,rfl,-⟩ | ⟨b2,off2,cap2,g0,rfl,g1,g2,g3,g4⟩
      · exact absurd (List.length_eq_zero_iff.1 (by simpa using hne)) h0
      · have Hne:=hide hne
        have hlen:((l1.length:Int) != (l2.length:Int))=false:=by rw [hne];simp
        have hle:l1.length<=l2.length:=by omega
        have hge:l2.length<=l1.length:=by omega
        have H4:=hide h4
        have G4:=hide g4
        clear hne h4 g4
        go_enter Try.func48,Try.ntmps48
        go_wp2
        go_loopw [13] (fun i wr=>∃ k:Nat,k<=l1.length/\i=.int .i64 k/\l1.take k=l2.take k/\Sm w wr) (fun i _=>l1.length - (intOf i).toNat)
        case atStart=>exact ⟨0,Nat.zero_le _,rfl,rfl,Sm.refl _⟩
        case round =>
          obtain ⟨k,hk,rfl,ht,hs⟩:=hrel
          have Ht:=hide ht
          clear ht
          by_cases hlt:k < l1.length
          · have hlt2:k < l2.length:=by omega
            have hc1:wr.cell? ⟨b,off+k,none⟩=some (.int .i64 l1[k]):=(hs.cell _).trans (H4.out k hlt)
            have hc2:wr.cell? ⟨b2,off2+k,none⟩=some (.int .i64 l2[k]):=(hs.cell _).trans (G4.out k hlt2)
            have hli:(k:Int) < (l1.length:Int):=by omega
            have hli2:(k:Int) < (l2.length:Int):=by omega
            by_cases he:l1[k]=l2[k]
            · have Hnx:=hide (take_eq_snoc hlt hlt2 Ht.out he)
              rw [<- he] at hc2
              clear he
              generalize l1[k]=s1 at hc1 hc2
              go_wp2
              go_quiet (fail)
              go_wp2
              go_roundw
              case rel=>exact ⟨k+1,by omega,by go_num,Hnx.out,hs.drewN _⟩
              case measure=>simp [intOf];omega
            · have hf:Hid (decide (l1=l2)=false):=hide (by rw [decide_eq_false];intro e;subst e;exact he rfl)
              have hq:=int_ne he
              clear he
              generalize l1[k]=s1 at hc1 hq
              generalize l2[k]=s2 at hc2 hq
              go_wp2
              go_quiet (fail)
              go_wp2
              go_ret
              exact ⟨ret_bool hf.out.symm,hs.drewN _⟩
          · have hf:Hid (decide (l1=l2)=true):=hide (by
              rw [decide_eq_true]
              have:=Ht.out
              rwa [List.take_of_length_le (by omega),List.take_of_length_le (by omega)] at this)
            go_wp2
            go_ret
            exact ⟨ret_bool hf.out.symm,hs⟩
  · obtain ⟨a,cap,rfl⟩:=hr1.shape
    obtain ⟨a2,cap2,rfl⟩:=hr2.shape
    clear hr1 hr2
    have hlen:((l1.length:Int) != (l2.length:Int))=true:=by rw [bne_iff_ne];omega
    have hf:Hid (decide (l1=l2)=false):=hide (by rw [decide_eq_false];intro e;subst e;exact hne rfl)
    clear hne
    go_enter Try.func48,Try.ntmps48
    go_wp2
    go_ret
    exact ⟨ret_bool hf.out.symm,Sm.refl _⟩
end Go.Proofs.Ytmbbpmbkbiggmaa
